/-
  Facts and contracts that the proof of HetEnds uses.
-/
import Derived.Test.YtkdceahmknhojaaRows
import Derived.WalkKit
import Derived.Lib.Hide
import Derived.KernelRfl
import Derived.Deep.RegionWith
import Derived.Deep.RegionHeld3
import Derived.Deep.AppendLies
import Derived.Laws.Rows
import Derived.Laws.IdiomCopy
import Derived.Deep.Slices
import Derived.Lib.QuietBelow
import Derived.StillTailTactics
import Derived.BigQuiet
import Derived.IntWalk
import Derived.OwnWalk
import Derived.Deep.RegionLaw
import Derived.Deep.QuietTactic
import Derived.Deep.LoopGhost
import Derived.Deep.DeepCutAuto
import Derived.Deep.MidRow
import Derived.OrdersHeld
import Derived.Laws.Tables
import Derived.Laws.CopyOwn
import Derived.Laws.CopyRow
import Derived.Deep.RegionHeld
import Derived.ProofKit
import Derived.OpenShut
import Derived.Carry
import Derived.ChangeSlices
import Derived.JoinedOf
import Derived.Test.YtkdceahmknhojaaHetEndsQ3
namespace Go.Proofs.Ytkdceahmknhojaa
open Go.RowKit
set_option maxRecDepth 20000 in
set_option maxHeartbeats 4000000 in
theorem hself_any (i : Int) (a : Tm) (x : Tm) (P : Nat → Prop) (w : World) (sa : Value) (sx : Value) (hri : I64 i) (hfa : a.fine) (hla : LiesQ w P a.kids sa) (hfx : x.fine) (hlx : LiesQ w P x.kids sx) : Calls Try.prog 43 #[.int .i64 i, tv a sa, tv x sx] w (GivesHP P (heSelf i a x) w) := by
  have Ri := Lib.hid hri
  clear hri
  have Ga := Lib.hid hfa
  clear hfa
  obtain ⟨aa, ca, Sa, rfl, -⟩ := hla.out
  have Gx := Lib.hid hfx
  clear hfx
  obtain ⟨ax, cx, Sx, rfl, -⟩ := hlx.out
  obtain ⟨du, hu1, hu2⟩ := under_term
  obtain ⟨dh, dh1, dh2⟩ := under_of 51 (by kernel_rfl)
  unfold tv
  go_enter Try.func43, Try.ntmps43
  go_upto_region 1 with fail
  refine at_code (fun V0 hV0 => ?_)
  obtain ⟨k4, x1, x2, x3, z5⟩ := alloc3 hV0
  have Kk6 := Lib.hid k4
  clear k4
  have Hx1 := Lib.hid x1
  have Hx2 := Lib.hid x2
  have Hx3 := Lib.hid x3
  have Z0 := Lib.hid z5
  clear z5 x1 x2 x3 hV0
  have HLa : Hid (LiesQ V0 (Par w V0.heap.size [] P) a.kids _) := (par_in _ _ hla).later Kk6.out
  clear hla
  have HLx : Hid (LiesQ V0 (Par w V0.heap.size [] P) x.kids _) := (par_in _ _ hlx).later Kk6.out
  clear hlx
  have kvV0 : Sees V0 (w.heap.size + 2) V0 := sees_kept _ (kept_refl _)
  go_wp2_with (refine stop_load 32 (.tmp 4) rfl ?_)
  intro _
  refine wpList_load_part (w.heap.size) 0 32 (.tmp 4) #[.int .i64 a.k, .int .i64 a.i, .int .i64 a.j, .int .i64 a.n, (.slice aa a.kids.length ca)] du Hx1.out (by rfl) rfl (by rfl) (by rfl) hu1 (by cases du <;> first | rfl | exact hu2) size_term ?_
  go_wp2_with (refine stop_load 32 (.tmp 5) rfl ?_)
  intro _
  refine wpList_load_part (w.heap.size + 1) 0 32 (.tmp 5) #[.int .i64 x.k, .int .i64 x.i, .int .i64 x.j, .int .i64 x.n, (.slice ax x.kids.length cx)] du Hx2.out (by rfl) rfl (by rfl) (by rfl) hu1 (by cases du <;> first | rfl | exact hu2) size_term ?_
  go_wp2_with fail
  refine at_world (fun W8 hW8 => ?_)
  clear kvV0
  obtain ⟨k10, x9, z11⟩ := alloc1 hW8
  have Kk12 := Lib.hid k10
  clear k10
  have Hx9 := Lib.hid x9
  have Hz11 := Lib.hid z11
  clear x9 z11 hW8
  have HR13 : Hid (LiesQ W8 (Par w V0.heap.size [] P) [a, x] (.slice (some ⟨V0.heap.size, 0, none⟩) 2 2)) := q_row [(a, (.slice aa a.kids.length ca)), (x, (.slice ax x.kids.length cx))] _ rfl Hx9.out (par_new (Nat.le_refl _) (xlt_nil _) (Nat.le_refl _)) (fun p hp => by
    simp only [List.mem_cons, List.not_mem_nil, or_false] at hp
    rcases hp with rfl | rfl
    · exact ⟨Ga.out, (HLa.out.later Kk12.out)⟩
    · exact ⟨Gx.out, (HLx.out.later Kk12.out)⟩) (Nat.le_of_ble_eq_true rfl)
  refine (hright_any i [a, x] _ _ HR13.out.lies).mono ?_
  obtain ⟨rb17, hb16⟩ : ∃ qb, heR2 i [a, x] = qb := ⟨_, rfl⟩
  rw [hb16]
  have Hhb16 := Lib.hid hb16
  clear hb16
  rintro e w14 ⟨rfl, k15⟩
  have Kk18 := Lib.hid k15
  clear k15
  cases rb17 with
  | false =>
    have kvV0 : Sees V0 (w.heap.size + 2) w14 := sees_kept _ (kept_trans Kk12.out Kk18.out)
    go_wp2_with (refine stop_store 51 (.tmp 6) (.tmp 14) rfl ?_)
    intro _
    refine wpList_store_part_n (by rfl) 51 (.tmp 6) (.tmp 14) rfl (w.heap.size + 2) 0 #[.int .i64 0, .int .i64 0, .int .i64 0, .int .i64 0, .int .i64 0, .slice none 0 0, .int .i64 0, .int .i64 0, .int .i64 0, .int .i64 0, .slice none 0 0, .int .i64 0, .int .i64 0, .int .i64 0, .int .i64 0, .slice none 0 0, .int .i64 0, .int .i64 0, .int .i64 0, .int .i64 0, .slice none 0 0, .int .i64 0, .int .i64 0, .int .i64 0, .int .i64 0, .slice none 0 0] (by rfl) (by rfl) 51 (by kernel_rfl) (row_ok rfl) ?_
    intro W19 hW19
    clear kvV0
    subst hW19
    refine ⟨_, #[.int .i64 0, .int .i64 0, .int .i64 0, .int .i64 0, .int .i64 0, .slice none 0 0, .int .i64 0, .int .i64 0, .int .i64 0, .int .i64 0, .slice none 0 0, .int .i64 0, .int .i64 0, .int .i64 0, .int .i64 0, .slice none 0 0, .int .i64 0, .int .i64 0, .int .i64 0, .int .i64 0, .slice none 0 0, .int .i64 0, .int .i64 0, .int .i64 0, .int .i64 0, .slice none 0 0], (blk_at Hx3.out (kept_trans Kk12.out Kk18.out)), rfl, Nat.le_of_ble_eq_true rfl, ?_⟩
    intro W20 hW20
    go_wp2_with fail
    refine bodyPost_ret (results_cell_row rfl _ _ (w.heap.size + 2) 51 _ _ dh rfl (blk_same (blk_at Hx3.out (kept_trans Kk12.out Kk18.out)) hW20) dh1 (by cases dh <;> first | rfl | exact dh2) (by kernel_rfl)) rfl ?_
    rw [show heSelf i a x = (⟨0, (.mk 0 0 0 0 []), (.mk 0 0 0 0 []), (.mk 0 0 0 0 []), (.mk 0 0 0 0 []), (.mk 0 0 0 0 [])⟩ : He) from by unfold heSelf; rw [Hhb16.out]; (try rfl)]
    exact ⟨_, _, _, _, _, rfl, ⟨par_end (par_row' (liesQ_nil w14 (Par w V0.heap.size [] P)) hW20 (by omega) (by have := Z0.out; omega)) (by have := Z0.out; omega), par_end (par_row' (liesQ_nil w14 (Par w V0.heap.size [] P)) hW20 (by omega) (by have := Z0.out; omega)) (by have := Z0.out; omega), par_end (par_row' (liesQ_nil w14 (Par w V0.heap.size [] P)) hW20 (by omega) (by have := Z0.out; omega)) (by have := Z0.out; omega), par_end (par_row' (liesQ_nil w14 (Par w V0.heap.size [] P)) hW20 (by omega) (by have := Z0.out; omega)) (by have := Z0.out; omega), par_end (par_row' (liesQ_nil w14 (Par w V0.heap.size [] P)) hW20 (by omega) (by have := Z0.out; omega)) (by have := Z0.out; omega)⟩, kept_set (kept_trans Kk6.out (kept_trans Kk12.out Kk18.out)) hW20 (by omega)⟩
  | true =>
    have ew21 : IntKind.i64.wrap (i + 1) = i + 1 := IntWalk.i64_in _ (by have := levN_true (heR2_lev Hhb16.out); omega)
    have kvV0 : Sees V0 (w.heap.size + 2) w14 := sees_kept _ (kept_trans Kk12.out Kk18.out)
    go_wp2_with fail
    clear kvV0
    obtain ⟨W22, h23⟩ : ∃ x, World.drew w14 = x := ⟨_, rfl⟩
    have k24 : Kept w14 W22 := by rw [← h23]; exact kept_drew (kept_refl _)
    have Kk25 := Lib.hid k24
    clear k24
    refine wp_region_held_drew (S := Sees W22 (w.heap.size + 2)) (by kernel_rfl) ?_ (fun hHeld => ?_)
    · (try dsimp only)
      rw [h23]
      exact sees_kept _ (kept_refl _)
    rw [h23] at hHeld ⊢
    clear h23
    refine take_at 0 15 hselfr3_0 (v := ?_) (Or.inl ⟨by rfl, ?_⟩) ?_
    rotate_left 1
    · ((intro w hSw; (try dsimp only at hSw); unfold hselfr3_0; go_simp) <;> with_reducible rfl)
    (try simp only [Act.put, List.setIfInBounds_toArray, List.set_cons_zero, List.set_cons_succ])
    refine take_at 2 17 hselfr3_2 (v := ?_) (Or.inl ⟨by rfl, ?_⟩) ?_
    rotate_left 1
    · ((intro w hSw; (try dsimp only at hSw); unfold hselfr3_2; go_simp) <;> with_reducible rfl)
    (try simp only [Act.put, List.setIfInBounds_toArray, List.set_cons_zero, List.set_cons_succ])
    refine take_at 3 18 hselfr3_3 (yields_part (w.heap.size) 0 32 (.tmp 4) #[.int .i64 a.k, .int .i64 a.i, .int .i64 a.j, .int .i64 a.n, (.slice aa a.kids.length ca)] du (fun _ h => sees_blk Hx1.out (by have := Z0.out; omega) (sees_of (kept_trans Kk12.out (kept_trans Kk18.out Kk25.out)) h)) (by rfl) rfl (by rfl) (by rfl) hu1 (by cases du <;> first | rfl | exact hu2) size_term) ?_
    (try simp only [Act.put, List.setIfInBounds_toArray, List.set_cons_zero, List.set_cons_succ])
    refine take_at 4 19 hselfr3_4 (yields_part (w.heap.size + 1) 0 32 (.tmp 5) #[.int .i64 x.k, .int .i64 x.i, .int .i64 x.j, .int .i64 x.n, (.slice ax x.kids.length cx)] du (fun _ h => sees_blk Hx2.out (by have := Z0.out; omega) (sees_of (kept_trans Kk12.out (kept_trans Kk18.out Kk25.out)) h)) (by rfl) rfl (by rfl) (by rfl) hu1 (by cases du <;> first | rfl | exact hu2) size_term) ?_
    (try simp only [Act.put, List.setIfInBounds_toArray, List.set_cons_zero, List.set_cons_succ])
    refine wpAnyH_ready (rs := [1, 8]) (by kernel_rfl) (by simp) ?_
    refine AllReadyH.cons (o := hselfr3_1) rfl (fun K hK => ?_) ?_
    · unfold hselfr3_1
      go_simp
      refine (hpoints_any i (Par w V0.heap.size [] P) _ Ri.out).mono ?_
      obtain ⟨U33, hU33⟩ : ∃ qu, pointsT i = qu := ⟨_, rfl⟩
      rw [hU33]
      have HU33 := Lib.hid hU33
      clear hU33
      rintro e w26 ⟨s28, rfl, hl29, k27⟩
      obtain ⟨a30, c31, S32, rfl, -⟩ := hl29.out
      have Kk34 := Lib.hid k27
      clear k27
      have Hhl29 : Hid (LiesQ w26 (Par w V0.heap.size [] P) U33.kids _) := par_give hl29 (Below.size (kept_trans Kk12.out (kept_trans Kk18.out Kk25.out))) (xlt_nil _)
      clear hl29
      clear hHeld
      refine hK.out _ _ ?_ (fun hHeld => ?_)
      · (try dsimp only)
        exact sees_kept _ Kk34.out
      clear hK K
      (try simp only [Act.put, List.setIfInBounds_toArray, List.set_cons_zero, List.set_cons_succ])
      refine wpAnyH_ready (rs := [5, 8]) (by kernel_rfl) (by simp) ?_
      refine AllReadyH.cons (o := hselfr3_5) rfl (fun K hK => ?_) ?_
      · unfold hselfr3_5
        go_simp
        refine (hpoint_any i a x (Par w V0.heap.size [] P) _ (.slice aa a.kids.length ca) (.slice ax x.kids.length cx) Ri.out Ga.out (HLa.out.later (kept_trans Kk12.out (kept_trans Kk18.out (kept_trans Kk25.out Kk34.out)))) Gx.out (HLx.out.later (kept_trans Kk12.out (kept_trans Kk18.out (kept_trans Kk25.out Kk34.out)))) (heR2_pl Hhb16.out _ (by simp)) (heR2_pl Hhb16.out _ (by simp))).mono ?_
        obtain ⟨U42, hU42⟩ : ∃ qu, pointT i a x = qu := ⟨_, rfl⟩
        rw [hU42]
        have HU42 := Lib.hid hU42
        clear hU42
        rintro e w35 ⟨s37, rfl, hl38, k36⟩
        obtain ⟨a39, c40, S41, rfl, -⟩ := hl38.out
        have Kk43 := Lib.hid k36
        clear k36
        have Hhl38 : Hid (LiesQ w35 (Par w V0.heap.size [] P) U42.kids _) := par_give hl38 (Below.size (kept_trans Kk12.out (kept_trans Kk18.out (kept_trans Kk25.out Kk34.out)))) (xlt_nil _)
        clear hl38
        clear hHeld
        refine hK.out _ _ ?_ (fun hHeld => ?_)
        · (try dsimp only)
          exact sees_kept _ (kept_trans Kk34.out Kk43.out)
        clear hK K
        (try simp only [Act.put, List.setIfInBounds_toArray, List.set_cons_zero, List.set_cons_succ])
        refine wpAnyH_ready (rs := [6, 8]) (by kernel_rfl) (by simp) ?_
        refine AllReadyH.cons (o := hselfr3_6) rfl (fun K hK => ?_) ?_
        · unfold hselfr3_6
          go_simp
          refine at_K (fun W45 hW45 => ?_)
          obtain ⟨k47, x46, z48⟩ := alloc1 hW45
          have Kk49 := Lib.hid k47
          clear k47
          have Hx46 := Lib.hid x46
          have Hz48 := Lib.hid z48
          clear x46 z48 hW45
          have HR50 : Hid (LiesQ W45 (Par w V0.heap.size [] P) [U33, U42] (.slice (some ⟨w35.heap.size, 0, none⟩) 2 2)) := q_row [(U33, (.slice a30 U33.kids.length c31)), (U42, (.slice a39 U42.kids.length c40))] _ rfl Hx46.out (par_new (Below.size (kept_trans Kk12.out (kept_trans Kk18.out (kept_trans Kk25.out (kept_trans Kk34.out Kk43.out))))) (xlt_nil _) (Nat.le_refl _)) (fun p hp => by
            simp only [List.mem_cons, List.not_mem_nil, or_false] at hp
            rcases hp with rfl | rfl
            · exact ⟨(by rw [← HU33.out]; exact (right_fine (plain_right (points_plain (heR2_lev Hhb16.out))))), (Hhl29.out.later (kept_trans Kk43.out Kk49.out))⟩
            · exact ⟨(by rw [← HU42.out]; exact (right_fine (plain_right (point_plain (heR2_lev Hhb16.out) (heR2_pl Hhb16.out _ (by simp)) (heR2_pl Hhb16.out _ (by simp)))))), (Hhl38.out.later Kk49.out)⟩) (Nat.le_of_ble_eq_true rfl)
          clear hHeld
          refine hK.out _ _ ?_ (fun hHeld => ?_)
          · (try dsimp only)
            exact sees_kept _ (kept_trans Kk34.out (kept_trans Kk43.out Kk49.out))
          clear hK K
          (try simp only [Act.put, List.setIfInBounds_toArray, List.set_cons_zero, List.set_cons_succ])
          refine take_at 7 22 hselfr3_7 (v := ?_) (Or.inl ⟨by rfl, ?_⟩) ?_
          rotate_left 1
          · ((intro w hSw; (try dsimp only at hSw); unfold hselfr3_7; go_simp) <;> with_reducible rfl)
          (try simp only [Act.put, List.setIfInBounds_toArray, List.set_cons_zero, List.set_cons_succ])
          refine wpAnyH_ready (rs := [8]) (by kernel_rfl) (by simp) ?_
          refine AllReadyH.cons (o := hselfr3_8) rfl (fun K hK => ?_) ?_
          · unfold hselfr3_8
            go_simp
            refine at_K (fun W51 hW51 => ?_)
            obtain ⟨k53, x52, z54⟩ := alloc1 hW51
            have Kk55 := Lib.hid k53
            clear k53
            have Hx52 := Lib.hid x52
            have Hz54 := Lib.hid z54
            clear x52 z54 hW51
            have HG56 : Hid (V0.heap.size ≤ W45.heap.size) := (Below.size (kept_trans Kk12.out (kept_trans Kk18.out (kept_trans Kk25.out (kept_trans Kk34.out (kept_trans Kk43.out Kk49.out))))))
            have XL57 := Lib.hid (xlt_more (xlt_nil _) Kk55.out (by have := Hz54.out; omega))
            have HL58 : Hid (LiesQ W51 (Par w V0.heap.size (W45.heap.size :: []) P) a.kids _) := (par_more (HLa.out.later (kept_trans Kk12.out (kept_trans Kk18.out (kept_trans Kk25.out (kept_trans Kk34.out (kept_trans Kk43.out Kk49.out))))))).later Kk55.out
            have HL59 : Hid (LiesQ W51 (Par w V0.heap.size (W45.heap.size :: []) P) x.kids _) := (par_more (HLx.out.later (kept_trans Kk12.out (kept_trans Kk18.out (kept_trans Kk25.out (kept_trans Kk34.out (kept_trans Kk43.out Kk49.out))))))).later Kk55.out
            have HL60 : Hid (LiesQ W51 (Par w V0.heap.size (W45.heap.size :: []) P) [a, x] _) := (par_more (HR13.out.later (kept_trans Kk18.out (kept_trans Kk25.out (kept_trans Kk34.out (kept_trans Kk43.out Kk49.out)))))).later Kk55.out
            have HL61 : Hid (LiesQ W51 (Par w V0.heap.size (W45.heap.size :: []) P) U33.kids _) := (par_more (Hhl29.out.later (kept_trans Kk43.out Kk49.out))).later Kk55.out
            have HL62 : Hid (LiesQ W51 (Par w V0.heap.size (W45.heap.size :: []) P) U42.kids _) := (par_more (Hhl38.out.later Kk49.out)).later Kk55.out
            have HL63 : Hid (LiesQ W51 (Par w V0.heap.size (W45.heap.size :: []) P) [U33, U42] _) := (par_more HR50.out).later Kk55.out
            clear hHeld
            refine hK.out _ _ ?_ (fun hHeld => ?_)
            · (try dsimp only)
              exact sees_kept _ (kept_trans Kk34.out (kept_trans Kk43.out (kept_trans Kk49.out Kk55.out)))
            clear hK K
            (try simp only [Act.put, List.setIfInBounds_toArray, List.set_cons_zero, List.set_cons_succ])
            refine wpAnyH_ready (rs := [9]) (by kernel_rfl) (by simp) ?_
            refine AllReadyH.cons (o := hselfr3_9) rfl (fun K hK => ?_) ?_
            · unfold hselfr3_9
              refine step_store_part rfl 32 (.tmp 7) (.tmp 22) rfl (W45.heap.size) 0 #[.int .i64 21, .int .i64 0, .int .i64 0, .int .i64 0, (.slice (some ⟨w35.heap.size, 0, none⟩) 2 2)] rfl rfl 32 size_term (row_ok rfl) _ #[.int .i64 21, .int .i64 0, .int .i64 0, .int .i64 0, (.slice (some ⟨w35.heap.size, 0, none⟩) 2 2)] Hx52.out rfl (Nat.le_of_ble_eq_true rfl) ?_
              intro W64 hW64
              have KB65 := Lib.hid (kept_set (kept_trans Kk6.out (kept_trans Kk12.out (kept_trans Kk18.out (kept_trans Kk25.out (kept_trans Kk34.out (kept_trans Kk43.out (kept_trans Kk49.out Kk55.out))))))) hW64 (by have := HG56.out; have := Z0.out; omega))
              have KB66 := Lib.hid (kept_set (kept_trans Kk12.out (kept_trans Kk18.out (kept_trans Kk25.out (kept_trans Kk34.out (kept_trans Kk43.out (kept_trans Kk49.out Kk55.out)))))) hW64 HG56.out)
              have KB67 := Lib.hid (kept_set (kept_trans Kk34.out (kept_trans Kk43.out (kept_trans Kk49.out Kk55.out))) hW64 (Below.size (kept_trans Kk34.out (kept_trans Kk43.out Kk49.out))))
              have HL68 : Hid (LiesQ W64 (Par w V0.heap.size (W45.heap.size :: []) P) a.kids _) := par_set HL58.out hW64 (List.mem_cons_self ..) (by have := HG56.out; have := Z0.out; omega)
              have HL69 : Hid (LiesQ W64 (Par w V0.heap.size (W45.heap.size :: []) P) x.kids _) := par_set HL59.out hW64 (List.mem_cons_self ..) (by have := HG56.out; have := Z0.out; omega)
              have HL70 : Hid (LiesQ W64 (Par w V0.heap.size (W45.heap.size :: []) P) [a, x] _) := par_set HL60.out hW64 (List.mem_cons_self ..) (by have := HG56.out; have := Z0.out; omega)
              have HL71 : Hid (LiesQ W64 (Par w V0.heap.size (W45.heap.size :: []) P) U33.kids _) := par_set HL61.out hW64 (List.mem_cons_self ..) (by have := HG56.out; have := Z0.out; omega)
              have HL72 : Hid (LiesQ W64 (Par w V0.heap.size (W45.heap.size :: []) P) U42.kids _) := par_set HL62.out hW64 (List.mem_cons_self ..) (by have := HG56.out; have := Z0.out; omega)
              have HL73 : Hid (LiesQ W64 (Par w V0.heap.size (W45.heap.size :: []) P) [U33, U42] _) := par_set HL63.out hW64 (List.mem_cons_self ..) (by have := HG56.out; have := Z0.out; omega)
              have XL74 := Lib.hid (xlt_set XL57.out hW64)
              have HX75 := Lib.hid (blk_same Hx52.out hW64)
              clear hW64
              clear hHeld
              refine hK.out _ _ ?_ (fun hHeld => ?_)
              · (try dsimp only)
                exact sees_kept _ KB67.out
              clear hK K
              (try simp only [Act.put])
              refine wpAnyH_done (by kernel_rfl) ?_ _
              clear hHeld
              have kvV0 : Sees V0 (w.heap.size + 2) W64 := sees_kept _ KB66.out
              have kvW64 : Sees W64 (w.heap.size + 2) W64 := sees_kept _ (kept_refl _)
              go_wp2_with (refine stop_load 32 (.tmp 4) rfl ?_)
              intro _
              refine wpList_load_part (w.heap.size) 0 32 (.tmp 4) #[.int .i64 a.k, .int .i64 a.i, .int .i64 a.j, .int .i64 a.n, (.slice aa a.kids.length ca)] du (blk_at Hx1.out KB66.out) (by rfl) rfl (by rfl) (by rfl) hu1 (by cases du <;> first | rfl | exact hu2) size_term ?_
              go_wp2_with (refine stop_load 32 (.tmp 4) rfl ?_)
              intro _
              refine wpList_load_part (w.heap.size) 0 32 (.tmp 4) #[.int .i64 a.k, .int .i64 a.i, .int .i64 a.j, .int .i64 a.n, (.slice aa a.kids.length ca)] du (blk_at Hx1.out KB66.out) (by rfl) rfl (by rfl) (by rfl) hu1 (by cases du <;> first | rfl | exact hu2) size_term ?_
              go_wp2_with (refine stop_load 32 (.tmp 5) rfl ?_)
              intro _
              refine wpList_load_part (w.heap.size + 1) 0 32 (.tmp 5) #[.int .i64 x.k, .int .i64 x.i, .int .i64 x.j, .int .i64 x.n, (.slice ax x.kids.length cx)] du (blk_at Hx2.out KB66.out) (by rfl) rfl (by rfl) (by rfl) hu1 (by cases du <;> first | rfl | exact hu2) size_term ?_
              go_wp2_with (refine stop_load 32 (.tmp 5) rfl ?_)
              intro _
              refine wpList_load_part (w.heap.size + 1) 0 32 (.tmp 5) #[.int .i64 x.k, .int .i64 x.i, .int .i64 x.j, .int .i64 x.n, (.slice ax x.kids.length cx)] du (blk_at Hx2.out KB66.out) (by rfl) rfl (by rfl) (by rfl) hu1 (by cases du <;> first | rfl | exact hu2) size_term ?_
              go_wp2_with (refine stop_load 32 (.tmp 7) rfl ?_)
              intro _
              refine wpList_load_part (W45.heap.size) 0 32 (.tmp 7) #[.int .i64 21, .int .i64 0, .int .i64 0, .int .i64 0, (.slice (some ⟨w35.heap.size, 0, none⟩) 2 2)] du HX75.out (by rfl) rfl (by rfl) (by rfl) hu1 (by cases du <;> first | rfl | exact hu2) size_term ?_
              go_wp2_with fail
              clear kvV0
              clear kvW64
              refine (hfresh_any (⟨i, a, a, x, x, (.mk 21 0 0 0 [U33, U42])⟩ : He) (Par w V0.heap.size (W45.heap.size :: []) P) _ (.slice aa a.kids.length ca) (.slice aa a.kids.length ca) (.slice ax x.kids.length cx) (.slice ax x.kids.length cx) (.slice (some ⟨w35.heap.size, 0, none⟩) 2 2) ⟨Ri.out, Ga.out, Ga.out, Gx.out, Gx.out, (mk_fine (show I64 21 from by unfold I64; decide) (show I64 0 from by unfold I64; decide) (show I64 0 from by unfold I64; decide) (show I64 0 from by unfold I64; decide))⟩ ⟨HL68.out, HL68.out, HL69.out, HL69.out, HL73.out⟩ (heR2_pl Hhb16.out _ (by simp)) (heR2_pl Hhb16.out _ (by simp)) (heR2_pl Hhb16.out _ (by simp)) (heR2_pl Hhb16.out _ (by simp))).mono ?_
              obtain ⟨U78, hU78⟩ : ∃ qu, (⟨i, a, a, x, x, (.mk 21 0 0 0 [U33, U42])⟩ : He) = qu := ⟨_, rfl⟩
              rw [hU78]
              have HU78 := Lib.hid hU78
              clear hU78
              rintro e w76 ⟨s79, s80, s81, s82, s83, rfl, ⟨hl84, hl85, hl86, hl87, hl88⟩, k77⟩
              obtain ⟨a89, c90, S91, rfl, -⟩ := hl84.out
              obtain ⟨a92, c93, S94, rfl, -⟩ := hl85.out
              obtain ⟨a95, c96, S97, rfl, -⟩ := hl86.out
              obtain ⟨a98, c99, S100, rfl, -⟩ := hl87.out
              obtain ⟨a101, c102, S103, rfl, -⟩ := hl88.out
              have Kk104 := Lib.hid k77
              clear k77
              have Hhl84 : Hid (LiesQ w76 (Par w V0.heap.size (W45.heap.size :: []) P) U78.a.kids _) := par_give hl84 (Below.size KB66.out) XL74.out
              have Hhl85 : Hid (LiesQ w76 (Par w V0.heap.size (W45.heap.size :: []) P) U78.b.kids _) := par_give hl85 (Below.size KB66.out) XL74.out
              have Hhl86 : Hid (LiesQ w76 (Par w V0.heap.size (W45.heap.size :: []) P) U78.x.kids _) := par_give hl86 (Below.size KB66.out) XL74.out
              have Hhl87 : Hid (LiesQ w76 (Par w V0.heap.size (W45.heap.size :: []) P) U78.y.kids _) := par_give hl87 (Below.size KB66.out) XL74.out
              have Hhl88 : Hid (LiesQ w76 (Par w V0.heap.size (W45.heap.size :: []) P) U78.h.kids _) := par_give hl88 (Below.size KB66.out) XL74.out
              clear hl84 hl85 hl86 hl87 hl88
              have kvV0 : Sees V0 (w.heap.size + 2) w76 := sees_kept _ (kept_trans KB66.out Kk104.out)
              have kvW64 : Sees W64 (w.heap.size + 2) w76 := sees_kept _ Kk104.out
              go_wp2_with (refine stop_store 51 (.tmp 6) (.tmp 30) rfl ?_)
              intro _
              refine wpList_store_part_n (by rfl) 51 (.tmp 6) (.tmp 30) rfl (w.heap.size + 2) 0 #[.int .i64 U78.i, .int .i64 U78.a.k, .int .i64 U78.a.i, .int .i64 U78.a.j, .int .i64 U78.a.n, (.slice a89 U78.a.kids.length c90), .int .i64 U78.b.k, .int .i64 U78.b.i, .int .i64 U78.b.j, .int .i64 U78.b.n, (.slice a92 U78.b.kids.length c93), .int .i64 U78.x.k, .int .i64 U78.x.i, .int .i64 U78.x.j, .int .i64 U78.x.n, (.slice a95 U78.x.kids.length c96), .int .i64 U78.y.k, .int .i64 U78.y.i, .int .i64 U78.y.j, .int .i64 U78.y.n, (.slice a98 U78.y.kids.length c99), .int .i64 U78.h.k, .int .i64 U78.h.i, .int .i64 U78.h.j, .int .i64 U78.h.n, (.slice a101 U78.h.kids.length c102)] (by rfl) (by rfl) 51 (by kernel_rfl) (row_ok rfl) ?_
              intro W105 hW105
              clear kvV0
              clear kvW64
              subst hW105
              refine ⟨_, #[.int .i64 U78.i, .int .i64 U78.a.k, .int .i64 U78.a.i, .int .i64 U78.a.j, .int .i64 U78.a.n, (.slice a89 U78.a.kids.length c90), .int .i64 U78.b.k, .int .i64 U78.b.i, .int .i64 U78.b.j, .int .i64 U78.b.n, (.slice a92 U78.b.kids.length c93), .int .i64 U78.x.k, .int .i64 U78.x.i, .int .i64 U78.x.j, .int .i64 U78.x.n, (.slice a95 U78.x.kids.length c96), .int .i64 U78.y.k, .int .i64 U78.y.i, .int .i64 U78.y.j, .int .i64 U78.y.n, (.slice a98 U78.y.kids.length c99), .int .i64 U78.h.k, .int .i64 U78.h.i, .int .i64 U78.h.j, .int .i64 U78.h.n, (.slice a101 U78.h.kids.length c102)], (blk_at Hx3.out (kept_trans KB66.out Kk104.out)), rfl, Nat.le_of_ble_eq_true rfl, ?_⟩
              intro W106 hW106
              go_wp2_with fail
              refine bodyPost_ret (results_cell_row rfl _ _ (w.heap.size + 2) 51 _ _ dh rfl (blk_same (blk_at Hx3.out (kept_trans KB66.out Kk104.out)) hW106) dh1 (by cases dh <;> first | rfl | exact dh2) (by kernel_rfl)) rfl ?_
              rw [show heSelf i a x = U78 from by unfold heSelf; rw [Hhb16.out]; rw [← HU78.out]; rw [← HU42.out]; rw [← HU33.out]; (try rfl)]
              exact ⟨_, _, _, _, _, rfl, ⟨par_end (par_row' Hhl84.out hW106 (by omega) (by have := Z0.out; omega)) (by have := Z0.out; omega), par_end (par_row' Hhl85.out hW106 (by omega) (by have := Z0.out; omega)) (by have := Z0.out; omega), par_end (par_row' Hhl86.out hW106 (by omega) (by have := Z0.out; omega)) (by have := Z0.out; omega), par_end (par_row' Hhl87.out hW106 (by omega) (by have := Z0.out; omega)) (by have := Z0.out; omega), par_end (par_row' Hhl88.out hW106 (by omega) (by have := Z0.out; omega)) (by have := Z0.out; omega)⟩, kept_set (kept_trans KB65.out Kk104.out) hW106 (by omega)⟩
            exact AllReadyH.nil
          exact AllReadyH.nil
        refine AllReadyH.cons (o := hselfr3_8) rfl (fun K hK => ?_) ?_
        · unfold hselfr3_8
          go_simp
          refine at_K (fun W107 hW107 => ?_)
          obtain ⟨k109, x108, z110⟩ := alloc1 hW107
          have Kk111 := Lib.hid k109
          clear k109
          have Hx108 := Lib.hid x108
          have Hz110 := Lib.hid z110
          clear x108 z110 hW107
          have HG112 : Hid (V0.heap.size ≤ w35.heap.size) := (Below.size (kept_trans Kk12.out (kept_trans Kk18.out (kept_trans Kk25.out (kept_trans Kk34.out Kk43.out)))))
          have XL113 := Lib.hid (xlt_more (xlt_nil _) Kk111.out (by have := Hz110.out; omega))
          have HL114 : Hid (LiesQ W107 (Par w V0.heap.size (w35.heap.size :: []) P) a.kids _) := (par_more (HLa.out.later (kept_trans Kk12.out (kept_trans Kk18.out (kept_trans Kk25.out (kept_trans Kk34.out Kk43.out)))))).later Kk111.out
          have HL115 : Hid (LiesQ W107 (Par w V0.heap.size (w35.heap.size :: []) P) x.kids _) := (par_more (HLx.out.later (kept_trans Kk12.out (kept_trans Kk18.out (kept_trans Kk25.out (kept_trans Kk34.out Kk43.out)))))).later Kk111.out
          have HL116 : Hid (LiesQ W107 (Par w V0.heap.size (w35.heap.size :: []) P) [a, x] _) := (par_more (HR13.out.later (kept_trans Kk18.out (kept_trans Kk25.out (kept_trans Kk34.out Kk43.out))))).later Kk111.out
          have HL117 : Hid (LiesQ W107 (Par w V0.heap.size (w35.heap.size :: []) P) U33.kids _) := (par_more (Hhl29.out.later Kk43.out)).later Kk111.out
          have HL118 : Hid (LiesQ W107 (Par w V0.heap.size (w35.heap.size :: []) P) U42.kids _) := (par_more Hhl38.out).later Kk111.out
          clear hHeld
          refine hK.out _ _ ?_ (fun hHeld => ?_)
          · (try dsimp only)
            exact sees_kept _ (kept_trans Kk34.out (kept_trans Kk43.out Kk111.out))
          clear hK K
          (try simp only [Act.put, List.setIfInBounds_toArray, List.set_cons_zero, List.set_cons_succ])
          refine wpAnyH_ready (rs := [6]) (by kernel_rfl) (by simp) ?_
          refine AllReadyH.cons (o := hselfr3_6) rfl (fun K hK => ?_) ?_
          · unfold hselfr3_6
            go_simp
            refine at_K (fun W120 hW120 => ?_)
            obtain ⟨k122, x121, z123⟩ := alloc1 hW120
            have Kk124 := Lib.hid k122
            clear k122
            have Hx121 := Lib.hid x121
            have Hz123 := Lib.hid z123
            clear x121 z123 hW120
            have HR125 : Hid (LiesQ W120 (Par w V0.heap.size (w35.heap.size :: []) P) [U33, U42] (.slice (some ⟨W107.heap.size, 0, none⟩) 2 2)) := q_row [(U33, (.slice a30 U33.kids.length c31)), (U42, (.slice a39 U42.kids.length c40))] _ rfl Hx121.out (par_new (Below.size (kept_trans Kk12.out (kept_trans Kk18.out (kept_trans Kk25.out (kept_trans Kk34.out (kept_trans Kk43.out Kk111.out)))))) XL113.out (Nat.le_refl _)) (fun p hp => by
              simp only [List.mem_cons, List.not_mem_nil, or_false] at hp
              rcases hp with rfl | rfl
              · exact ⟨(by rw [← HU33.out]; exact (right_fine (plain_right (points_plain (heR2_lev Hhb16.out))))), (HL117.out.later Kk124.out)⟩
              · exact ⟨(by rw [← HU42.out]; exact (right_fine (plain_right (point_plain (heR2_lev Hhb16.out) (heR2_pl Hhb16.out _ (by simp)) (heR2_pl Hhb16.out _ (by simp)))))), (HL118.out.later Kk124.out)⟩) (Nat.le_of_ble_eq_true rfl)
            clear hHeld
            refine hK.out _ _ ?_ (fun hHeld => ?_)
            · (try dsimp only)
              exact sees_kept _ (kept_trans Kk34.out (kept_trans Kk43.out (kept_trans Kk111.out Kk124.out)))
            clear hK K
            (try simp only [Act.put, List.setIfInBounds_toArray, List.set_cons_zero, List.set_cons_succ])
            refine take_at 7 22 hselfr3_7 (v := ?_) (Or.inl ⟨by rfl, ?_⟩) ?_
            rotate_left 1
            · ((intro w hSw; (try dsimp only at hSw); unfold hselfr3_7; go_simp) <;> with_reducible rfl)
            (try simp only [Act.put, List.setIfInBounds_toArray, List.set_cons_zero, List.set_cons_succ])
            refine wpAnyH_ready (rs := [9]) (by kernel_rfl) (by simp) ?_
            refine AllReadyH.cons (o := hselfr3_9) rfl (fun K hK => ?_) ?_
            · unfold hselfr3_9
              refine step_store_part rfl 32 (.tmp 7) (.tmp 22) rfl (w35.heap.size) 0 #[.int .i64 21, .int .i64 0, .int .i64 0, .int .i64 0, (.slice (some ⟨W107.heap.size, 0, none⟩) 2 2)] rfl rfl 32 size_term (row_ok rfl) _ #[.int .i64 21, .int .i64 0, .int .i64 0, .int .i64 0, (.slice (some ⟨W107.heap.size, 0, none⟩) 2 2)] (blk_at Hx108.out Kk124.out) rfl (Nat.le_of_ble_eq_true rfl) ?_
              intro W126 hW126
              have KB127 := Lib.hid (kept_set (kept_trans Kk6.out (kept_trans Kk12.out (kept_trans Kk18.out (kept_trans Kk25.out (kept_trans Kk34.out (kept_trans Kk43.out (kept_trans Kk111.out Kk124.out))))))) hW126 (by have := HG112.out; have := Z0.out; omega))
              have KB128 := Lib.hid (kept_set (kept_trans Kk12.out (kept_trans Kk18.out (kept_trans Kk25.out (kept_trans Kk34.out (kept_trans Kk43.out (kept_trans Kk111.out Kk124.out)))))) hW126 HG112.out)
              have KB129 := Lib.hid (kept_set (kept_trans Kk34.out (kept_trans Kk43.out (kept_trans Kk111.out Kk124.out))) hW126 (Below.size (kept_trans Kk34.out Kk43.out)))
              have HL130 : Hid (LiesQ W126 (Par w V0.heap.size (w35.heap.size :: []) P) a.kids _) := par_set (HL114.out.later Kk124.out) hW126 (List.mem_cons_self ..) (by have := HG112.out; have := Z0.out; omega)
              have HL131 : Hid (LiesQ W126 (Par w V0.heap.size (w35.heap.size :: []) P) x.kids _) := par_set (HL115.out.later Kk124.out) hW126 (List.mem_cons_self ..) (by have := HG112.out; have := Z0.out; omega)
              have HL132 : Hid (LiesQ W126 (Par w V0.heap.size (w35.heap.size :: []) P) [a, x] _) := par_set (HL116.out.later Kk124.out) hW126 (List.mem_cons_self ..) (by have := HG112.out; have := Z0.out; omega)
              have HL133 : Hid (LiesQ W126 (Par w V0.heap.size (w35.heap.size :: []) P) U33.kids _) := par_set (HL117.out.later Kk124.out) hW126 (List.mem_cons_self ..) (by have := HG112.out; have := Z0.out; omega)
              have HL134 : Hid (LiesQ W126 (Par w V0.heap.size (w35.heap.size :: []) P) U42.kids _) := par_set (HL118.out.later Kk124.out) hW126 (List.mem_cons_self ..) (by have := HG112.out; have := Z0.out; omega)
              have HL135 : Hid (LiesQ W126 (Par w V0.heap.size (w35.heap.size :: []) P) [U33, U42] _) := par_set HR125.out hW126 (List.mem_cons_self ..) (by have := HG112.out; have := Z0.out; omega)
              have XL136 := Lib.hid (xlt_set (xlt_later XL113.out Kk124.out) hW126)
              have HX137 := Lib.hid (blk_same (blk_at Hx108.out Kk124.out) hW126)
              clear hW126
              clear hHeld
              refine hK.out _ _ ?_ (fun hHeld => ?_)
              · (try dsimp only)
                exact sees_kept _ KB129.out
              clear hK K
              (try simp only [Act.put])
              refine wpAnyH_done (by kernel_rfl) ?_ _
              clear hHeld
              have kvV0 : Sees V0 (w.heap.size + 2) W126 := sees_kept _ KB128.out
              have kvW126 : Sees W126 (w.heap.size + 2) W126 := sees_kept _ (kept_refl _)
              go_wp2_with (refine stop_load 32 (.tmp 4) rfl ?_)
              intro _
              refine wpList_load_part (w.heap.size) 0 32 (.tmp 4) #[.int .i64 a.k, .int .i64 a.i, .int .i64 a.j, .int .i64 a.n, (.slice aa a.kids.length ca)] du (blk_at Hx1.out KB128.out) (by rfl) rfl (by rfl) (by rfl) hu1 (by cases du <;> first | rfl | exact hu2) size_term ?_
              go_wp2_with (refine stop_load 32 (.tmp 4) rfl ?_)
              intro _
              refine wpList_load_part (w.heap.size) 0 32 (.tmp 4) #[.int .i64 a.k, .int .i64 a.i, .int .i64 a.j, .int .i64 a.n, (.slice aa a.kids.length ca)] du (blk_at Hx1.out KB128.out) (by rfl) rfl (by rfl) (by rfl) hu1 (by cases du <;> first | rfl | exact hu2) size_term ?_
              go_wp2_with (refine stop_load 32 (.tmp 5) rfl ?_)
              intro _
              refine wpList_load_part (w.heap.size + 1) 0 32 (.tmp 5) #[.int .i64 x.k, .int .i64 x.i, .int .i64 x.j, .int .i64 x.n, (.slice ax x.kids.length cx)] du (blk_at Hx2.out KB128.out) (by rfl) rfl (by rfl) (by rfl) hu1 (by cases du <;> first | rfl | exact hu2) size_term ?_
              go_wp2_with (refine stop_load 32 (.tmp 5) rfl ?_)
              intro _
              refine wpList_load_part (w.heap.size + 1) 0 32 (.tmp 5) #[.int .i64 x.k, .int .i64 x.i, .int .i64 x.j, .int .i64 x.n, (.slice ax x.kids.length cx)] du (blk_at Hx2.out KB128.out) (by rfl) rfl (by rfl) (by rfl) hu1 (by cases du <;> first | rfl | exact hu2) size_term ?_
              go_wp2_with (refine stop_load 32 (.tmp 7) rfl ?_)
              intro _
              refine wpList_load_part (w35.heap.size) 0 32 (.tmp 7) #[.int .i64 21, .int .i64 0, .int .i64 0, .int .i64 0, (.slice (some ⟨W107.heap.size, 0, none⟩) 2 2)] du HX137.out (by rfl) rfl (by rfl) (by rfl) hu1 (by cases du <;> first | rfl | exact hu2) size_term ?_
              go_wp2_with fail
              clear kvV0
              clear kvW126
              refine (hfresh_any (⟨i, a, a, x, x, (.mk 21 0 0 0 [U33, U42])⟩ : He) (Par w V0.heap.size (w35.heap.size :: []) P) _ (.slice aa a.kids.length ca) (.slice aa a.kids.length ca) (.slice ax x.kids.length cx) (.slice ax x.kids.length cx) (.slice (some ⟨W107.heap.size, 0, none⟩) 2 2) ⟨Ri.out, Ga.out, Ga.out, Gx.out, Gx.out, (mk_fine (show I64 21 from by unfold I64; decide) (show I64 0 from by unfold I64; decide) (show I64 0 from by unfold I64; decide) (show I64 0 from by unfold I64; decide))⟩ ⟨HL130.out, HL130.out, HL131.out, HL131.out, HL135.out⟩ (heR2_pl Hhb16.out _ (by simp)) (heR2_pl Hhb16.out _ (by simp)) (heR2_pl Hhb16.out _ (by simp)) (heR2_pl Hhb16.out _ (by simp))).mono ?_
              obtain ⟨U140, hU140⟩ : ∃ qu, (⟨i, a, a, x, x, (.mk 21 0 0 0 [U33, U42])⟩ : He) = qu := ⟨_, rfl⟩
              rw [hU140]
              have HU140 := Lib.hid hU140
              clear hU140
              rintro e w138 ⟨s141, s142, s143, s144, s145, rfl, ⟨hl146, hl147, hl148, hl149, hl150⟩, k139⟩
              obtain ⟨a151, c152, S153, rfl, -⟩ := hl146.out
              obtain ⟨a154, c155, S156, rfl, -⟩ := hl147.out
              obtain ⟨a157, c158, S159, rfl, -⟩ := hl148.out
              obtain ⟨a160, c161, S162, rfl, -⟩ := hl149.out
              obtain ⟨a163, c164, S165, rfl, -⟩ := hl150.out
              have Kk166 := Lib.hid k139
              clear k139
              have Hhl146 : Hid (LiesQ w138 (Par w V0.heap.size (w35.heap.size :: []) P) U140.a.kids _) := par_give hl146 (Below.size KB128.out) XL136.out
              have Hhl147 : Hid (LiesQ w138 (Par w V0.heap.size (w35.heap.size :: []) P) U140.b.kids _) := par_give hl147 (Below.size KB128.out) XL136.out
              have Hhl148 : Hid (LiesQ w138 (Par w V0.heap.size (w35.heap.size :: []) P) U140.x.kids _) := par_give hl148 (Below.size KB128.out) XL136.out
              have Hhl149 : Hid (LiesQ w138 (Par w V0.heap.size (w35.heap.size :: []) P) U140.y.kids _) := par_give hl149 (Below.size KB128.out) XL136.out
              have Hhl150 : Hid (LiesQ w138 (Par w V0.heap.size (w35.heap.size :: []) P) U140.h.kids _) := par_give hl150 (Below.size KB128.out) XL136.out
              clear hl146 hl147 hl148 hl149 hl150
              have kvV0 : Sees V0 (w.heap.size + 2) w138 := sees_kept _ (kept_trans KB128.out Kk166.out)
              have kvW126 : Sees W126 (w.heap.size + 2) w138 := sees_kept _ Kk166.out
              go_wp2_with (refine stop_store 51 (.tmp 6) (.tmp 30) rfl ?_)
              intro _
              refine wpList_store_part_n (by rfl) 51 (.tmp 6) (.tmp 30) rfl (w.heap.size + 2) 0 #[.int .i64 U140.i, .int .i64 U140.a.k, .int .i64 U140.a.i, .int .i64 U140.a.j, .int .i64 U140.a.n, (.slice a151 U140.a.kids.length c152), .int .i64 U140.b.k, .int .i64 U140.b.i, .int .i64 U140.b.j, .int .i64 U140.b.n, (.slice a154 U140.b.kids.length c155), .int .i64 U140.x.k, .int .i64 U140.x.i, .int .i64 U140.x.j, .int .i64 U140.x.n, (.slice a157 U140.x.kids.length c158), .int .i64 U140.y.k, .int .i64 U140.y.i, .int .i64 U140.y.j, .int .i64 U140.y.n, (.slice a160 U140.y.kids.length c161), .int .i64 U140.h.k, .int .i64 U140.h.i, .int .i64 U140.h.j, .int .i64 U140.h.n, (.slice a163 U140.h.kids.length c164)] (by rfl) (by rfl) 51 (by kernel_rfl) (row_ok rfl) ?_
              intro W167 hW167
              clear kvV0
              clear kvW126
              subst hW167
              refine ⟨_, #[.int .i64 U140.i, .int .i64 U140.a.k, .int .i64 U140.a.i, .int .i64 U140.a.j, .int .i64 U140.a.n, (.slice a151 U140.a.kids.length c152), .int .i64 U140.b.k, .int .i64 U140.b.i, .int .i64 U140.b.j, .int .i64 U140.b.n, (.slice a154 U140.b.kids.length c155), .int .i64 U140.x.k, .int .i64 U140.x.i, .int .i64 U140.x.j, .int .i64 U140.x.n, (.slice a157 U140.x.kids.length c158), .int .i64 U140.y.k, .int .i64 U140.y.i, .int .i64 U140.y.j, .int .i64 U140.y.n, (.slice a160 U140.y.kids.length c161), .int .i64 U140.h.k, .int .i64 U140.h.i, .int .i64 U140.h.j, .int .i64 U140.h.n, (.slice a163 U140.h.kids.length c164)], (blk_at Hx3.out (kept_trans KB128.out Kk166.out)), rfl, Nat.le_of_ble_eq_true rfl, ?_⟩
              intro W168 hW168
              go_wp2_with fail
              refine bodyPost_ret (results_cell_row rfl _ _ (w.heap.size + 2) 51 _ _ dh rfl (blk_same (blk_at Hx3.out (kept_trans KB128.out Kk166.out)) hW168) dh1 (by cases dh <;> first | rfl | exact dh2) (by kernel_rfl)) rfl ?_
              rw [show heSelf i a x = U140 from by unfold heSelf; rw [Hhb16.out]; rw [← HU140.out]; rw [← HU42.out]; rw [← HU33.out]; (try rfl)]
              exact ⟨_, _, _, _, _, rfl, ⟨par_end (par_row' Hhl146.out hW168 (by omega) (by have := Z0.out; omega)) (by have := Z0.out; omega), par_end (par_row' Hhl147.out hW168 (by omega) (by have := Z0.out; omega)) (by have := Z0.out; omega), par_end (par_row' Hhl148.out hW168 (by omega) (by have := Z0.out; omega)) (by have := Z0.out; omega), par_end (par_row' Hhl149.out hW168 (by omega) (by have := Z0.out; omega)) (by have := Z0.out; omega), par_end (par_row' Hhl150.out hW168 (by omega) (by have := Z0.out; omega)) (by have := Z0.out; omega)⟩, kept_set (kept_trans KB127.out Kk166.out) hW168 (by omega)⟩
            exact AllReadyH.nil
          exact AllReadyH.nil
        exact AllReadyH.nil
      refine AllReadyH.cons (o := hselfr3_8) rfl (fun K hK => ?_) ?_
      · unfold hselfr3_8
        go_simp
        refine at_K (fun W169 hW169 => ?_)
        obtain ⟨k171, x170, z172⟩ := alloc1 hW169
        have Kk173 := Lib.hid k171
        clear k171
        have Hx170 := Lib.hid x170
        have Hz172 := Lib.hid z172
        clear x170 z172 hW169
        have HG174 : Hid (V0.heap.size ≤ w26.heap.size) := (Below.size (kept_trans Kk12.out (kept_trans Kk18.out (kept_trans Kk25.out Kk34.out))))
        have XL175 := Lib.hid (xlt_more (xlt_nil _) Kk173.out (by have := Hz172.out; omega))
        have HL176 : Hid (LiesQ W169 (Par w V0.heap.size (w26.heap.size :: []) P) a.kids _) := (par_more (HLa.out.later (kept_trans Kk12.out (kept_trans Kk18.out (kept_trans Kk25.out Kk34.out))))).later Kk173.out
        have HL177 : Hid (LiesQ W169 (Par w V0.heap.size (w26.heap.size :: []) P) x.kids _) := (par_more (HLx.out.later (kept_trans Kk12.out (kept_trans Kk18.out (kept_trans Kk25.out Kk34.out))))).later Kk173.out
        have HL178 : Hid (LiesQ W169 (Par w V0.heap.size (w26.heap.size :: []) P) [a, x] _) := (par_more (HR13.out.later (kept_trans Kk18.out (kept_trans Kk25.out Kk34.out)))).later Kk173.out
        have HL179 : Hid (LiesQ W169 (Par w V0.heap.size (w26.heap.size :: []) P) U33.kids _) := (par_more Hhl29.out).later Kk173.out
        clear hHeld
        refine hK.out _ _ ?_ (fun hHeld => ?_)
        · (try dsimp only)
          exact sees_kept _ (kept_trans Kk34.out Kk173.out)
        clear hK K
        (try simp only [Act.put, List.setIfInBounds_toArray, List.set_cons_zero, List.set_cons_succ])
        refine wpAnyH_ready (rs := [5]) (by kernel_rfl) (by simp) ?_
        refine AllReadyH.cons (o := hselfr3_5) rfl (fun K hK => ?_) ?_
        · unfold hselfr3_5
          go_simp
          refine (hpoint_any i a x (Par w V0.heap.size (w26.heap.size :: []) P) _ (.slice aa a.kids.length ca) (.slice ax x.kids.length cx) Ri.out Ga.out HL176.out Gx.out HL177.out (heR2_pl Hhb16.out _ (by simp)) (heR2_pl Hhb16.out _ (by simp))).mono ?_
          obtain ⟨U187, hU187⟩ : ∃ qu, pointT i a x = qu := ⟨_, rfl⟩
          rw [hU187]
          have HU187 := Lib.hid hU187
          clear hU187
          rintro e w180 ⟨s182, rfl, hl183, k181⟩
          obtain ⟨a184, c185, S186, rfl, -⟩ := hl183.out
          have Kk188 := Lib.hid k181
          clear k181
          have Hhl183 : Hid (LiesQ w180 (Par w V0.heap.size (w26.heap.size :: []) P) U187.kids _) := par_give hl183 (Below.size (kept_trans Kk12.out (kept_trans Kk18.out (kept_trans Kk25.out (kept_trans Kk34.out Kk173.out))))) XL175.out
          clear hl183
          clear hHeld
          refine hK.out _ _ ?_ (fun hHeld => ?_)
          · (try dsimp only)
            exact sees_kept _ (kept_trans Kk34.out (kept_trans Kk173.out Kk188.out))
          clear hK K
          (try simp only [Act.put, List.setIfInBounds_toArray, List.set_cons_zero, List.set_cons_succ])
          refine wpAnyH_ready (rs := [6]) (by kernel_rfl) (by simp) ?_
          refine AllReadyH.cons (o := hselfr3_6) rfl (fun K hK => ?_) ?_
          · unfold hselfr3_6
            go_simp
            refine at_K (fun W190 hW190 => ?_)
            obtain ⟨k192, x191, z193⟩ := alloc1 hW190
            have Kk194 := Lib.hid k192
            clear k192
            have Hx191 := Lib.hid x191
            have Hz193 := Lib.hid z193
            clear x191 z193 hW190
            have HR195 : Hid (LiesQ W190 (Par w V0.heap.size (w26.heap.size :: []) P) [U33, U187] (.slice (some ⟨w180.heap.size, 0, none⟩) 2 2)) := q_row [(U33, (.slice a30 U33.kids.length c31)), (U187, (.slice a184 U187.kids.length c185))] _ rfl Hx191.out (par_new (Below.size (kept_trans Kk12.out (kept_trans Kk18.out (kept_trans Kk25.out (kept_trans Kk34.out (kept_trans Kk173.out Kk188.out)))))) (xlt_later XL175.out Kk188.out) (Nat.le_refl _)) (fun p hp => by
              simp only [List.mem_cons, List.not_mem_nil, or_false] at hp
              rcases hp with rfl | rfl
              · exact ⟨(by rw [← HU33.out]; exact (right_fine (plain_right (points_plain (heR2_lev Hhb16.out))))), (HL179.out.later (kept_trans Kk188.out Kk194.out))⟩
              · exact ⟨(by rw [← HU187.out]; exact (right_fine (plain_right (point_plain (heR2_lev Hhb16.out) (heR2_pl Hhb16.out _ (by simp)) (heR2_pl Hhb16.out _ (by simp)))))), (Hhl183.out.later Kk194.out)⟩) (Nat.le_of_ble_eq_true rfl)
            clear hHeld
            refine hK.out _ _ ?_ (fun hHeld => ?_)
            · (try dsimp only)
              exact sees_kept _ (kept_trans Kk34.out (kept_trans Kk173.out (kept_trans Kk188.out Kk194.out)))
            clear hK K
            (try simp only [Act.put, List.setIfInBounds_toArray, List.set_cons_zero, List.set_cons_succ])
            refine take_at 7 22 hselfr3_7 (v := ?_) (Or.inl ⟨by rfl, ?_⟩) ?_
            rotate_left 1
            · ((intro w hSw; (try dsimp only at hSw); unfold hselfr3_7; go_simp) <;> with_reducible rfl)
            (try simp only [Act.put, List.setIfInBounds_toArray, List.set_cons_zero, List.set_cons_succ])
            refine wpAnyH_ready (rs := [9]) (by kernel_rfl) (by simp) ?_
            refine AllReadyH.cons (o := hselfr3_9) rfl (fun K hK => ?_) ?_
            · unfold hselfr3_9
              refine step_store_part rfl 32 (.tmp 7) (.tmp 22) rfl (w26.heap.size) 0 #[.int .i64 21, .int .i64 0, .int .i64 0, .int .i64 0, (.slice (some ⟨w180.heap.size, 0, none⟩) 2 2)] rfl rfl 32 size_term (row_ok rfl) _ #[.int .i64 21, .int .i64 0, .int .i64 0, .int .i64 0, (.slice (some ⟨w180.heap.size, 0, none⟩) 2 2)] (blk_at Hx170.out (kept_trans Kk188.out Kk194.out)) rfl (Nat.le_of_ble_eq_true rfl) ?_
              intro W196 hW196
              have KB197 := Lib.hid (kept_set (kept_trans Kk6.out (kept_trans Kk12.out (kept_trans Kk18.out (kept_trans Kk25.out (kept_trans Kk34.out (kept_trans Kk173.out (kept_trans Kk188.out Kk194.out))))))) hW196 (by have := HG174.out; have := Z0.out; omega))
              have KB198 := Lib.hid (kept_set (kept_trans Kk12.out (kept_trans Kk18.out (kept_trans Kk25.out (kept_trans Kk34.out (kept_trans Kk173.out (kept_trans Kk188.out Kk194.out)))))) hW196 HG174.out)
              have KB199 := Lib.hid (kept_set (kept_trans Kk34.out (kept_trans Kk173.out (kept_trans Kk188.out Kk194.out))) hW196 (Below.size Kk34.out))
              have HL200 : Hid (LiesQ W196 (Par w V0.heap.size (w26.heap.size :: []) P) a.kids _) := par_set (HL176.out.later (kept_trans Kk188.out Kk194.out)) hW196 (List.mem_cons_self ..) (by have := HG174.out; have := Z0.out; omega)
              have HL201 : Hid (LiesQ W196 (Par w V0.heap.size (w26.heap.size :: []) P) x.kids _) := par_set (HL177.out.later (kept_trans Kk188.out Kk194.out)) hW196 (List.mem_cons_self ..) (by have := HG174.out; have := Z0.out; omega)
              have HL202 : Hid (LiesQ W196 (Par w V0.heap.size (w26.heap.size :: []) P) [a, x] _) := par_set (HL178.out.later (kept_trans Kk188.out Kk194.out)) hW196 (List.mem_cons_self ..) (by have := HG174.out; have := Z0.out; omega)
              have HL203 : Hid (LiesQ W196 (Par w V0.heap.size (w26.heap.size :: []) P) U33.kids _) := par_set (HL179.out.later (kept_trans Kk188.out Kk194.out)) hW196 (List.mem_cons_self ..) (by have := HG174.out; have := Z0.out; omega)
              have HL204 : Hid (LiesQ W196 (Par w V0.heap.size (w26.heap.size :: []) P) U187.kids _) := par_set (Hhl183.out.later Kk194.out) hW196 (List.mem_cons_self ..) (by have := HG174.out; have := Z0.out; omega)
              have HL205 : Hid (LiesQ W196 (Par w V0.heap.size (w26.heap.size :: []) P) [U33, U187] _) := par_set HR195.out hW196 (List.mem_cons_self ..) (by have := HG174.out; have := Z0.out; omega)
              have XL206 := Lib.hid (xlt_set (xlt_later XL175.out (kept_trans Kk188.out Kk194.out)) hW196)
              have HX207 := Lib.hid (blk_same (blk_at Hx170.out (kept_trans Kk188.out Kk194.out)) hW196)
              clear hW196
              clear hHeld
              refine hK.out _ _ ?_ (fun hHeld => ?_)
              · (try dsimp only)
                exact sees_kept _ KB199.out
              clear hK K
              (try simp only [Act.put])
              refine wpAnyH_done (by kernel_rfl) ?_ _
              clear hHeld
              have kvV0 : Sees V0 (w.heap.size + 2) W196 := sees_kept _ KB198.out
              have kvW196 : Sees W196 (w.heap.size + 2) W196 := sees_kept _ (kept_refl _)
              go_wp2_with (refine stop_load 32 (.tmp 4) rfl ?_)
              intro _
              refine wpList_load_part (w.heap.size) 0 32 (.tmp 4) #[.int .i64 a.k, .int .i64 a.i, .int .i64 a.j, .int .i64 a.n, (.slice aa a.kids.length ca)] du (blk_at Hx1.out KB198.out) (by rfl) rfl (by rfl) (by rfl) hu1 (by cases du <;> first | rfl | exact hu2) size_term ?_
              go_wp2_with (refine stop_load 32 (.tmp 4) rfl ?_)
              intro _
              refine wpList_load_part (w.heap.size) 0 32 (.tmp 4) #[.int .i64 a.k, .int .i64 a.i, .int .i64 a.j, .int .i64 a.n, (.slice aa a.kids.length ca)] du (blk_at Hx1.out KB198.out) (by rfl) rfl (by rfl) (by rfl) hu1 (by cases du <;> first | rfl | exact hu2) size_term ?_
              go_wp2_with (refine stop_load 32 (.tmp 5) rfl ?_)
              intro _
              refine wpList_load_part (w.heap.size + 1) 0 32 (.tmp 5) #[.int .i64 x.k, .int .i64 x.i, .int .i64 x.j, .int .i64 x.n, (.slice ax x.kids.length cx)] du (blk_at Hx2.out KB198.out) (by rfl) rfl (by rfl) (by rfl) hu1 (by cases du <;> first | rfl | exact hu2) size_term ?_
              go_wp2_with (refine stop_load 32 (.tmp 5) rfl ?_)
              intro _
              refine wpList_load_part (w.heap.size + 1) 0 32 (.tmp 5) #[.int .i64 x.k, .int .i64 x.i, .int .i64 x.j, .int .i64 x.n, (.slice ax x.kids.length cx)] du (blk_at Hx2.out KB198.out) (by rfl) rfl (by rfl) (by rfl) hu1 (by cases du <;> first | rfl | exact hu2) size_term ?_
              go_wp2_with (refine stop_load 32 (.tmp 7) rfl ?_)
              intro _
              refine wpList_load_part (w26.heap.size) 0 32 (.tmp 7) #[.int .i64 21, .int .i64 0, .int .i64 0, .int .i64 0, (.slice (some ⟨w180.heap.size, 0, none⟩) 2 2)] du HX207.out (by rfl) rfl (by rfl) (by rfl) hu1 (by cases du <;> first | rfl | exact hu2) size_term ?_
              go_wp2_with fail
              clear kvV0
              clear kvW196
              refine (hfresh_any (⟨i, a, a, x, x, (.mk 21 0 0 0 [U33, U187])⟩ : He) (Par w V0.heap.size (w26.heap.size :: []) P) _ (.slice aa a.kids.length ca) (.slice aa a.kids.length ca) (.slice ax x.kids.length cx) (.slice ax x.kids.length cx) (.slice (some ⟨w180.heap.size, 0, none⟩) 2 2) ⟨Ri.out, Ga.out, Ga.out, Gx.out, Gx.out, (mk_fine (show I64 21 from by unfold I64; decide) (show I64 0 from by unfold I64; decide) (show I64 0 from by unfold I64; decide) (show I64 0 from by unfold I64; decide))⟩ ⟨HL200.out, HL200.out, HL201.out, HL201.out, HL205.out⟩ (heR2_pl Hhb16.out _ (by simp)) (heR2_pl Hhb16.out _ (by simp)) (heR2_pl Hhb16.out _ (by simp)) (heR2_pl Hhb16.out _ (by simp))).mono ?_
              obtain ⟨U210, hU210⟩ : ∃ qu, (⟨i, a, a, x, x, (.mk 21 0 0 0 [U33, U187])⟩ : He) = qu := ⟨_, rfl⟩
              rw [hU210]
              have HU210 := Lib.hid hU210
              clear hU210
              rintro e w208 ⟨s211, s212, s213, s214, s215, rfl, ⟨hl216, hl217, hl218, hl219, hl220⟩, k209⟩
              obtain ⟨a221, c222, S223, rfl, -⟩ := hl216.out
              obtain ⟨a224, c225, S226, rfl, -⟩ := hl217.out
              obtain ⟨a227, c228, S229, rfl, -⟩ := hl218.out
              obtain ⟨a230, c231, S232, rfl, -⟩ := hl219.out
              obtain ⟨a233, c234, S235, rfl, -⟩ := hl220.out
              have Kk236 := Lib.hid k209
              clear k209
              have Hhl216 : Hid (LiesQ w208 (Par w V0.heap.size (w26.heap.size :: []) P) U210.a.kids _) := par_give hl216 (Below.size KB198.out) XL206.out
              have Hhl217 : Hid (LiesQ w208 (Par w V0.heap.size (w26.heap.size :: []) P) U210.b.kids _) := par_give hl217 (Below.size KB198.out) XL206.out
              have Hhl218 : Hid (LiesQ w208 (Par w V0.heap.size (w26.heap.size :: []) P) U210.x.kids _) := par_give hl218 (Below.size KB198.out) XL206.out
              have Hhl219 : Hid (LiesQ w208 (Par w V0.heap.size (w26.heap.size :: []) P) U210.y.kids _) := par_give hl219 (Below.size KB198.out) XL206.out
              have Hhl220 : Hid (LiesQ w208 (Par w V0.heap.size (w26.heap.size :: []) P) U210.h.kids _) := par_give hl220 (Below.size KB198.out) XL206.out
              clear hl216 hl217 hl218 hl219 hl220
              have kvV0 : Sees V0 (w.heap.size + 2) w208 := sees_kept _ (kept_trans KB198.out Kk236.out)
              have kvW196 : Sees W196 (w.heap.size + 2) w208 := sees_kept _ Kk236.out
              go_wp2_with (refine stop_store 51 (.tmp 6) (.tmp 30) rfl ?_)
              intro _
              refine wpList_store_part_n (by rfl) 51 (.tmp 6) (.tmp 30) rfl (w.heap.size + 2) 0 #[.int .i64 U210.i, .int .i64 U210.a.k, .int .i64 U210.a.i, .int .i64 U210.a.j, .int .i64 U210.a.n, (.slice a221 U210.a.kids.length c222), .int .i64 U210.b.k, .int .i64 U210.b.i, .int .i64 U210.b.j, .int .i64 U210.b.n, (.slice a224 U210.b.kids.length c225), .int .i64 U210.x.k, .int .i64 U210.x.i, .int .i64 U210.x.j, .int .i64 U210.x.n, (.slice a227 U210.x.kids.length c228), .int .i64 U210.y.k, .int .i64 U210.y.i, .int .i64 U210.y.j, .int .i64 U210.y.n, (.slice a230 U210.y.kids.length c231), .int .i64 U210.h.k, .int .i64 U210.h.i, .int .i64 U210.h.j, .int .i64 U210.h.n, (.slice a233 U210.h.kids.length c234)] (by rfl) (by rfl) 51 (by kernel_rfl) (row_ok rfl) ?_
              intro W237 hW237
              clear kvV0
              clear kvW196
              subst hW237
              refine ⟨_, #[.int .i64 U210.i, .int .i64 U210.a.k, .int .i64 U210.a.i, .int .i64 U210.a.j, .int .i64 U210.a.n, (.slice a221 U210.a.kids.length c222), .int .i64 U210.b.k, .int .i64 U210.b.i, .int .i64 U210.b.j, .int .i64 U210.b.n, (.slice a224 U210.b.kids.length c225), .int .i64 U210.x.k, .int .i64 U210.x.i, .int .i64 U210.x.j, .int .i64 U210.x.n, (.slice a227 U210.x.kids.length c228), .int .i64 U210.y.k, .int .i64 U210.y.i, .int .i64 U210.y.j, .int .i64 U210.y.n, (.slice a230 U210.y.kids.length c231), .int .i64 U210.h.k, .int .i64 U210.h.i, .int .i64 U210.h.j, .int .i64 U210.h.n, (.slice a233 U210.h.kids.length c234)], (blk_at Hx3.out (kept_trans KB198.out Kk236.out)), rfl, Nat.le_of_ble_eq_true rfl, ?_⟩
              intro W238 hW238
              go_wp2_with fail
              refine bodyPost_ret (results_cell_row rfl _ _ (w.heap.size + 2) 51 _ _ dh rfl (blk_same (blk_at Hx3.out (kept_trans KB198.out Kk236.out)) hW238) dh1 (by cases dh <;> first | rfl | exact dh2) (by kernel_rfl)) rfl ?_
              rw [show heSelf i a x = U210 from by unfold heSelf; rw [Hhb16.out]; rw [← HU210.out]; rw [← HU187.out]; rw [← HU33.out]; (try rfl)]
              exact ⟨_, _, _, _, _, rfl, ⟨par_end (par_row' Hhl216.out hW238 (by omega) (by have := Z0.out; omega)) (by have := Z0.out; omega), par_end (par_row' Hhl217.out hW238 (by omega) (by have := Z0.out; omega)) (by have := Z0.out; omega), par_end (par_row' Hhl218.out hW238 (by omega) (by have := Z0.out; omega)) (by have := Z0.out; omega), par_end (par_row' Hhl219.out hW238 (by omega) (by have := Z0.out; omega)) (by have := Z0.out; omega), par_end (par_row' Hhl220.out hW238 (by omega) (by have := Z0.out; omega)) (by have := Z0.out; omega)⟩, kept_set (kept_trans KB197.out Kk236.out) hW238 (by omega)⟩
            exact AllReadyH.nil
          exact AllReadyH.nil
        exact AllReadyH.nil
      exact AllReadyH.nil
    refine AllReadyH.cons (o := hselfr3_8) rfl (fun K hK => ?_) ?_
    · unfold hselfr3_8
      go_simp
      refine at_K (fun W239 hW239 => ?_)
      obtain ⟨k241, x240, z242⟩ := alloc1 hW239
      have Kk243 := Lib.hid k241
      clear k241
      have Hx240 := Lib.hid x240
      have Hz242 := Lib.hid z242
      clear x240 z242 hW239
      have HG244 : Hid (V0.heap.size ≤ W22.heap.size) := (Below.size (kept_trans Kk12.out (kept_trans Kk18.out Kk25.out)))
      have XL245 := Lib.hid (xlt_more (xlt_nil _) Kk243.out (by have := Hz242.out; omega))
      have HL246 : Hid (LiesQ W239 (Par w V0.heap.size (W22.heap.size :: []) P) a.kids _) := (par_more (HLa.out.later (kept_trans Kk12.out (kept_trans Kk18.out Kk25.out)))).later Kk243.out
      have HL247 : Hid (LiesQ W239 (Par w V0.heap.size (W22.heap.size :: []) P) x.kids _) := (par_more (HLx.out.later (kept_trans Kk12.out (kept_trans Kk18.out Kk25.out)))).later Kk243.out
      have HL248 : Hid (LiesQ W239 (Par w V0.heap.size (W22.heap.size :: []) P) [a, x] _) := (par_more (HR13.out.later (kept_trans Kk18.out Kk25.out))).later Kk243.out
      clear hHeld
      refine hK.out _ _ ?_ (fun hHeld => ?_)
      · (try dsimp only)
        exact sees_kept _ Kk243.out
      clear hK K
      (try simp only [Act.put, List.setIfInBounds_toArray, List.set_cons_zero, List.set_cons_succ])
      refine wpAnyH_ready (rs := [1]) (by kernel_rfl) (by simp) ?_
      refine AllReadyH.cons (o := hselfr3_1) rfl (fun K hK => ?_) ?_
      · unfold hselfr3_1
        go_simp
        refine (hpoints_any i (Par w V0.heap.size (W22.heap.size :: []) P) _ Ri.out).mono ?_
        obtain ⟨U256, hU256⟩ : ∃ qu, pointsT i = qu := ⟨_, rfl⟩
        rw [hU256]
        have HU256 := Lib.hid hU256
        clear hU256
        rintro e w249 ⟨s251, rfl, hl252, k250⟩
        obtain ⟨a253, c254, S255, rfl, -⟩ := hl252.out
        have Kk257 := Lib.hid k250
        clear k250
        have Hhl252 : Hid (LiesQ w249 (Par w V0.heap.size (W22.heap.size :: []) P) U256.kids _) := par_give hl252 (Below.size (kept_trans Kk12.out (kept_trans Kk18.out (kept_trans Kk25.out Kk243.out)))) XL245.out
        clear hl252
        clear hHeld
        refine hK.out _ _ ?_ (fun hHeld => ?_)
        · (try dsimp only)
          exact sees_kept _ (kept_trans Kk243.out Kk257.out)
        clear hK K
        (try simp only [Act.put, List.setIfInBounds_toArray, List.set_cons_zero, List.set_cons_succ])
        refine wpAnyH_ready (rs := [5]) (by kernel_rfl) (by simp) ?_
        refine AllReadyH.cons (o := hselfr3_5) rfl (fun K hK => ?_) ?_
        · unfold hselfr3_5
          go_simp
          refine (hpoint_any i a x (Par w V0.heap.size (W22.heap.size :: []) P) _ (.slice aa a.kids.length ca) (.slice ax x.kids.length cx) Ri.out Ga.out (HL246.out.later Kk257.out) Gx.out (HL247.out.later Kk257.out) (heR2_pl Hhb16.out _ (by simp)) (heR2_pl Hhb16.out _ (by simp))).mono ?_
          obtain ⟨U265, hU265⟩ : ∃ qu, pointT i a x = qu := ⟨_, rfl⟩
          rw [hU265]
          have HU265 := Lib.hid hU265
          clear hU265
          rintro e w258 ⟨s260, rfl, hl261, k259⟩
          obtain ⟨a262, c263, S264, rfl, -⟩ := hl261.out
          have Kk266 := Lib.hid k259
          clear k259
          have Hhl261 : Hid (LiesQ w258 (Par w V0.heap.size (W22.heap.size :: []) P) U265.kids _) := par_give hl261 (Below.size (kept_trans Kk12.out (kept_trans Kk18.out (kept_trans Kk25.out (kept_trans Kk243.out Kk257.out))))) (xlt_later XL245.out Kk257.out)
          clear hl261
          clear hHeld
          refine hK.out _ _ ?_ (fun hHeld => ?_)
          · (try dsimp only)
            exact sees_kept _ (kept_trans Kk243.out (kept_trans Kk257.out Kk266.out))
          clear hK K
          (try simp only [Act.put, List.setIfInBounds_toArray, List.set_cons_zero, List.set_cons_succ])
          refine wpAnyH_ready (rs := [6]) (by kernel_rfl) (by simp) ?_
          refine AllReadyH.cons (o := hselfr3_6) rfl (fun K hK => ?_) ?_
          · unfold hselfr3_6
            go_simp
            refine at_K (fun W268 hW268 => ?_)
            obtain ⟨k270, x269, z271⟩ := alloc1 hW268
            have Kk272 := Lib.hid k270
            clear k270
            have Hx269 := Lib.hid x269
            have Hz271 := Lib.hid z271
            clear x269 z271 hW268
            have HR273 : Hid (LiesQ W268 (Par w V0.heap.size (W22.heap.size :: []) P) [U256, U265] (.slice (some ⟨w258.heap.size, 0, none⟩) 2 2)) := q_row [(U256, (.slice a253 U256.kids.length c254)), (U265, (.slice a262 U265.kids.length c263))] _ rfl Hx269.out (par_new (Below.size (kept_trans Kk12.out (kept_trans Kk18.out (kept_trans Kk25.out (kept_trans Kk243.out (kept_trans Kk257.out Kk266.out)))))) (xlt_later XL245.out (kept_trans Kk257.out Kk266.out)) (Nat.le_refl _)) (fun p hp => by
              simp only [List.mem_cons, List.not_mem_nil, or_false] at hp
              rcases hp with rfl | rfl
              · exact ⟨(by rw [← HU256.out]; exact (right_fine (plain_right (points_plain (heR2_lev Hhb16.out))))), (Hhl252.out.later (kept_trans Kk266.out Kk272.out))⟩
              · exact ⟨(by rw [← HU265.out]; exact (right_fine (plain_right (point_plain (heR2_lev Hhb16.out) (heR2_pl Hhb16.out _ (by simp)) (heR2_pl Hhb16.out _ (by simp)))))), (Hhl261.out.later Kk272.out)⟩) (Nat.le_of_ble_eq_true rfl)
            clear hHeld
            refine hK.out _ _ ?_ (fun hHeld => ?_)
            · (try dsimp only)
              exact sees_kept _ (kept_trans Kk243.out (kept_trans Kk257.out (kept_trans Kk266.out Kk272.out)))
            clear hK K
            (try simp only [Act.put, List.setIfInBounds_toArray, List.set_cons_zero, List.set_cons_succ])
            refine take_at 7 22 hselfr3_7 (v := ?_) (Or.inl ⟨by rfl, ?_⟩) ?_
            rotate_left 1
            · ((intro w hSw; (try dsimp only at hSw); unfold hselfr3_7; go_simp) <;> with_reducible rfl)
            (try simp only [Act.put, List.setIfInBounds_toArray, List.set_cons_zero, List.set_cons_succ])
            refine wpAnyH_ready (rs := [9]) (by kernel_rfl) (by simp) ?_
            refine AllReadyH.cons (o := hselfr3_9) rfl (fun K hK => ?_) ?_
            · unfold hselfr3_9
              refine step_store_part rfl 32 (.tmp 7) (.tmp 22) rfl (W22.heap.size) 0 #[.int .i64 21, .int .i64 0, .int .i64 0, .int .i64 0, (.slice (some ⟨w258.heap.size, 0, none⟩) 2 2)] rfl rfl 32 size_term (row_ok rfl) _ #[.int .i64 21, .int .i64 0, .int .i64 0, .int .i64 0, (.slice (some ⟨w258.heap.size, 0, none⟩) 2 2)] (blk_at Hx240.out (kept_trans Kk257.out (kept_trans Kk266.out Kk272.out))) rfl (Nat.le_of_ble_eq_true rfl) ?_
              intro W274 hW274
              have KB275 := Lib.hid (kept_set (kept_trans Kk6.out (kept_trans Kk12.out (kept_trans Kk18.out (kept_trans Kk25.out (kept_trans Kk243.out (kept_trans Kk257.out (kept_trans Kk266.out Kk272.out))))))) hW274 (by have := HG244.out; have := Z0.out; omega))
              have KB276 := Lib.hid (kept_set (kept_trans Kk12.out (kept_trans Kk18.out (kept_trans Kk25.out (kept_trans Kk243.out (kept_trans Kk257.out (kept_trans Kk266.out Kk272.out)))))) hW274 HG244.out)
              have KB277 := Lib.hid (kept_set (kept_trans Kk243.out (kept_trans Kk257.out (kept_trans Kk266.out Kk272.out))) hW274 (Below.size (kept_refl _)))
              have HL278 : Hid (LiesQ W274 (Par w V0.heap.size (W22.heap.size :: []) P) a.kids _) := par_set (HL246.out.later (kept_trans Kk257.out (kept_trans Kk266.out Kk272.out))) hW274 (List.mem_cons_self ..) (by have := HG244.out; have := Z0.out; omega)
              have HL279 : Hid (LiesQ W274 (Par w V0.heap.size (W22.heap.size :: []) P) x.kids _) := par_set (HL247.out.later (kept_trans Kk257.out (kept_trans Kk266.out Kk272.out))) hW274 (List.mem_cons_self ..) (by have := HG244.out; have := Z0.out; omega)
              have HL280 : Hid (LiesQ W274 (Par w V0.heap.size (W22.heap.size :: []) P) [a, x] _) := par_set (HL248.out.later (kept_trans Kk257.out (kept_trans Kk266.out Kk272.out))) hW274 (List.mem_cons_self ..) (by have := HG244.out; have := Z0.out; omega)
              have HL281 : Hid (LiesQ W274 (Par w V0.heap.size (W22.heap.size :: []) P) U256.kids _) := par_set (Hhl252.out.later (kept_trans Kk266.out Kk272.out)) hW274 (List.mem_cons_self ..) (by have := HG244.out; have := Z0.out; omega)
              have HL282 : Hid (LiesQ W274 (Par w V0.heap.size (W22.heap.size :: []) P) U265.kids _) := par_set (Hhl261.out.later Kk272.out) hW274 (List.mem_cons_self ..) (by have := HG244.out; have := Z0.out; omega)
              have HL283 : Hid (LiesQ W274 (Par w V0.heap.size (W22.heap.size :: []) P) [U256, U265] _) := par_set HR273.out hW274 (List.mem_cons_self ..) (by have := HG244.out; have := Z0.out; omega)
              have XL284 := Lib.hid (xlt_set (xlt_later XL245.out (kept_trans Kk257.out (kept_trans Kk266.out Kk272.out))) hW274)
              have HX285 := Lib.hid (blk_same (blk_at Hx240.out (kept_trans Kk257.out (kept_trans Kk266.out Kk272.out))) hW274)
              clear hW274
              clear hHeld
              refine hK.out _ _ ?_ (fun hHeld => ?_)
              · (try dsimp only)
                exact sees_kept _ KB277.out
              clear hK K
              (try simp only [Act.put])
              refine wpAnyH_done (by kernel_rfl) ?_ _
              clear hHeld
              have kvV0 : Sees V0 (w.heap.size + 2) W274 := sees_kept _ KB276.out
              have kvW274 : Sees W274 (w.heap.size + 2) W274 := sees_kept _ (kept_refl _)
              go_wp2_with (refine stop_load 32 (.tmp 4) rfl ?_)
              intro _
              refine wpList_load_part (w.heap.size) 0 32 (.tmp 4) #[.int .i64 a.k, .int .i64 a.i, .int .i64 a.j, .int .i64 a.n, (.slice aa a.kids.length ca)] du (blk_at Hx1.out KB276.out) (by rfl) rfl (by rfl) (by rfl) hu1 (by cases du <;> first | rfl | exact hu2) size_term ?_
              go_wp2_with (refine stop_load 32 (.tmp 4) rfl ?_)
              intro _
              refine wpList_load_part (w.heap.size) 0 32 (.tmp 4) #[.int .i64 a.k, .int .i64 a.i, .int .i64 a.j, .int .i64 a.n, (.slice aa a.kids.length ca)] du (blk_at Hx1.out KB276.out) (by rfl) rfl (by rfl) (by rfl) hu1 (by cases du <;> first | rfl | exact hu2) size_term ?_
              go_wp2_with (refine stop_load 32 (.tmp 5) rfl ?_)
              intro _
              refine wpList_load_part (w.heap.size + 1) 0 32 (.tmp 5) #[.int .i64 x.k, .int .i64 x.i, .int .i64 x.j, .int .i64 x.n, (.slice ax x.kids.length cx)] du (blk_at Hx2.out KB276.out) (by rfl) rfl (by rfl) (by rfl) hu1 (by cases du <;> first | rfl | exact hu2) size_term ?_
              go_wp2_with (refine stop_load 32 (.tmp 5) rfl ?_)
              intro _
              refine wpList_load_part (w.heap.size + 1) 0 32 (.tmp 5) #[.int .i64 x.k, .int .i64 x.i, .int .i64 x.j, .int .i64 x.n, (.slice ax x.kids.length cx)] du (blk_at Hx2.out KB276.out) (by rfl) rfl (by rfl) (by rfl) hu1 (by cases du <;> first | rfl | exact hu2) size_term ?_
              go_wp2_with (refine stop_load 32 (.tmp 7) rfl ?_)
              intro _
              refine wpList_load_part (W22.heap.size) 0 32 (.tmp 7) #[.int .i64 21, .int .i64 0, .int .i64 0, .int .i64 0, (.slice (some ⟨w258.heap.size, 0, none⟩) 2 2)] du HX285.out (by rfl) rfl (by rfl) (by rfl) hu1 (by cases du <;> first | rfl | exact hu2) size_term ?_
              go_wp2_with fail
              clear kvV0
              clear kvW274
              refine (hfresh_any (⟨i, a, a, x, x, (.mk 21 0 0 0 [U256, U265])⟩ : He) (Par w V0.heap.size (W22.heap.size :: []) P) _ (.slice aa a.kids.length ca) (.slice aa a.kids.length ca) (.slice ax x.kids.length cx) (.slice ax x.kids.length cx) (.slice (some ⟨w258.heap.size, 0, none⟩) 2 2) ⟨Ri.out, Ga.out, Ga.out, Gx.out, Gx.out, (mk_fine (show I64 21 from by unfold I64; decide) (show I64 0 from by unfold I64; decide) (show I64 0 from by unfold I64; decide) (show I64 0 from by unfold I64; decide))⟩ ⟨HL278.out, HL278.out, HL279.out, HL279.out, HL283.out⟩ (heR2_pl Hhb16.out _ (by simp)) (heR2_pl Hhb16.out _ (by simp)) (heR2_pl Hhb16.out _ (by simp)) (heR2_pl Hhb16.out _ (by simp))).mono ?_
              obtain ⟨U288, hU288⟩ : ∃ qu, (⟨i, a, a, x, x, (.mk 21 0 0 0 [U256, U265])⟩ : He) = qu := ⟨_, rfl⟩
              rw [hU288]
              have HU288 := Lib.hid hU288
              clear hU288
              rintro e w286 ⟨s289, s290, s291, s292, s293, rfl, ⟨hl294, hl295, hl296, hl297, hl298⟩, k287⟩
              obtain ⟨a299, c300, S301, rfl, -⟩ := hl294.out
              obtain ⟨a302, c303, S304, rfl, -⟩ := hl295.out
              obtain ⟨a305, c306, S307, rfl, -⟩ := hl296.out
              obtain ⟨a308, c309, S310, rfl, -⟩ := hl297.out
              obtain ⟨a311, c312, S313, rfl, -⟩ := hl298.out
              have Kk314 := Lib.hid k287
              clear k287
              have Hhl294 : Hid (LiesQ w286 (Par w V0.heap.size (W22.heap.size :: []) P) U288.a.kids _) := par_give hl294 (Below.size KB276.out) XL284.out
              have Hhl295 : Hid (LiesQ w286 (Par w V0.heap.size (W22.heap.size :: []) P) U288.b.kids _) := par_give hl295 (Below.size KB276.out) XL284.out
              have Hhl296 : Hid (LiesQ w286 (Par w V0.heap.size (W22.heap.size :: []) P) U288.x.kids _) := par_give hl296 (Below.size KB276.out) XL284.out
              have Hhl297 : Hid (LiesQ w286 (Par w V0.heap.size (W22.heap.size :: []) P) U288.y.kids _) := par_give hl297 (Below.size KB276.out) XL284.out
              have Hhl298 : Hid (LiesQ w286 (Par w V0.heap.size (W22.heap.size :: []) P) U288.h.kids _) := par_give hl298 (Below.size KB276.out) XL284.out
              clear hl294 hl295 hl296 hl297 hl298
              have kvV0 : Sees V0 (w.heap.size + 2) w286 := sees_kept _ (kept_trans KB276.out Kk314.out)
              have kvW274 : Sees W274 (w.heap.size + 2) w286 := sees_kept _ Kk314.out
              go_wp2_with (refine stop_store 51 (.tmp 6) (.tmp 30) rfl ?_)
              intro _
              refine wpList_store_part_n (by rfl) 51 (.tmp 6) (.tmp 30) rfl (w.heap.size + 2) 0 #[.int .i64 U288.i, .int .i64 U288.a.k, .int .i64 U288.a.i, .int .i64 U288.a.j, .int .i64 U288.a.n, (.slice a299 U288.a.kids.length c300), .int .i64 U288.b.k, .int .i64 U288.b.i, .int .i64 U288.b.j, .int .i64 U288.b.n, (.slice a302 U288.b.kids.length c303), .int .i64 U288.x.k, .int .i64 U288.x.i, .int .i64 U288.x.j, .int .i64 U288.x.n, (.slice a305 U288.x.kids.length c306), .int .i64 U288.y.k, .int .i64 U288.y.i, .int .i64 U288.y.j, .int .i64 U288.y.n, (.slice a308 U288.y.kids.length c309), .int .i64 U288.h.k, .int .i64 U288.h.i, .int .i64 U288.h.j, .int .i64 U288.h.n, (.slice a311 U288.h.kids.length c312)] (by rfl) (by rfl) 51 (by kernel_rfl) (row_ok rfl) ?_
              intro W315 hW315
              clear kvV0
              clear kvW274
              subst hW315
              refine ⟨_, #[.int .i64 U288.i, .int .i64 U288.a.k, .int .i64 U288.a.i, .int .i64 U288.a.j, .int .i64 U288.a.n, (.slice a299 U288.a.kids.length c300), .int .i64 U288.b.k, .int .i64 U288.b.i, .int .i64 U288.b.j, .int .i64 U288.b.n, (.slice a302 U288.b.kids.length c303), .int .i64 U288.x.k, .int .i64 U288.x.i, .int .i64 U288.x.j, .int .i64 U288.x.n, (.slice a305 U288.x.kids.length c306), .int .i64 U288.y.k, .int .i64 U288.y.i, .int .i64 U288.y.j, .int .i64 U288.y.n, (.slice a308 U288.y.kids.length c309), .int .i64 U288.h.k, .int .i64 U288.h.i, .int .i64 U288.h.j, .int .i64 U288.h.n, (.slice a311 U288.h.kids.length c312)], (blk_at Hx3.out (kept_trans KB276.out Kk314.out)), rfl, Nat.le_of_ble_eq_true rfl, ?_⟩
              intro W316 hW316
              go_wp2_with fail
              refine bodyPost_ret (results_cell_row rfl _ _ (w.heap.size + 2) 51 _ _ dh rfl (blk_same (blk_at Hx3.out (kept_trans KB276.out Kk314.out)) hW316) dh1 (by cases dh <;> first | rfl | exact dh2) (by kernel_rfl)) rfl ?_
              rw [show heSelf i a x = U288 from by unfold heSelf; rw [Hhb16.out]; rw [← HU288.out]; rw [← HU265.out]; rw [← HU256.out]; (try rfl)]
              exact ⟨_, _, _, _, _, rfl, ⟨par_end (par_row' Hhl294.out hW316 (by omega) (by have := Z0.out; omega)) (by have := Z0.out; omega), par_end (par_row' Hhl295.out hW316 (by omega) (by have := Z0.out; omega)) (by have := Z0.out; omega), par_end (par_row' Hhl296.out hW316 (by omega) (by have := Z0.out; omega)) (by have := Z0.out; omega), par_end (par_row' Hhl297.out hW316 (by omega) (by have := Z0.out; omega)) (by have := Z0.out; omega), par_end (par_row' Hhl298.out hW316 (by omega) (by have := Z0.out; omega)) (by have := Z0.out; omega)⟩, kept_set (kept_trans KB275.out Kk314.out) hW316 (by omega)⟩
            exact AllReadyH.nil
          exact AllReadyH.nil
        exact AllReadyH.nil
      exact AllReadyH.nil
    exact AllReadyH.nil

end Go.Proofs.Ytkdceahmknhojaa

namespace Go.Proofs.Ytkdceahmknhojaa
open Go.RowKit

def hthenr4_0 : Oper := { dst := some 25, op := Go.Op.move (Go.Operand.tmp 5), type := 3, pos := "het.go:78", after := #[], guard := none }
def hthenr4_1 : Oper := { dst := some 26, op := Go.Op.binOp Go.BinOp.add 3 (Go.Operand.tmp 25) (Go.Operand.const (Go.Value.int Go.IntKind.i64 1)) 3, type := 3, pos := "het.go:78", after := #[{ on := 0, ground := Go.Ground.data }], guard := none }
def hthenr4_2 : Oper := { dst := some 27, op := Go.Op.move (Go.Operand.tmp 5), type := 3, pos := "het.go:78", after := #[], guard := none }
def hthenr4_3 : Oper := { dst := some 28, op := Go.Op.call { callee := Go.Callee.value (Go.Operand.func 106), args := #[Go.Operand.tmp 27], argTypes := #[3] }, type := 32, pos := "het.go:78", after := #[{ on := 2, ground := Go.Ground.data }], guard := none }
def hthenr4_4 : Oper := { dst := some 29, op := Go.Op.move (Go.Operand.tmp 5), type := 3, pos := "het.go:78", after := #[], guard := none }
def hthenr4_5 : Oper := { dst := some 30, op := Go.Op.fieldAddr 51 (Go.Operand.tmp 2) 1, type := 0, pos := "het.go:78", after := #[], guard := none }
def hthenr4_6 : Oper := { dst := some 31, op := Go.Op.load 32 (Go.Operand.tmp 30), type := 32, pos := "het.go:78", after := #[{ on := 5, ground := Go.Ground.data }], guard := none }
def hthenr4_7 : Oper := { dst := some 32, op := Go.Op.fieldAddr 51 (Go.Operand.tmp 2) 3, type := 0, pos := "het.go:78", after := #[], guard := none }
def hthenr4_8 : Oper := { dst := some 33, op := Go.Op.load 32 (Go.Operand.tmp 32), type := 32, pos := "het.go:78", after := #[{ on := 7, ground := Go.Ground.data }], guard := none }
def hthenr4_9 : Oper := { dst := some 34, op := Go.Op.call { callee := Go.Callee.value (Go.Operand.func 100), args := #[Go.Operand.tmp 29, Go.Operand.tmp 31, Go.Operand.tmp 33], argTypes := #[3, 32, 32] }, type := 32, pos := "het.go:78", after := #[{ on := 4, ground := Go.Ground.data }, { on := 6, ground := Go.Ground.data }, { on := 8, ground := Go.Ground.data }, { on := 3, ground := Go.Ground.chain }], guard := none }
def hthenr4_10 : Oper := { dst := some 35, op := Go.Op.move (Go.Operand.tmp 5), type := 3, pos := "het.go:78", after := #[], guard := none }
def hthenr4_11 : Oper := { dst := some 36, op := Go.Op.fieldAddr 51 (Go.Operand.tmp 2) 2, type := 0, pos := "het.go:78", after := #[], guard := none }
def hthenr4_12 : Oper := { dst := some 37, op := Go.Op.load 32 (Go.Operand.tmp 36), type := 32, pos := "het.go:78", after := #[{ on := 11, ground := Go.Ground.data }], guard := none }
def hthenr4_13 : Oper := { dst := some 38, op := Go.Op.fieldAddr 51 (Go.Operand.tmp 2) 4, type := 0, pos := "het.go:78", after := #[], guard := none }
def hthenr4_14 : Oper := { dst := some 39, op := Go.Op.load 32 (Go.Operand.tmp 38), type := 32, pos := "het.go:78", after := #[{ on := 13, ground := Go.Ground.data }], guard := none }
def hthenr4_15 : Oper := { dst := some 40, op := Go.Op.call { callee := Go.Callee.value (Go.Operand.func 100), args := #[Go.Operand.tmp 35, Go.Operand.tmp 37, Go.Operand.tmp 39], argTypes := #[3, 32, 32] }, type := 32, pos := "het.go:78", after := #[{ on := 10, ground := Go.Ground.data }, { on := 12, ground := Go.Ground.data }, { on := 14, ground := Go.Ground.data }, { on := 9, ground := Go.Ground.chain }], guard := none }
def hthenr4_16 : Oper := { dst := some 41, op := Go.Op.move (Go.Operand.tmp 5), type := 3, pos := "het.go:78", after := #[], guard := none }
def hthenr4_17 : Oper := { dst := some 42, op := Go.Op.fieldAddr 51 (Go.Operand.tmp 3) 2, type := 0, pos := "het.go:78", after := #[], guard := none }
def hthenr4_18 : Oper := { dst := some 43, op := Go.Op.load 32 (Go.Operand.tmp 42), type := 32, pos := "het.go:78", after := #[{ on := 17, ground := Go.Ground.data }], guard := none }
def hthenr4_19 : Oper := { dst := some 44, op := Go.Op.fieldAddr 51 (Go.Operand.tmp 3) 4, type := 0, pos := "het.go:78", after := #[], guard := none }
def hthenr4_20 : Oper := { dst := some 45, op := Go.Op.load 32 (Go.Operand.tmp 44), type := 32, pos := "het.go:78", after := #[{ on := 19, ground := Go.Ground.data }], guard := none }
def hthenr4_21 : Oper := { dst := some 46, op := Go.Op.call { callee := Go.Callee.value (Go.Operand.func 100), args := #[Go.Operand.tmp 41, Go.Operand.tmp 43, Go.Operand.tmp 45], argTypes := #[3, 32, 32] }, type := 32, pos := "het.go:78", after := #[{ on := 16, ground := Go.Ground.data }, { on := 18, ground := Go.Ground.data }, { on := 20, ground := Go.Ground.data }, { on := 15, ground := Go.Ground.chain }], guard := none }
def hthenr4_22 : Oper := { dst := some 47, op := Go.Op.fieldAddr 51 (Go.Operand.tmp 2) 5, type := 0, pos := "het.go:78", after := #[], guard := none }
def hthenr4_23 : Oper := { dst := some 48, op := Go.Op.load 32 (Go.Operand.tmp 47), type := 32, pos := "het.go:78", after := #[{ on := 22, ground := Go.Ground.data }], guard := none }
def hthenr4_24 : Oper := { dst := some 49, op := Go.Op.fieldAddr 51 (Go.Operand.tmp 3) 5, type := 0, pos := "het.go:78", after := #[], guard := none }
def hthenr4_25 : Oper := { dst := some 50, op := Go.Op.load 32 (Go.Operand.tmp 49), type := 32, pos := "het.go:78", after := #[{ on := 24, ground := Go.Ground.data }], guard := none }
def hthenr4_26 : Oper := { dst := some 51, op := Go.Op.buildSlice 30 6 #[(0, Go.Operand.tmp 28), (1, Go.Operand.tmp 34), (2, Go.Operand.tmp 40), (3, Go.Operand.tmp 46), (4, Go.Operand.tmp 48), (5, Go.Operand.tmp 50)], type := 30, pos := "het.go:78", after := #[{ on := 3, ground := Go.Ground.data }, { on := 9, ground := Go.Ground.data }, { on := 15, ground := Go.Ground.data }, { on := 21, ground := Go.Ground.data }, { on := 23, ground := Go.Ground.data }, { on := 25, ground := Go.Ground.data }], guard := none }
def hthenr4_27 : Oper := { dst := some 52, op := Go.Op.call { callee := Go.Callee.value (Go.Operand.func 108), args := #[Go.Operand.const (Go.Value.int Go.IntKind.i64 4), Go.Operand.tmp 26, Go.Operand.tmp 51], argTypes := #[3, 3, 30] }, type := 32, pos := "het.go:78", after := #[{ on := 1, ground := Go.Ground.data }, { on := 26, ground := Go.Ground.data }, { on := 21, ground := Go.Ground.chain }], guard := none }
def hthenr4_28 : Oper := { dst := some 6, op := Go.Op.alloc 32, type := 0, pos := "het.go:78", after := #[], guard := none }
def hthenr4_29 : Oper := { dst := none, op := Go.Op.store 32 (Go.Operand.tmp 6) (Go.Operand.tmp 52), type := 0, pos := "het.go:78", after := #[{ on := 28, ground := Go.Ground.data }, { on := 27, ground := Go.Ground.data }, { on := 27, ground := Go.Ground.chain }, { on := 0, ground := Go.Ground.phase }, { on := 1, ground := Go.Ground.phase }, { on := 2, ground := Go.Ground.phase }, { on := 3, ground := Go.Ground.phase }, { on := 4, ground := Go.Ground.phase }, { on := 5, ground := Go.Ground.phase }, { on := 6, ground := Go.Ground.phase }, { on := 7, ground := Go.Ground.phase }, { on := 8, ground := Go.Ground.phase }, { on := 9, ground := Go.Ground.phase }, { on := 10, ground := Go.Ground.phase }, { on := 11, ground := Go.Ground.phase }, { on := 12, ground := Go.Ground.phase }, { on := 13, ground := Go.Ground.phase }, { on := 14, ground := Go.Ground.phase }, { on := 15, ground := Go.Ground.phase }, { on := 16, ground := Go.Ground.phase }, { on := 17, ground := Go.Ground.phase }, { on := 18, ground := Go.Ground.phase }, { on := 19, ground := Go.Ground.phase }, { on := 20, ground := Go.Ground.phase }, { on := 21, ground := Go.Ground.phase }, { on := 22, ground := Go.Ground.phase }, { on := 23, ground := Go.Ground.phase }, { on := 24, ground := Go.Ground.phase }, { on := 25, ground := Go.Ground.phase }, { on := 26, ground := Go.Ground.phase }, { on := 27, ground := Go.Ground.phase }, { on := 28, ground := Go.Ground.phase }], guard := none }
end Go.Proofs.Ytkdceahmknhojaa
