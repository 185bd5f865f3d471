/-
  Facts and contracts that the proof of ShapeWays uses.
-/
import Derived.Test.YtgododpkbiaacaaGreatRows
import Derived.WalkKit
import Derived.Lib.Hide
import Derived.KernelRfl
import Derived.Deep.RegionWith
import Derived.Deep.RegionHeld3
import Derived.Deep.AppendLies
import Derived.Laws.Rows
import Derived.Laws.IdiomCopy
import Derived.Deep.Slices
import Derived.Lib.QuietBelow
import Derived.StillTailTactics
import Derived.BigQuiet
import Derived.IntWalk
import Derived.OwnWalk
import Derived.Deep.RegionLaw
import Derived.Deep.QuietTactic
import Derived.Deep.LoopGhost
import Derived.Deep.DeepCutAuto
import Derived.OrdersHeld
import Derived.Deep.MidRow
import Derived.Laws.Tables
import Derived.Laws.CopyOwn
import Derived.Laws.CopyRow
import Derived.Deep.RegionHeld
import Derived.Lib.MinMax
import Derived.ProofKit
import Derived.OpenShut
import Derived.Carry
import Derived.ChangeSlices
import Derived.JoinedOf
import Derived.Test.YtgododpkbiaacaaGreatShapeWaysQ5
namespace Go.Proofs.YtgododpkbiaacaaGreat
open Go.RowKit

theorem sort_fine6 {i : Int} (h : I64 i) : (sortT i).fine := mk_fine (by unfold I64; decide) h (by unfold I64; decide) (by unfold I64; decide)
theorem var_fine6 {i : Int} (h : I64 i) : (varT i).fine := mk_fine (by unfold I64; decide) h (by unfold I64; decide) (by unfold I64; decide)
theorem d_m3 : (sortT 3).markedB = true := by rw [Tm.markedB_eq]; rfl
theorem d_m4 : (sortT 4).markedB = true := by rw [Tm.markedB_eq]; rfl
theorem d_m5 : (sortT 5).markedB = true := by rw [Tm.markedB_eq]; rfl
theorem d_p4 : (sortT 4).pur = sortT 4 := by rw [Tm.pur_eq]; rfl
theorem d_p5 : (sortT 5).pur = sortT 5 := by rw [Tm.pur_eq]; rfl
theorem d_r44 : relatedB (sortT 4) (sortT 4) = true := by rw [relatedB_self]; exact d_m4
theorem d_s44 : sameB (sortT 4) (sortT 4) = true := sameB_self _
theorem d_r45 : relatedB (sortT 4) (sortT 5) = false := by unfold relatedB; rw [d_m4, d_m5, d_p4, d_p5]; decide
theorem d_v1 : (varT 1).markedB = true := by rw [Tm.markedB_eq]; rfl
theorem d_v2 : (varT 2).markedB = true := by rw [Tm.markedB_eq]; rfl
theorem d_v0 : (varT 0).markedB = true := by rw [Tm.markedB_eq]; rfl
theorem d_v3 : (varT 3).plainB = true := by rw [Tm.plainB_eq]; rfl
theorem d_tr : (Tm.mk 12 0 0 0 [varT 1, varT 2, varT 3, varT 0]).markedB = true := by
  rw [Tm.markedB_eq]
  have e : markeds ((Tm.mk 12 0 0 0 [varT 1, varT 2, varT 3, varT 0]).k == 12) 0 (Tm.mk 12 0 0 0 [varT 1, varT 2, varT 3, varT 0]).kids = true := by
    show markeds true 0 [varT 1, varT 2, varT 3, varT 0] = true
    simp [markeds, d_v1, d_v2, d_v0, d_v3]
  rw [e]
  rfl
theorem d_head : (Tm.mk 12 0 0 0 [varT 1, varT 2, varT 3, varT 0]).headB = varT 0 := by
  unfold Tm.headB
  rw [if_pos d_tr, und_tr (a := varT 1) (b := varT 2) (p := varT 3) (x := varT 0) rfl rfl]
  exact und_other (by decide)
set_option maxRecDepth 20000 in
set_option maxHeartbeats 4000000 in
theorem wakes26_any (w : World) : Calls Tryz.prog 12 #[] w fun e w' => e = .returned (.bool true) ∧ Kept w w' := by
  obtain ⟨du, hu1, hu2⟩ := under_term
  go_enter Tryz.func12, Tryz.ntmps12
  go_upto_region 1 with fail
  refine at_code (fun V0 hV0 => ?_)
  have k1 : Kept w V0 := by rw [← hV0]; exact kept_refl _
  have Z0 : Hid (V0.heap.size = w.heap.size + 0) := by show _ = _; rw [← hV0]; rfl
  clear hV0
  have Kk3 := Lib.hid k1
  clear k1
  have kvV0 : SeesN V0 V0.heap.size V0 := seesN_kept _ (kept_refl _)
  go_wp2_with fail
  clear kvV0
  refine (ls6_any 0 (Par w V0.heap.size [] (fun _ => False)) _ (show I64 0 from by unfold I64; decide)).mono ?_
  obtain ⟨U11, hU11⟩ : ∃ qu, sortT 0 = qu := ⟨_, rfl⟩
  rw [hU11]
  have HU11 := Lib.hid hU11
  clear hU11
  rintro e w4 ⟨s6, rfl, hl7, k5⟩
  obtain ⟨a8, c9, S10, rfl, -⟩ := hl7.out
  have Kk12 := Lib.hid k5
  clear k5
  have Hhl7 : Hid (LiesQ w4 (Par w V0.heap.size [] (fun _ => False)) U11.kids _) := par_give hl7 (Nat.le_refl _) (xlt_nil _)
  clear hl7
  have kvV0 : SeesN V0 V0.heap.size w4 := seesN_kept _ Kk12.out
  go_wp2_with fail
  refine at_world (fun W14 hW14 => ?_)
  clear kvV0
  obtain ⟨k16, x15, z17⟩ := alloc1 hW14
  have Kk18 := Lib.hid k16
  clear k16
  have Hx15 := Lib.hid x15
  have Hz17 := Lib.hid z17
  clear x15 z17 hW14
  refine (ways1_any U11 (Par w V0.heap.size [] (fun _ => False)) W14 w4.heap.size ((.slice a8 U11.kids.length c9)) (by rw [← HU11.out]; exact (sort_fine6 (show I64 0 from by unfold I64; decide))) (Hhl7.out.later Kk18.out) Hx15.out HU11.out.symm).mono ?_
  rintro e w19 ⟨g21, c22, D23, fr24, rfl, x28, hd26, hd27, hz29, k20⟩
  have Hx28 := Lib.hid x28
  have Hhz29 := Lib.hid hz29
  have Hhd26 := Lib.hid hd26
  have Hhd27 := Lib.hid hd27
  clear x28 hz29 hd26 hd27
  have Kk30 := Lib.hid k20
  clear k20
  have HG31 : Hid (V0.heap.size ≤ g21) := (Nat.le_trans (Below.size (kept_trans Kk12.out Kk18.out)) Hhz29.out)
  have XL32 : Hid (XLt (g21 :: []) w19) := (List.forall_mem_cons.2 ⟨block_lt Hx28.out, xlt_later (xlt_nil _) Kk30.out⟩)
  have ld33 := partN_cell (r := V0.heap.size) Hx28.out trivial 0 (.int .i64 1) Hhd26.out
  have ld34 := partN_cell (r := V0.heap.size) Hx28.out trivial 11 (.int .i64 2) Hhd27.out
  have kvV0 : SeesN V0 V0.heap.size w19 := seesN_kept _ (kept_trans Kk12.out (kept_trans Kk18.out Kk30.out))
  go_wp2_with fail
  clear kvV0
  refine (lv6_any 1 (Par w V0.heap.size (g21 :: []) (fun _ => False)) _ (show I64 1 from by unfold I64; decide)).mono ?_
  obtain ⟨U42, hU42⟩ : ∃ qu, varT 1 = qu := ⟨_, rfl⟩
  rw [hU42]
  have HU42 := Lib.hid hU42
  clear hU42
  rintro e w35 ⟨s37, rfl, hl38, k36⟩
  obtain ⟨a39, c40, S41, rfl, -⟩ := hl38.out
  have Kk43 := Lib.hid k36
  clear k36
  have Hhl38 : Hid (LiesQ w35 (Par w V0.heap.size (g21 :: []) (fun _ => False)) U42.kids _) := par_give hl38 (Below.size (kept_trans Kk12.out (kept_trans Kk18.out Kk30.out))) XL32.out
  clear hl38
  have kvV0 : SeesN V0 V0.heap.size w35 := seesN_kept _ (kept_trans Kk12.out (kept_trans Kk18.out (kept_trans Kk30.out Kk43.out)))
  go_wp2_with fail
  clear kvV0
  refine (lv6_any 2 (Par w V0.heap.size (g21 :: []) (fun _ => False)) _ (show I64 2 from by unfold I64; decide)).mono ?_
  obtain ⟨U51, hU51⟩ : ∃ qu, varT 2 = qu := ⟨_, rfl⟩
  rw [hU51]
  have HU51 := Lib.hid hU51
  clear hU51
  rintro e w44 ⟨s46, rfl, hl47, k45⟩
  obtain ⟨a48, c49, S50, rfl, -⟩ := hl47.out
  have Kk52 := Lib.hid k45
  clear k45
  have Hhl47 : Hid (LiesQ w44 (Par w V0.heap.size (g21 :: []) (fun _ => False)) U51.kids _) := par_give hl47 (Below.size (kept_trans Kk12.out (kept_trans Kk18.out (kept_trans Kk30.out Kk43.out)))) (xlt_later XL32.out Kk43.out)
  clear hl47
  have kvV0 : SeesN V0 V0.heap.size w44 := seesN_kept _ (kept_trans Kk12.out (kept_trans Kk18.out (kept_trans Kk30.out (kept_trans Kk43.out Kk52.out))))
  go_wp2_with fail
  clear kvV0
  refine (lv6_any 3 (Par w V0.heap.size (g21 :: []) (fun _ => False)) _ (show I64 3 from by unfold I64; decide)).mono ?_
  obtain ⟨U60, hU60⟩ : ∃ qu, varT 3 = qu := ⟨_, rfl⟩
  rw [hU60]
  have HU60 := Lib.hid hU60
  clear hU60
  rintro e w53 ⟨s55, rfl, hl56, k54⟩
  obtain ⟨a57, c58, S59, rfl, -⟩ := hl56.out
  have Kk61 := Lib.hid k54
  clear k54
  have Hhl56 : Hid (LiesQ w53 (Par w V0.heap.size (g21 :: []) (fun _ => False)) U60.kids _) := par_give hl56 (Below.size (kept_trans Kk12.out (kept_trans Kk18.out (kept_trans Kk30.out (kept_trans Kk43.out Kk52.out))))) (xlt_later XL32.out (kept_trans Kk43.out Kk52.out))
  clear hl56
  have kvV0 : SeesN V0 V0.heap.size w53 := seesN_kept _ (kept_trans Kk12.out (kept_trans Kk18.out (kept_trans Kk30.out (kept_trans Kk43.out (kept_trans Kk52.out Kk61.out)))))
  go_wp2_with fail
  clear kvV0
  refine (lv6_any 0 (Par w V0.heap.size (g21 :: []) (fun _ => False)) _ (show I64 0 from by unfold I64; decide)).mono ?_
  obtain ⟨U69, hU69⟩ : ∃ qu, varT 0 = qu := ⟨_, rfl⟩
  rw [hU69]
  have HU69 := Lib.hid hU69
  clear hU69
  rintro e w62 ⟨s64, rfl, hl65, k63⟩
  obtain ⟨a66, c67, S68, rfl, -⟩ := hl65.out
  have Kk70 := Lib.hid k63
  clear k63
  have Hhl65 : Hid (LiesQ w62 (Par w V0.heap.size (g21 :: []) (fun _ => False)) U69.kids _) := par_give hl65 (Below.size (kept_trans Kk12.out (kept_trans Kk18.out (kept_trans Kk30.out (kept_trans Kk43.out (kept_trans Kk52.out Kk61.out)))))) (xlt_later XL32.out (kept_trans Kk43.out (kept_trans Kk52.out Kk61.out)))
  clear hl65
  have kvV0 : SeesN V0 V0.heap.size w62 := seesN_kept _ (kept_trans Kk12.out (kept_trans Kk18.out (kept_trans Kk30.out (kept_trans Kk43.out (kept_trans Kk52.out (kept_trans Kk61.out Kk70.out))))))
  go_wp2_with (refine stop_store 25 (.tmp 2) (.tmp 16) rfl ?_)
  intro _
  refine at_list (fun W72 hW72 => ?_)
  clear kvV0
  obtain ⟨W73, h74, h75⟩ := peel hW72
  clear hW72
  obtain ⟨k77, x76, z78⟩ := alloc1 h74
  have Kk79 := Lib.hid k77
  clear k77
  have Hx76 := Lib.hid x76
  have Hz78 := Lib.hid z78
  clear x76 z78 h74
  have kq81 := (kept_trans Kk70.out Kk79.out)
  have kq82 := (kept_trans Kk61.out (kept_trans Kk70.out Kk79.out))
  have kq83 := (kept_trans Kk52.out (kept_trans Kk61.out (kept_trans Kk70.out Kk79.out)))
  have HR80 := Lib.hid (q_row4 (Q := (Par w V0.heap.size (g21 :: []) (fun _ => False))) Hx76.out (by rw [← HU42.out]; exact (var_fine6 (show I64 1 from by unfold I64; decide))) (Hhl38.out.later kq83) (by rw [← HU51.out]; exact (var_fine6 (show I64 2 from by unfold I64; decide))) (Hhl47.out.later kq82) (by rw [← HU60.out]; exact (var_fine6 (show I64 3 from by unfold I64; decide))) (Hhl56.out.later kq81) (by rw [← HU69.out]; exact (var_fine6 (show I64 0 from by unfold I64; decide))) (Hhl65.out.later Kk79.out) (par_new (Below.size (kept_trans Kk12.out (kept_trans Kk18.out (kept_trans Kk30.out (kept_trans Kk43.out (kept_trans Kk52.out (kept_trans Kk61.out Kk70.out))))))) (xlt_later XL32.out (kept_trans Kk43.out (kept_trans Kk52.out (kept_trans Kk61.out Kk70.out)))) (Nat.le_refl _)))
  clear kq81 kq82 kq83
  obtain ⟨k85, x84, z86⟩ := alloc1 h75
  have Kk87 := Lib.hid k85
  clear k85
  have Hx84 := Lib.hid x84
  have Hz86 := Lib.hid z86
  clear x84 z86 h75
  have HG88 : Hid (V0.heap.size ≤ W73.heap.size) := (Below.size (kept_trans Kk12.out (kept_trans Kk18.out (kept_trans Kk30.out (kept_trans Kk43.out (kept_trans Kk52.out (kept_trans Kk61.out (kept_trans Kk70.out Kk79.out))))))))
  have AP89 : Hid (g21 < W73.heap.size) := block_lt (blk_at Hx28.out (kept_trans Kk43.out (kept_trans Kk52.out (kept_trans Kk61.out (kept_trans Kk70.out Kk79.out)))))
  have XL90 : Hid (XLt (W73.heap.size :: (g21 :: [])) W72) := (xlt_more (xlt_later XL32.out (kept_trans Kk43.out (kept_trans Kk52.out (kept_trans Kk61.out (kept_trans Kk70.out Kk79.out))))) Kk87.out (by have := Hz86.out; omega))
  rw [← Hz78.out]
  have kvV0 : SeesN V0 V0.heap.size W72 := seesN_kept _ (kept_trans Kk12.out (kept_trans Kk18.out (kept_trans Kk30.out (kept_trans Kk43.out (kept_trans Kk52.out (kept_trans Kk61.out (kept_trans Kk70.out (kept_trans Kk79.out Kk87.out))))))))
  refine wpList_store_part_n (by rfl) 25 (.tmp 2) (.tmp 16) rfl (W73.heap.size) 0 #[.int .i64 12, .int .i64 0, .int .i64 0, .int .i64 0, (.slice (some ⟨w62.heap.size, 0, none⟩) 4 4)] (by rfl) (by rfl) 25 size_term (row_ok rfl) ?_
  intro W91 hW91
  clear kvV0
  subst hW91
  refine ⟨_, #[.int .i64 12, .int .i64 0, .int .i64 0, .int .i64 0, (.slice (some ⟨w62.heap.size, 0, none⟩) 4 4)], Hx84.out, rfl, Nat.le_of_ble_eq_true rfl, ?_⟩
  intro W92 hW92
  have KB93 := Lib.hid (kept_set (kept_trans Kk3.out (kept_trans Kk12.out (kept_trans Kk18.out (kept_trans Kk30.out (kept_trans Kk43.out (kept_trans Kk52.out (kept_trans Kk61.out (kept_trans Kk70.out (kept_trans Kk79.out Kk87.out))))))))) hW92 (by have := HG88.out; have := Z0.out; omega))
  have KB94 := Lib.hid (kept_set (kept_trans Kk12.out (kept_trans Kk18.out (kept_trans Kk30.out (kept_trans Kk43.out (kept_trans Kk52.out (kept_trans Kk61.out (kept_trans Kk70.out (kept_trans Kk79.out Kk87.out)))))))) hW92 HG88.out)
  have HL95 : Hid (LiesQ W92 (Par w V0.heap.size (W73.heap.size :: (g21 :: [])) (fun _ => False)) U11.kids _) := par_set (par_grow Hhl7.out (kept_trans Kk18.out (kept_trans Kk30.out (kept_trans Kk43.out (kept_trans Kk52.out (kept_trans Kk61.out (kept_trans Kk70.out (kept_trans Kk79.out Kk87.out))))))) (List.forall_mem_cons.2 ⟨(Or.inr (Nat.le_trans (Below.size (kept_trans Kk18.out (kept_trans Kk30.out (kept_trans Kk43.out (kept_trans Kk52.out (kept_trans Kk61.out (kept_trans Kk70.out Kk79.out))))))) (Nat.le_refl W73.heap.size))), (List.forall_mem_cons.2 ⟨(Or.inr (Nat.le_trans (Below.size Kk18.out) Hhz29.out)), (fun _ h => nomatch h)⟩)⟩)) hW92 (List.mem_cons_self ..) (by have := HG88.out; have := Z0.out; omega)
  have HL96 : Hid (LiesQ W92 (Par w V0.heap.size (W73.heap.size :: (g21 :: [])) (fun _ => False)) U42.kids _) := par_set (par_grow Hhl38.out (kept_trans Kk52.out (kept_trans Kk61.out (kept_trans Kk70.out (kept_trans Kk79.out Kk87.out)))) (List.forall_mem_cons.2 ⟨(Or.inr (Nat.le_trans (Below.size (kept_trans Kk52.out (kept_trans Kk61.out (kept_trans Kk70.out Kk79.out)))) (Nat.le_refl W73.heap.size))), (List.forall_mem_cons.2 ⟨(Or.inl (List.mem_cons_self ..)), (fun _ h => nomatch h)⟩)⟩)) hW92 (List.mem_cons_self ..) (by have := HG88.out; have := Z0.out; omega)
  have HL97 : Hid (LiesQ W92 (Par w V0.heap.size (W73.heap.size :: (g21 :: [])) (fun _ => False)) U51.kids _) := par_set (par_grow Hhl47.out (kept_trans Kk61.out (kept_trans Kk70.out (kept_trans Kk79.out Kk87.out))) (List.forall_mem_cons.2 ⟨(Or.inr (Nat.le_trans (Below.size (kept_trans Kk61.out (kept_trans Kk70.out Kk79.out))) (Nat.le_refl W73.heap.size))), (List.forall_mem_cons.2 ⟨(Or.inl (List.mem_cons_self ..)), (fun _ h => nomatch h)⟩)⟩)) hW92 (List.mem_cons_self ..) (by have := HG88.out; have := Z0.out; omega)
  have HL98 : Hid (LiesQ W92 (Par w V0.heap.size (W73.heap.size :: (g21 :: [])) (fun _ => False)) U60.kids _) := par_set (par_grow Hhl56.out (kept_trans Kk70.out (kept_trans Kk79.out Kk87.out)) (List.forall_mem_cons.2 ⟨(Or.inr (Nat.le_trans (Below.size (kept_trans Kk70.out Kk79.out)) (Nat.le_refl W73.heap.size))), (List.forall_mem_cons.2 ⟨(Or.inl (List.mem_cons_self ..)), (fun _ h => nomatch h)⟩)⟩)) hW92 (List.mem_cons_self ..) (by have := HG88.out; have := Z0.out; omega)
  have HL99 : Hid (LiesQ W92 (Par w V0.heap.size (W73.heap.size :: (g21 :: [])) (fun _ => False)) U69.kids _) := par_set (par_grow Hhl65.out (kept_trans Kk79.out Kk87.out) (List.forall_mem_cons.2 ⟨(Or.inr (Nat.le_trans (Below.size Kk79.out) (Nat.le_refl W73.heap.size))), (List.forall_mem_cons.2 ⟨(Or.inl (List.mem_cons_self ..)), (fun _ h => nomatch h)⟩)⟩)) hW92 (List.mem_cons_self ..) (by have := HG88.out; have := Z0.out; omega)
  have HL100 : Hid (LiesQ W92 (Par w V0.heap.size (W73.heap.size :: (g21 :: [])) (fun _ => False)) [U42, U51, U60, U69] _) := par_set (par_grow HR80.out Kk87.out (List.forall_mem_cons.2 ⟨(Or.inr (Nat.le_refl W73.heap.size)), (List.forall_mem_cons.2 ⟨(Or.inl (List.mem_cons_self ..)), (fun _ h => nomatch h)⟩)⟩)) hW92 (List.mem_cons_self ..) (by have := HG88.out; have := Z0.out; omega)
  have XL101 := Lib.hid (xlt_set XL90.out hW92)
  have HX102 := Lib.hid (blk_other (blk_at Hx28.out (kept_trans Kk43.out (kept_trans Kk52.out (kept_trans Kk61.out (kept_trans Kk70.out (kept_trans Kk79.out Kk87.out)))))) hW92 (by have := AP89.out; omega))
  have HX103 := Lib.hid (blk_same Hx84.out hW92)
  (try clear ld33)
  (try clear ld34)
  clear hW92
  have ld104 := partN_cell (r := V0.heap.size) HX102.out trivial 0 (.int .i64 1) Hhd26.out
  have ld105 := partN_cell (r := V0.heap.size) HX102.out trivial 11 (.int .i64 2) Hhd27.out
  have kvV0 : SeesN V0 V0.heap.size W92 := seesN_kept _ KB94.out
  have kvW92 : SeesN W92 V0.heap.size W92 := seesN_kept _ (kept_refl _)
  go_wp2_with fail
  clear kvV0
  clear kvW92
  refine (ls6_any 3 (Par w V0.heap.size (W73.heap.size :: (g21 :: [])) (fun _ => False)) _ (show I64 3 from by unfold I64; decide)).mono ?_
  obtain ⟨U113, hU113⟩ : ∃ qu, sortT 3 = qu := ⟨_, rfl⟩
  rw [hU113]
  have HU113 := Lib.hid hU113
  clear hU113
  rintro e w106 ⟨s108, rfl, hl109, k107⟩
  obtain ⟨a110, c111, S112, rfl, -⟩ := hl109.out
  have Kk114 := Lib.hid k107
  clear k107
  have Hhl109 : Hid (LiesQ w106 (Par w V0.heap.size (W73.heap.size :: (g21 :: [])) (fun _ => False)) U113.kids _) := par_give hl109 (Below.size KB94.out) XL101.out
  clear hl109
  have kvV0 : SeesN V0 V0.heap.size w106 := seesN_kept _ (kept_trans KB94.out Kk114.out)
  have kvW92 : SeesN W92 V0.heap.size w106 := seesN_kept _ Kk114.out
  go_wp2_with fail
  clear kvV0
  clear kvW92
  refine (ls6_any 4 (Par w V0.heap.size (W73.heap.size :: (g21 :: [])) (fun _ => False)) _ (show I64 4 from by unfold I64; decide)).mono ?_
  obtain ⟨U122, hU122⟩ : ∃ qu, sortT 4 = qu := ⟨_, rfl⟩
  rw [hU122]
  have HU122 := Lib.hid hU122
  clear hU122
  rintro e w115 ⟨s117, rfl, hl118, k116⟩
  obtain ⟨a119, c120, S121, rfl, -⟩ := hl118.out
  have Kk123 := Lib.hid k116
  clear k116
  have Hhl118 : Hid (LiesQ w115 (Par w V0.heap.size (W73.heap.size :: (g21 :: [])) (fun _ => False)) U122.kids _) := par_give hl118 (Below.size (kept_trans KB94.out Kk114.out)) (xlt_later XL101.out Kk114.out)
  clear hl118
  have kvV0 : SeesN V0 V0.heap.size w115 := seesN_kept _ (kept_trans KB94.out (kept_trans Kk114.out Kk123.out))
  have kvW92 : SeesN W92 V0.heap.size w115 := seesN_kept _ (kept_trans Kk114.out Kk123.out)
  go_wp2_with fail
  clear kvV0
  clear kvW92
  refine (ls6_any 4 (Par w V0.heap.size (W73.heap.size :: (g21 :: [])) (fun _ => False)) _ (show I64 4 from by unfold I64; decide)).mono ?_
  rw [HU122.out]
  rintro e w124 ⟨s126, rfl, hl127, k125⟩
  obtain ⟨a128, c129, S130, rfl, -⟩ := hl127.out
  have Kk131 := Lib.hid k125
  clear k125
  have Hhl127 : Hid (LiesQ w124 (Par w V0.heap.size (W73.heap.size :: (g21 :: [])) (fun _ => False)) U122.kids _) := par_give hl127 (Below.size (kept_trans KB94.out (kept_trans Kk114.out Kk123.out))) (xlt_later XL101.out (kept_trans Kk114.out Kk123.out))
  clear hl127
  have kvV0 : SeesN V0 V0.heap.size w124 := seesN_kept _ (kept_trans KB94.out (kept_trans Kk114.out (kept_trans Kk123.out Kk131.out)))
  have kvW92 : SeesN W92 V0.heap.size w124 := seesN_kept _ (kept_trans Kk114.out (kept_trans Kk123.out Kk131.out))
  go_wp2_with fail
  clear kvV0
  clear kvW92
  refine (as_same 0 U113 U122 U122 (Par w V0.heap.size (W73.heap.size :: (g21 :: [])) (fun _ => False)) w124 ((.slice a110 U113.kids.length c111)) ((.slice a119 U122.kids.length c120)) ((.slice a128 U122.kids.length c129)) (by unfold I64; decide) (by rw [← HU113.out]; exact (sort_fine6 (show I64 3 from by unfold I64; decide))) (Hhl109.out.later (kept_trans Kk123.out Kk131.out)) (by rw [← HU122.out]; exact (sort_fine6 (show I64 4 from by unfold I64; decide))) (Hhl118.out.later Kk131.out) (by rw [← HU122.out]; exact (sort_fine6 (show I64 4 from by unfold I64; decide))) Hhl127.out (by rw [← HU113.out]; exact d_m3) (by rw [← HU122.out]; exact d_r44) (by rw [← HU122.out]; exact d_s44) (by rw [← HU113.out]; decide)).mono ?_
  rintro e w132 ⟨s135, rfl, hl134, k133⟩
  obtain ⟨a136, c137, S138, rfl, -⟩ := hl134.out
  have Kk139 := Lib.hid k133
  clear k133
  have Hhl134 : Hid (LiesQ w132 (Par w V0.heap.size (W73.heap.size :: (g21 :: [])) (fun _ => False)) U113.kids _) := par_give hl134 (Below.size (kept_trans KB94.out (kept_trans Kk114.out (kept_trans Kk123.out Kk131.out)))) (xlt_later XL101.out (kept_trans Kk114.out (kept_trans Kk123.out Kk131.out)))
  clear hl134
  have kf140 : (U113.i == 3) = true := by rw [← HU113.out]; first | rfl | decide
  have kf141 : (U113.k == 1) = true := by rw [← HU113.out]; first | rfl | decide
  have kvV0 : SeesN V0 V0.heap.size w132 := seesN_kept _ (kept_trans KB94.out (kept_trans Kk114.out (kept_trans Kk123.out (kept_trans Kk131.out Kk139.out))))
  have kvW92 : SeesN W92 V0.heap.size w132 := seesN_kept _ (kept_trans Kk114.out (kept_trans Kk123.out (kept_trans Kk131.out Kk139.out)))
  go_wp2_with (refine stop_store 25 (.tmp 3) (.tmp 22) rfl ?_)
  intro _
  refine wpList_store_part_n (by rfl) 25 (.tmp 3) (.tmp 22) rfl (w132.heap.size) 0 #[.int .i64 U113.k, .int .i64 U113.i, .int .i64 U113.j, .int .i64 U113.n, (.slice a136 U113.kids.length c137)] (by rfl) (by rfl) 25 size_term (row_ok rfl) ?_
  intro W142 hW142
  clear kvV0
  clear kvW92
  obtain ⟨k145, x144, z146⟩ := alloc1 hW142
  have Kk147 := Lib.hid k145
  clear k145
  have Hx144 := Lib.hid x144
  have Hz146 := Lib.hid z146
  clear x144 z146 hW142
  have HG148 : Hid (V0.heap.size ≤ w132.heap.size) := (Below.size (kept_trans KB94.out (kept_trans Kk114.out (kept_trans Kk123.out (kept_trans Kk131.out Kk139.out)))))
  have AP149 : Hid (g21 < w132.heap.size) := block_lt (blk_at HX102.out (kept_trans Kk114.out (kept_trans Kk123.out (kept_trans Kk131.out Kk139.out))))
  have AP150 : Hid (W73.heap.size < w132.heap.size) := block_lt (blk_at HX103.out (kept_trans Kk114.out (kept_trans Kk123.out (kept_trans Kk131.out Kk139.out))))
  have XL151 : Hid (XLt (w132.heap.size :: (W73.heap.size :: (g21 :: []))) W142) := (xlt_more (xlt_later XL101.out (kept_trans Kk114.out (kept_trans Kk123.out (kept_trans Kk131.out Kk139.out)))) Kk147.out (by have := Hz146.out; omega))
  refine ⟨_, #[.int .i64 U113.k, .int .i64 U113.i, .int .i64 U113.j, .int .i64 U113.n, (.slice a136 U113.kids.length c137)], Hx144.out, rfl, Nat.le_of_ble_eq_true rfl, ?_⟩
  intro W143 hW143
  have KB152 := Lib.hid (kept_set (kept_trans KB93.out (kept_trans Kk114.out (kept_trans Kk123.out (kept_trans Kk131.out (kept_trans Kk139.out Kk147.out))))) hW143 (by have := HG148.out; have := Z0.out; omega))
  have KB153 := Lib.hid (kept_set (kept_trans KB94.out (kept_trans Kk114.out (kept_trans Kk123.out (kept_trans Kk131.out (kept_trans Kk139.out Kk147.out))))) hW143 HG148.out)
  have HL154 : Hid (LiesQ W143 (Par w V0.heap.size (w132.heap.size :: (W73.heap.size :: (g21 :: []))) (fun _ => False)) U11.kids _) := par_set (par_grow HL95.out (kept_trans Kk114.out (kept_trans Kk123.out (kept_trans Kk131.out (kept_trans Kk139.out Kk147.out)))) (List.forall_mem_cons.2 ⟨(Or.inr (Nat.le_trans (Below.size (kept_trans Kk114.out (kept_trans Kk123.out (kept_trans Kk131.out Kk139.out)))) (Nat.le_refl w132.heap.size))), (List.forall_mem_cons.2 ⟨(Or.inl (List.mem_cons_self ..)), (List.forall_mem_cons.2 ⟨(Or.inl (List.mem_cons_of_mem _ (List.mem_cons_self ..))), (fun _ h => nomatch h)⟩)⟩)⟩)) hW143 (List.mem_cons_self ..) (by have := HG148.out; have := Z0.out; omega)
  have HL155 : Hid (LiesQ W143 (Par w V0.heap.size (w132.heap.size :: (W73.heap.size :: (g21 :: []))) (fun _ => False)) U42.kids _) := par_set (par_grow HL96.out (kept_trans Kk114.out (kept_trans Kk123.out (kept_trans Kk131.out (kept_trans Kk139.out Kk147.out)))) (List.forall_mem_cons.2 ⟨(Or.inr (Nat.le_trans (Below.size (kept_trans Kk114.out (kept_trans Kk123.out (kept_trans Kk131.out Kk139.out)))) (Nat.le_refl w132.heap.size))), (List.forall_mem_cons.2 ⟨(Or.inl (List.mem_cons_self ..)), (List.forall_mem_cons.2 ⟨(Or.inl (List.mem_cons_of_mem _ (List.mem_cons_self ..))), (fun _ h => nomatch h)⟩)⟩)⟩)) hW143 (List.mem_cons_self ..) (by have := HG148.out; have := Z0.out; omega)
  have HL156 : Hid (LiesQ W143 (Par w V0.heap.size (w132.heap.size :: (W73.heap.size :: (g21 :: []))) (fun _ => False)) U51.kids _) := par_set (par_grow HL97.out (kept_trans Kk114.out (kept_trans Kk123.out (kept_trans Kk131.out (kept_trans Kk139.out Kk147.out)))) (List.forall_mem_cons.2 ⟨(Or.inr (Nat.le_trans (Below.size (kept_trans Kk114.out (kept_trans Kk123.out (kept_trans Kk131.out Kk139.out)))) (Nat.le_refl w132.heap.size))), (List.forall_mem_cons.2 ⟨(Or.inl (List.mem_cons_self ..)), (List.forall_mem_cons.2 ⟨(Or.inl (List.mem_cons_of_mem _ (List.mem_cons_self ..))), (fun _ h => nomatch h)⟩)⟩)⟩)) hW143 (List.mem_cons_self ..) (by have := HG148.out; have := Z0.out; omega)
  have HL157 : Hid (LiesQ W143 (Par w V0.heap.size (w132.heap.size :: (W73.heap.size :: (g21 :: []))) (fun _ => False)) U60.kids _) := par_set (par_grow HL98.out (kept_trans Kk114.out (kept_trans Kk123.out (kept_trans Kk131.out (kept_trans Kk139.out Kk147.out)))) (List.forall_mem_cons.2 ⟨(Or.inr (Nat.le_trans (Below.size (kept_trans Kk114.out (kept_trans Kk123.out (kept_trans Kk131.out Kk139.out)))) (Nat.le_refl w132.heap.size))), (List.forall_mem_cons.2 ⟨(Or.inl (List.mem_cons_self ..)), (List.forall_mem_cons.2 ⟨(Or.inl (List.mem_cons_of_mem _ (List.mem_cons_self ..))), (fun _ h => nomatch h)⟩)⟩)⟩)) hW143 (List.mem_cons_self ..) (by have := HG148.out; have := Z0.out; omega)
  have HL158 : Hid (LiesQ W143 (Par w V0.heap.size (w132.heap.size :: (W73.heap.size :: (g21 :: []))) (fun _ => False)) U69.kids _) := par_set (par_grow HL99.out (kept_trans Kk114.out (kept_trans Kk123.out (kept_trans Kk131.out (kept_trans Kk139.out Kk147.out)))) (List.forall_mem_cons.2 ⟨(Or.inr (Nat.le_trans (Below.size (kept_trans Kk114.out (kept_trans Kk123.out (kept_trans Kk131.out Kk139.out)))) (Nat.le_refl w132.heap.size))), (List.forall_mem_cons.2 ⟨(Or.inl (List.mem_cons_self ..)), (List.forall_mem_cons.2 ⟨(Or.inl (List.mem_cons_of_mem _ (List.mem_cons_self ..))), (fun _ h => nomatch h)⟩)⟩)⟩)) hW143 (List.mem_cons_self ..) (by have := HG148.out; have := Z0.out; omega)
  have HL159 : Hid (LiesQ W143 (Par w V0.heap.size (w132.heap.size :: (W73.heap.size :: (g21 :: []))) (fun _ => False)) [U42, U51, U60, U69] _) := par_set (par_grow HL100.out (kept_trans Kk114.out (kept_trans Kk123.out (kept_trans Kk131.out (kept_trans Kk139.out Kk147.out)))) (List.forall_mem_cons.2 ⟨(Or.inr (Nat.le_trans (Below.size (kept_trans Kk114.out (kept_trans Kk123.out (kept_trans Kk131.out Kk139.out)))) (Nat.le_refl w132.heap.size))), (List.forall_mem_cons.2 ⟨(Or.inl (List.mem_cons_self ..)), (List.forall_mem_cons.2 ⟨(Or.inl (List.mem_cons_of_mem _ (List.mem_cons_self ..))), (fun _ h => nomatch h)⟩)⟩)⟩)) hW143 (List.mem_cons_self ..) (by have := HG148.out; have := Z0.out; omega)
  have HL160 : Hid (LiesQ W143 (Par w V0.heap.size (w132.heap.size :: (W73.heap.size :: (g21 :: []))) (fun _ => False)) U113.kids _) := par_set (par_grow Hhl109.out (kept_trans Kk123.out (kept_trans Kk131.out (kept_trans Kk139.out Kk147.out))) (List.forall_mem_cons.2 ⟨(Or.inr (Nat.le_trans (Below.size (kept_trans Kk123.out (kept_trans Kk131.out Kk139.out))) (Nat.le_refl w132.heap.size))), (List.forall_mem_cons.2 ⟨(Or.inl (List.mem_cons_self ..)), (List.forall_mem_cons.2 ⟨(Or.inl (List.mem_cons_of_mem _ (List.mem_cons_self ..))), (fun _ h => nomatch h)⟩)⟩)⟩)) hW143 (List.mem_cons_self ..) (by have := HG148.out; have := Z0.out; omega)
  have HL161 : Hid (LiesQ W143 (Par w V0.heap.size (w132.heap.size :: (W73.heap.size :: (g21 :: []))) (fun _ => False)) U122.kids _) := par_set (par_grow Hhl118.out (kept_trans Kk131.out (kept_trans Kk139.out Kk147.out)) (List.forall_mem_cons.2 ⟨(Or.inr (Nat.le_trans (Below.size (kept_trans Kk131.out Kk139.out)) (Nat.le_refl w132.heap.size))), (List.forall_mem_cons.2 ⟨(Or.inl (List.mem_cons_self ..)), (List.forall_mem_cons.2 ⟨(Or.inl (List.mem_cons_of_mem _ (List.mem_cons_self ..))), (fun _ h => nomatch h)⟩)⟩)⟩)) hW143 (List.mem_cons_self ..) (by have := HG148.out; have := Z0.out; omega)
  have HL162 : Hid (LiesQ W143 (Par w V0.heap.size (w132.heap.size :: (W73.heap.size :: (g21 :: []))) (fun _ => False)) U122.kids _) := par_set (par_grow Hhl127.out (kept_trans Kk139.out Kk147.out) (List.forall_mem_cons.2 ⟨(Or.inr (Nat.le_trans (Below.size Kk139.out) (Nat.le_refl w132.heap.size))), (List.forall_mem_cons.2 ⟨(Or.inl (List.mem_cons_self ..)), (List.forall_mem_cons.2 ⟨(Or.inl (List.mem_cons_of_mem _ (List.mem_cons_self ..))), (fun _ h => nomatch h)⟩)⟩)⟩)) hW143 (List.mem_cons_self ..) (by have := HG148.out; have := Z0.out; omega)
  have HL163 : Hid (LiesQ W143 (Par w V0.heap.size (w132.heap.size :: (W73.heap.size :: (g21 :: []))) (fun _ => False)) U113.kids _) := par_set (par_grow Hhl134.out Kk147.out (List.forall_mem_cons.2 ⟨(Or.inr (Nat.le_refl w132.heap.size)), (List.forall_mem_cons.2 ⟨(Or.inl (List.mem_cons_self ..)), (List.forall_mem_cons.2 ⟨(Or.inl (List.mem_cons_of_mem _ (List.mem_cons_self ..))), (fun _ h => nomatch h)⟩)⟩)⟩)) hW143 (List.mem_cons_self ..) (by have := HG148.out; have := Z0.out; omega)
  have XL164 := Lib.hid (xlt_set XL151.out hW143)
  have HX165 := Lib.hid (blk_other (blk_at HX102.out (kept_trans Kk114.out (kept_trans Kk123.out (kept_trans Kk131.out (kept_trans Kk139.out Kk147.out))))) hW143 (by have := AP149.out; omega))
  have HX166 := Lib.hid (blk_other (blk_at HX103.out (kept_trans Kk114.out (kept_trans Kk123.out (kept_trans Kk131.out (kept_trans Kk139.out Kk147.out))))) hW143 (by have := AP150.out; omega))
  have HX167 := Lib.hid (blk_same Hx144.out hW143)
  (try clear ld104)
  (try clear ld105)
  clear hW143
  have ld168 := partN_cell (r := V0.heap.size) HX165.out trivial 0 (.int .i64 1) Hhd26.out
  have ld169 := partN_cell (r := V0.heap.size) HX165.out trivial 11 (.int .i64 2) Hhd27.out
  have ld170 := partN_cell (r := V0.heap.size) HX167.out trivial 0 (.int .i64 U113.k) rfl
  have ld171 := partN_cell (r := V0.heap.size) HX167.out trivial 1 (.int .i64 U113.i) rfl
  have kvV0 : SeesN V0 V0.heap.size W143 := seesN_kept _ KB153.out
  have kvW143 : SeesN W143 V0.heap.size W143 := seesN_kept _ (kept_refl _)
  go_wp2_with fail
  clear kvV0
  clear kvW143
  refine (ls6_any 3 (Par w V0.heap.size (w132.heap.size :: (W73.heap.size :: (g21 :: []))) (fun _ => False)) _ (show I64 3 from by unfold I64; decide)).mono ?_
  rw [HU113.out]
  rintro e w172 ⟨s174, rfl, hl175, k173⟩
  obtain ⟨a176, c177, S178, rfl, -⟩ := hl175.out
  have Kk179 := Lib.hid k173
  clear k173
  have Hhl175 : Hid (LiesQ w172 (Par w V0.heap.size (w132.heap.size :: (W73.heap.size :: (g21 :: []))) (fun _ => False)) U113.kids _) := par_give hl175 (Below.size KB153.out) XL164.out
  clear hl175
  have kvV0 : SeesN V0 V0.heap.size w172 := seesN_kept _ (kept_trans KB153.out Kk179.out)
  have kvW143 : SeesN W143 V0.heap.size w172 := seesN_kept _ Kk179.out
  go_wp2_with fail
  clear kvV0
  clear kvW143
  refine (ls6_any 4 (Par w V0.heap.size (w132.heap.size :: (W73.heap.size :: (g21 :: []))) (fun _ => False)) _ (show I64 4 from by unfold I64; decide)).mono ?_
  rw [HU122.out]
  rintro e w180 ⟨s182, rfl, hl183, k181⟩
  obtain ⟨a184, c185, S186, rfl, -⟩ := hl183.out
  have Kk187 := Lib.hid k181
  clear k181
  have Hhl183 : Hid (LiesQ w180 (Par w V0.heap.size (w132.heap.size :: (W73.heap.size :: (g21 :: []))) (fun _ => False)) U122.kids _) := par_give hl183 (Below.size (kept_trans KB153.out Kk179.out)) (xlt_later XL164.out Kk179.out)
  clear hl183
  have kvV0 : SeesN V0 V0.heap.size w180 := seesN_kept _ (kept_trans KB153.out (kept_trans Kk179.out Kk187.out))
  have kvW143 : SeesN W143 V0.heap.size w180 := seesN_kept _ (kept_trans Kk179.out Kk187.out)
  go_wp2_with fail
  clear kvV0
  clear kvW143
  refine (ls6_any 5 (Par w V0.heap.size (w132.heap.size :: (W73.heap.size :: (g21 :: []))) (fun _ => False)) _ (show I64 5 from by unfold I64; decide)).mono ?_
  obtain ⟨U195, hU195⟩ : ∃ qu, sortT 5 = qu := ⟨_, rfl⟩
  rw [hU195]
  have HU195 := Lib.hid hU195
  clear hU195
  rintro e w188 ⟨s190, rfl, hl191, k189⟩
  obtain ⟨a192, c193, S194, rfl, -⟩ := hl191.out
  have Kk196 := Lib.hid k189
  clear k189
  have Hhl191 : Hid (LiesQ w188 (Par w V0.heap.size (w132.heap.size :: (W73.heap.size :: (g21 :: []))) (fun _ => False)) U195.kids _) := par_give hl191 (Below.size (kept_trans KB153.out (kept_trans Kk179.out Kk187.out))) (xlt_later XL164.out (kept_trans Kk179.out Kk187.out))
  clear hl191
  have kvV0 : SeesN V0 V0.heap.size w188 := seesN_kept _ (kept_trans KB153.out (kept_trans Kk179.out (kept_trans Kk187.out Kk196.out)))
  have kvW143 : SeesN W143 V0.heap.size w188 := seesN_kept _ (kept_trans Kk179.out (kept_trans Kk187.out Kk196.out))
  go_wp2_with fail
  clear kvV0
  clear kvW143
  refine (as_no 0 U113 U122 U195 (Par w V0.heap.size (w132.heap.size :: (W73.heap.size :: (g21 :: []))) (fun _ => False)) w188 ((.slice a176 U113.kids.length c177)) ((.slice a184 U122.kids.length c185)) ((.slice a192 U195.kids.length c193)) (by unfold I64; decide) (by rw [← HU113.out]; exact (sort_fine6 (show I64 3 from by unfold I64; decide))) (Hhl175.out.later (kept_trans Kk187.out Kk196.out)) (by rw [← HU122.out]; exact (sort_fine6 (show I64 4 from by unfold I64; decide))) (Hhl183.out.later Kk196.out) (by rw [← HU195.out]; exact (sort_fine6 (show I64 5 from by unfold I64; decide))) Hhl191.out (by rw [← HU113.out]; exact d_m3) (by rw [← HU122.out, ← HU195.out]; exact d_r45)).mono ?_
  rintro e w197 ⟨s200, rfl, hl199, k198⟩
  obtain ⟨a201, c202, S203, rfl, -⟩ := hl199.out
  have Kk204 := Lib.hid k198
  clear k198
  have Hhl199 : Hid (LiesQ w197 (Par w V0.heap.size (w132.heap.size :: (W73.heap.size :: (g21 :: []))) (fun _ => False)) Tm.zero.kids _) := par_give hl199 (Below.size (kept_trans KB153.out (kept_trans Kk179.out (kept_trans Kk187.out Kk196.out)))) (xlt_later XL164.out (kept_trans Kk179.out (kept_trans Kk187.out Kk196.out)))
  clear hl199
  have kvV0 : SeesN V0 V0.heap.size w197 := seesN_kept _ (kept_trans KB153.out (kept_trans Kk179.out (kept_trans Kk187.out (kept_trans Kk196.out Kk204.out))))
  have kvW143 : SeesN W143 V0.heap.size w197 := seesN_kept _ (kept_trans Kk179.out (kept_trans Kk187.out (kept_trans Kk196.out Kk204.out)))
  go_wp2_with (refine stop_store 25 (.tmp 5) (.tmp 29) rfl ?_)
  intro _
  refine wpList_store_part_n (by rfl) 25 (.tmp 5) (.tmp 29) rfl (w197.heap.size) 0 #[.int .i64 Tm.zero.k, .int .i64 Tm.zero.i, .int .i64 Tm.zero.j, .int .i64 Tm.zero.n, (.slice a201 Tm.zero.kids.length c202)] (by rfl) (by rfl) 25 size_term (row_ok rfl) ?_
  intro W205 hW205
  clear kvV0
  clear kvW143
  obtain ⟨k208, x207, z209⟩ := alloc1 hW205
  have Kk210 := Lib.hid k208
  clear k208
  have Hx207 := Lib.hid x207
  have Hz209 := Lib.hid z209
  clear x207 z209 hW205
  have HG211 : Hid (V0.heap.size ≤ w197.heap.size) := (Below.size (kept_trans KB153.out (kept_trans Kk179.out (kept_trans Kk187.out (kept_trans Kk196.out Kk204.out)))))
  have AP212 : Hid (g21 < w197.heap.size) := block_lt (blk_at HX165.out (kept_trans Kk179.out (kept_trans Kk187.out (kept_trans Kk196.out Kk204.out))))
  have AP213 : Hid (W73.heap.size < w197.heap.size) := block_lt (blk_at HX166.out (kept_trans Kk179.out (kept_trans Kk187.out (kept_trans Kk196.out Kk204.out))))
  have AP214 : Hid (w132.heap.size < w197.heap.size) := block_lt (blk_at HX167.out (kept_trans Kk179.out (kept_trans Kk187.out (kept_trans Kk196.out Kk204.out))))
  have XL215 : Hid (XLt (w197.heap.size :: (w132.heap.size :: (W73.heap.size :: (g21 :: [])))) W205) := (xlt_more (xlt_later XL164.out (kept_trans Kk179.out (kept_trans Kk187.out (kept_trans Kk196.out Kk204.out)))) Kk210.out (by have := Hz209.out; omega))
  refine ⟨_, #[.int .i64 Tm.zero.k, .int .i64 Tm.zero.i, .int .i64 Tm.zero.j, .int .i64 Tm.zero.n, (.slice a201 Tm.zero.kids.length c202)], Hx207.out, rfl, Nat.le_of_ble_eq_true rfl, ?_⟩
  intro W206 hW206
  have KB216 := Lib.hid (kept_set (kept_trans KB152.out (kept_trans Kk179.out (kept_trans Kk187.out (kept_trans Kk196.out (kept_trans Kk204.out Kk210.out))))) hW206 (by have := HG211.out; have := Z0.out; omega))
  have KB217 := Lib.hid (kept_set (kept_trans KB153.out (kept_trans Kk179.out (kept_trans Kk187.out (kept_trans Kk196.out (kept_trans Kk204.out Kk210.out))))) hW206 HG211.out)
  have HL218 : Hid (LiesQ W206 (Par w V0.heap.size (w197.heap.size :: (w132.heap.size :: (W73.heap.size :: (g21 :: [])))) (fun _ => False)) U11.kids _) := par_set (par_grow HL154.out (kept_trans Kk179.out (kept_trans Kk187.out (kept_trans Kk196.out (kept_trans Kk204.out Kk210.out)))) (List.forall_mem_cons.2 ⟨(Or.inr (Nat.le_trans (Below.size (kept_trans Kk179.out (kept_trans Kk187.out (kept_trans Kk196.out Kk204.out)))) (Nat.le_refl w197.heap.size))), (List.forall_mem_cons.2 ⟨(Or.inl (List.mem_cons_self ..)), (List.forall_mem_cons.2 ⟨(Or.inl (List.mem_cons_of_mem _ (List.mem_cons_self ..))), (List.forall_mem_cons.2 ⟨(Or.inl (List.mem_cons_of_mem _ (List.mem_cons_of_mem _ (List.mem_cons_self ..)))), (fun _ h => nomatch h)⟩)⟩)⟩)⟩)) hW206 (List.mem_cons_self ..) (by have := HG211.out; have := Z0.out; omega)
  have HL219 : Hid (LiesQ W206 (Par w V0.heap.size (w197.heap.size :: (w132.heap.size :: (W73.heap.size :: (g21 :: [])))) (fun _ => False)) U42.kids _) := par_set (par_grow HL155.out (kept_trans Kk179.out (kept_trans Kk187.out (kept_trans Kk196.out (kept_trans Kk204.out Kk210.out)))) (List.forall_mem_cons.2 ⟨(Or.inr (Nat.le_trans (Below.size (kept_trans Kk179.out (kept_trans Kk187.out (kept_trans Kk196.out Kk204.out)))) (Nat.le_refl w197.heap.size))), (List.forall_mem_cons.2 ⟨(Or.inl (List.mem_cons_self ..)), (List.forall_mem_cons.2 ⟨(Or.inl (List.mem_cons_of_mem _ (List.mem_cons_self ..))), (List.forall_mem_cons.2 ⟨(Or.inl (List.mem_cons_of_mem _ (List.mem_cons_of_mem _ (List.mem_cons_self ..)))), (fun _ h => nomatch h)⟩)⟩)⟩)⟩)) hW206 (List.mem_cons_self ..) (by have := HG211.out; have := Z0.out; omega)
  have HL220 : Hid (LiesQ W206 (Par w V0.heap.size (w197.heap.size :: (w132.heap.size :: (W73.heap.size :: (g21 :: [])))) (fun _ => False)) U51.kids _) := par_set (par_grow HL156.out (kept_trans Kk179.out (kept_trans Kk187.out (kept_trans Kk196.out (kept_trans Kk204.out Kk210.out)))) (List.forall_mem_cons.2 ⟨(Or.inr (Nat.le_trans (Below.size (kept_trans Kk179.out (kept_trans Kk187.out (kept_trans Kk196.out Kk204.out)))) (Nat.le_refl w197.heap.size))), (List.forall_mem_cons.2 ⟨(Or.inl (List.mem_cons_self ..)), (List.forall_mem_cons.2 ⟨(Or.inl (List.mem_cons_of_mem _ (List.mem_cons_self ..))), (List.forall_mem_cons.2 ⟨(Or.inl (List.mem_cons_of_mem _ (List.mem_cons_of_mem _ (List.mem_cons_self ..)))), (fun _ h => nomatch h)⟩)⟩)⟩)⟩)) hW206 (List.mem_cons_self ..) (by have := HG211.out; have := Z0.out; omega)
  have HL221 : Hid (LiesQ W206 (Par w V0.heap.size (w197.heap.size :: (w132.heap.size :: (W73.heap.size :: (g21 :: [])))) (fun _ => False)) U60.kids _) := par_set (par_grow HL157.out (kept_trans Kk179.out (kept_trans Kk187.out (kept_trans Kk196.out (kept_trans Kk204.out Kk210.out)))) (List.forall_mem_cons.2 ⟨(Or.inr (Nat.le_trans (Below.size (kept_trans Kk179.out (kept_trans Kk187.out (kept_trans Kk196.out Kk204.out)))) (Nat.le_refl w197.heap.size))), (List.forall_mem_cons.2 ⟨(Or.inl (List.mem_cons_self ..)), (List.forall_mem_cons.2 ⟨(Or.inl (List.mem_cons_of_mem _ (List.mem_cons_self ..))), (List.forall_mem_cons.2 ⟨(Or.inl (List.mem_cons_of_mem _ (List.mem_cons_of_mem _ (List.mem_cons_self ..)))), (fun _ h => nomatch h)⟩)⟩)⟩)⟩)) hW206 (List.mem_cons_self ..) (by have := HG211.out; have := Z0.out; omega)
  have HL222 : Hid (LiesQ W206 (Par w V0.heap.size (w197.heap.size :: (w132.heap.size :: (W73.heap.size :: (g21 :: [])))) (fun _ => False)) U69.kids _) := par_set (par_grow HL158.out (kept_trans Kk179.out (kept_trans Kk187.out (kept_trans Kk196.out (kept_trans Kk204.out Kk210.out)))) (List.forall_mem_cons.2 ⟨(Or.inr (Nat.le_trans (Below.size (kept_trans Kk179.out (kept_trans Kk187.out (kept_trans Kk196.out Kk204.out)))) (Nat.le_refl w197.heap.size))), (List.forall_mem_cons.2 ⟨(Or.inl (List.mem_cons_self ..)), (List.forall_mem_cons.2 ⟨(Or.inl (List.mem_cons_of_mem _ (List.mem_cons_self ..))), (List.forall_mem_cons.2 ⟨(Or.inl (List.mem_cons_of_mem _ (List.mem_cons_of_mem _ (List.mem_cons_self ..)))), (fun _ h => nomatch h)⟩)⟩)⟩)⟩)) hW206 (List.mem_cons_self ..) (by have := HG211.out; have := Z0.out; omega)
  have HL223 : Hid (LiesQ W206 (Par w V0.heap.size (w197.heap.size :: (w132.heap.size :: (W73.heap.size :: (g21 :: [])))) (fun _ => False)) [U42, U51, U60, U69] _) := par_set (par_grow HL159.out (kept_trans Kk179.out (kept_trans Kk187.out (kept_trans Kk196.out (kept_trans Kk204.out Kk210.out)))) (List.forall_mem_cons.2 ⟨(Or.inr (Nat.le_trans (Below.size (kept_trans Kk179.out (kept_trans Kk187.out (kept_trans Kk196.out Kk204.out)))) (Nat.le_refl w197.heap.size))), (List.forall_mem_cons.2 ⟨(Or.inl (List.mem_cons_self ..)), (List.forall_mem_cons.2 ⟨(Or.inl (List.mem_cons_of_mem _ (List.mem_cons_self ..))), (List.forall_mem_cons.2 ⟨(Or.inl (List.mem_cons_of_mem _ (List.mem_cons_of_mem _ (List.mem_cons_self ..)))), (fun _ h => nomatch h)⟩)⟩)⟩)⟩)) hW206 (List.mem_cons_self ..) (by have := HG211.out; have := Z0.out; omega)
  have HL224 : Hid (LiesQ W206 (Par w V0.heap.size (w197.heap.size :: (w132.heap.size :: (W73.heap.size :: (g21 :: [])))) (fun _ => False)) U113.kids _) := par_set (par_grow HL160.out (kept_trans Kk179.out (kept_trans Kk187.out (kept_trans Kk196.out (kept_trans Kk204.out Kk210.out)))) (List.forall_mem_cons.2 ⟨(Or.inr (Nat.le_trans (Below.size (kept_trans Kk179.out (kept_trans Kk187.out (kept_trans Kk196.out Kk204.out)))) (Nat.le_refl w197.heap.size))), (List.forall_mem_cons.2 ⟨(Or.inl (List.mem_cons_self ..)), (List.forall_mem_cons.2 ⟨(Or.inl (List.mem_cons_of_mem _ (List.mem_cons_self ..))), (List.forall_mem_cons.2 ⟨(Or.inl (List.mem_cons_of_mem _ (List.mem_cons_of_mem _ (List.mem_cons_self ..)))), (fun _ h => nomatch h)⟩)⟩)⟩)⟩)) hW206 (List.mem_cons_self ..) (by have := HG211.out; have := Z0.out; omega)
  have HL225 : Hid (LiesQ W206 (Par w V0.heap.size (w197.heap.size :: (w132.heap.size :: (W73.heap.size :: (g21 :: [])))) (fun _ => False)) U122.kids _) := par_set (par_grow HL161.out (kept_trans Kk179.out (kept_trans Kk187.out (kept_trans Kk196.out (kept_trans Kk204.out Kk210.out)))) (List.forall_mem_cons.2 ⟨(Or.inr (Nat.le_trans (Below.size (kept_trans Kk179.out (kept_trans Kk187.out (kept_trans Kk196.out Kk204.out)))) (Nat.le_refl w197.heap.size))), (List.forall_mem_cons.2 ⟨(Or.inl (List.mem_cons_self ..)), (List.forall_mem_cons.2 ⟨(Or.inl (List.mem_cons_of_mem _ (List.mem_cons_self ..))), (List.forall_mem_cons.2 ⟨(Or.inl (List.mem_cons_of_mem _ (List.mem_cons_of_mem _ (List.mem_cons_self ..)))), (fun _ h => nomatch h)⟩)⟩)⟩)⟩)) hW206 (List.mem_cons_self ..) (by have := HG211.out; have := Z0.out; omega)
  have HL226 : Hid (LiesQ W206 (Par w V0.heap.size (w197.heap.size :: (w132.heap.size :: (W73.heap.size :: (g21 :: [])))) (fun _ => False)) U122.kids _) := par_set (par_grow HL162.out (kept_trans Kk179.out (kept_trans Kk187.out (kept_trans Kk196.out (kept_trans Kk204.out Kk210.out)))) (List.forall_mem_cons.2 ⟨(Or.inr (Nat.le_trans (Below.size (kept_trans Kk179.out (kept_trans Kk187.out (kept_trans Kk196.out Kk204.out)))) (Nat.le_refl w197.heap.size))), (List.forall_mem_cons.2 ⟨(Or.inl (List.mem_cons_self ..)), (List.forall_mem_cons.2 ⟨(Or.inl (List.mem_cons_of_mem _ (List.mem_cons_self ..))), (List.forall_mem_cons.2 ⟨(Or.inl (List.mem_cons_of_mem _ (List.mem_cons_of_mem _ (List.mem_cons_self ..)))), (fun _ h => nomatch h)⟩)⟩)⟩)⟩)) hW206 (List.mem_cons_self ..) (by have := HG211.out; have := Z0.out; omega)
  have HL227 : Hid (LiesQ W206 (Par w V0.heap.size (w197.heap.size :: (w132.heap.size :: (W73.heap.size :: (g21 :: [])))) (fun _ => False)) U113.kids _) := par_set (par_grow HL163.out (kept_trans Kk179.out (kept_trans Kk187.out (kept_trans Kk196.out (kept_trans Kk204.out Kk210.out)))) (List.forall_mem_cons.2 ⟨(Or.inr (Nat.le_trans (Below.size (kept_trans Kk179.out (kept_trans Kk187.out (kept_trans Kk196.out Kk204.out)))) (Nat.le_refl w197.heap.size))), (List.forall_mem_cons.2 ⟨(Or.inl (List.mem_cons_self ..)), (List.forall_mem_cons.2 ⟨(Or.inl (List.mem_cons_of_mem _ (List.mem_cons_self ..))), (List.forall_mem_cons.2 ⟨(Or.inl (List.mem_cons_of_mem _ (List.mem_cons_of_mem _ (List.mem_cons_self ..)))), (fun _ h => nomatch h)⟩)⟩)⟩)⟩)) hW206 (List.mem_cons_self ..) (by have := HG211.out; have := Z0.out; omega)
  have HL228 : Hid (LiesQ W206 (Par w V0.heap.size (w197.heap.size :: (w132.heap.size :: (W73.heap.size :: (g21 :: [])))) (fun _ => False)) U113.kids _) := par_set (par_grow Hhl175.out (kept_trans Kk187.out (kept_trans Kk196.out (kept_trans Kk204.out Kk210.out))) (List.forall_mem_cons.2 ⟨(Or.inr (Nat.le_trans (Below.size (kept_trans Kk187.out (kept_trans Kk196.out Kk204.out))) (Nat.le_refl w197.heap.size))), (List.forall_mem_cons.2 ⟨(Or.inl (List.mem_cons_self ..)), (List.forall_mem_cons.2 ⟨(Or.inl (List.mem_cons_of_mem _ (List.mem_cons_self ..))), (List.forall_mem_cons.2 ⟨(Or.inl (List.mem_cons_of_mem _ (List.mem_cons_of_mem _ (List.mem_cons_self ..)))), (fun _ h => nomatch h)⟩)⟩)⟩)⟩)) hW206 (List.mem_cons_self ..) (by have := HG211.out; have := Z0.out; omega)
  have HL229 : Hid (LiesQ W206 (Par w V0.heap.size (w197.heap.size :: (w132.heap.size :: (W73.heap.size :: (g21 :: [])))) (fun _ => False)) U122.kids _) := par_set (par_grow Hhl183.out (kept_trans Kk196.out (kept_trans Kk204.out Kk210.out)) (List.forall_mem_cons.2 ⟨(Or.inr (Nat.le_trans (Below.size (kept_trans Kk196.out Kk204.out)) (Nat.le_refl w197.heap.size))), (List.forall_mem_cons.2 ⟨(Or.inl (List.mem_cons_self ..)), (List.forall_mem_cons.2 ⟨(Or.inl (List.mem_cons_of_mem _ (List.mem_cons_self ..))), (List.forall_mem_cons.2 ⟨(Or.inl (List.mem_cons_of_mem _ (List.mem_cons_of_mem _ (List.mem_cons_self ..)))), (fun _ h => nomatch h)⟩)⟩)⟩)⟩)) hW206 (List.mem_cons_self ..) (by have := HG211.out; have := Z0.out; omega)
  have HL230 : Hid (LiesQ W206 (Par w V0.heap.size (w197.heap.size :: (w132.heap.size :: (W73.heap.size :: (g21 :: [])))) (fun _ => False)) U195.kids _) := par_set (par_grow Hhl191.out (kept_trans Kk204.out Kk210.out) (List.forall_mem_cons.2 ⟨(Or.inr (Nat.le_trans (Below.size Kk204.out) (Nat.le_refl w197.heap.size))), (List.forall_mem_cons.2 ⟨(Or.inl (List.mem_cons_self ..)), (List.forall_mem_cons.2 ⟨(Or.inl (List.mem_cons_of_mem _ (List.mem_cons_self ..))), (List.forall_mem_cons.2 ⟨(Or.inl (List.mem_cons_of_mem _ (List.mem_cons_of_mem _ (List.mem_cons_self ..)))), (fun _ h => nomatch h)⟩)⟩)⟩)⟩)) hW206 (List.mem_cons_self ..) (by have := HG211.out; have := Z0.out; omega)
  have HL231 : Hid (LiesQ W206 (Par w V0.heap.size (w197.heap.size :: (w132.heap.size :: (W73.heap.size :: (g21 :: [])))) (fun _ => False)) Tm.zero.kids _) := par_set (par_grow Hhl199.out Kk210.out (List.forall_mem_cons.2 ⟨(Or.inr (Nat.le_refl w197.heap.size)), (List.forall_mem_cons.2 ⟨(Or.inl (List.mem_cons_self ..)), (List.forall_mem_cons.2 ⟨(Or.inl (List.mem_cons_of_mem _ (List.mem_cons_self ..))), (List.forall_mem_cons.2 ⟨(Or.inl (List.mem_cons_of_mem _ (List.mem_cons_of_mem _ (List.mem_cons_self ..)))), (fun _ h => nomatch h)⟩)⟩)⟩)⟩)) hW206 (List.mem_cons_self ..) (by have := HG211.out; have := Z0.out; omega)
  have XL232 := Lib.hid (xlt_set XL215.out hW206)
  have HX233 := Lib.hid (blk_other (blk_at HX165.out (kept_trans Kk179.out (kept_trans Kk187.out (kept_trans Kk196.out (kept_trans Kk204.out Kk210.out))))) hW206 (by have := AP212.out; omega))
  have HX234 := Lib.hid (blk_other (blk_at HX166.out (kept_trans Kk179.out (kept_trans Kk187.out (kept_trans Kk196.out (kept_trans Kk204.out Kk210.out))))) hW206 (by have := AP213.out; omega))
  have HX235 := Lib.hid (blk_other (blk_at HX167.out (kept_trans Kk179.out (kept_trans Kk187.out (kept_trans Kk196.out (kept_trans Kk204.out Kk210.out))))) hW206 (by have := AP214.out; omega))
  have HX236 := Lib.hid (blk_same Hx207.out hW206)
  (try clear ld168)
  (try clear ld169)
  (try clear ld170)
  (try clear ld171)
  clear hW206
  have ld237 := partN_cell (r := V0.heap.size) HX233.out trivial 0 (.int .i64 1) Hhd26.out
  have ld238 := partN_cell (r := V0.heap.size) HX233.out trivial 11 (.int .i64 2) Hhd27.out
  have ld239 := partN_cell (r := V0.heap.size) HX235.out trivial 0 (.int .i64 U113.k) rfl
  have ld240 := partN_cell (r := V0.heap.size) HX235.out trivial 1 (.int .i64 U113.i) rfl
  have kvV0 : SeesN V0 V0.heap.size W206 := seesN_kept _ KB217.out
  have kvW206 : SeesN W206 V0.heap.size W206 := seesN_kept _ (kept_refl _)
  go_wp2_with (refine stop_load 25 (.tmp 2) rfl ?_)
  intro _
  refine wpList_load_part (W73.heap.size) 0 25 (.tmp 2) #[.int .i64 12, .int .i64 0, .int .i64 0, .int .i64 0, (.slice (some ⟨w62.heap.size, 0, none⟩) 4 4)] du HX234.out (by rfl) rfl (by rfl) (by rfl) hu1 (by cases du <;> first | rfl | exact hu2) size_term ?_
  go_wp2_with fail
  clear kvV0
  clear kvW206
  have hq243 := (head_any (.mk 12 0 0 0 [U42, U51, U60, U69]) W206 ((.slice (some ⟨w62.heap.size, 0, none⟩) 4 4)) HL223.out.lies (by rw [← HU42.out]; rw [← HU51.out]; rw [← HU60.out]; rw [← HU69.out]; decide)).mono (fun _ _ h => h.givesP (P := (Par w V0.heap.size (w197.heap.size :: (w132.heap.size :: (W73.heap.size :: (g21 :: [])))) (fun _ => False))))
  rw [show Tm.headB (.mk 12 0 0 0 [U42, U51, U60, U69]) = varT 0 from by rw [← HU42.out]; rw [← HU51.out]; rw [← HU60.out]; rw [← HU69.out]; exact d_head] at hq243
  refine hq243.mono ?_
  clear hq243
  rw [HU69.out]
  rintro e w241 ⟨s244, rfl, hl245, k242⟩
  obtain ⟨a246, c247, S248, rfl, -⟩ := hl245.out
  have Kk249 := Lib.hid k242
  clear k242
  have Hhl245 : Hid (LiesQ w241 (Par w V0.heap.size (w197.heap.size :: (w132.heap.size :: (W73.heap.size :: (g21 :: [])))) (fun _ => False)) U69.kids _) := par_give hl245 (Below.size KB217.out) XL232.out
  clear hl245
  (try unfold tv)
  have fd250 : ∀ w', (Instr.field 25 (.agg #[.int .i64 U69.k, .int .i64 U69.i, .int .i64 U69.j, .int .i64 U69.n, (.slice a246 U69.kids.length c247)]) 0).run Tryz.prog w' = .ok (.int .i64 U69.k) w' := fun w' => field_term0 (.int .i64 U69.k) (.int .i64 U69.i) (.int .i64 U69.j) (.int .i64 U69.n) (.slice a246 U69.kids.length c247) w'
  have kf251 : (U69.k == 2) = true := by rw [← HU69.out]; first | rfl | decide
  have kvV0 : SeesN V0 V0.heap.size w241 := seesN_kept _ (kept_trans KB217.out Kk249.out)
  have kvW206 : SeesN W206 V0.heap.size w241 := seesN_kept _ Kk249.out
  go_wp2
  go_ret
  exact ⟨rfl, (kept_trans KB216.out Kk249.out)⟩

end Go.Proofs.YtgododpkbiaacaaGreat

namespace Go.Proofs.YtgododpkbiaacaaGreat
open Go.RowKit

set_option maxRecDepth 20000 in
set_option maxHeartbeats 4000000 in
theorem lheavy6c_any (c : List En) (l : List Tm) (P : Nat → Prop) (w : World) (sc : Value) (sl : Value) (hlc : LiesE w c sc) (hll : LiesQ w P l sl) : Calls Tryz.prog 5 #[sc, sl] w (GivesG ((c.length ≤ 40 ∧ ∀ u ∈ c, u.a.deep ≤ 201) ∧ l.length ≤ 80 ∧ ∀ u ∈ l, u.size ≤ 10000) w) := by
  have HEc := Lib.hid hlc
  obtain ⟨ac, cc, Sc, rfl, -⟩ := hlc.out
  clear hlc
  obtain ⟨al, cl, Sl, rfl, -⟩ := hll.out
  go_enter Tryz.func5, Tryz.ntmps5
  have HLl : Hid (LiesQ w (Par w w.heap.size [] P) l _) := (par_in _ _ hll)
  clear hll
  have kvw : SeesN w w.heap.size w := seesN_kept _ (kept_refl _)
  go_wp2_with fail
  clear kvw
  refine (greatctx_any c 40 _ _ (HEc.out.keep (kept_refl _)) (by decide)).mono ?_
  rintro e w1 ⟨gb3, rfl, hg4, k2⟩
  have Hhg4 := Lib.hid hg4
  clear hg4
  have Kk5 := Lib.hid k2
  clear k2
  cases gb3 with
  | false =>
    have HIhg4 := Lib.hid (Hhg4.out rfl)
    have kvw : SeesN w w.heap.size w1 := seesN_kept _ Kk5.out
    go_wp2_with fail
    clear kvw
    refine (greatsZ_any l 80 (by decide) _ _ (HLl.out.later Kk5.out).lies).mono ?_
    rintro e w6 ⟨gb8, rfl, hg9, k7⟩
    have Hhg9 := Lib.hid hg9
    clear hg9
    have Kk10 := Lib.hid k7
    clear k7
    cases gb8 with
    | false =>
      have HIhg9 := Lib.hid (Hhg9.out rfl)
      have kvw : SeesN w w.heap.size w6 := seesN_kept _ (kept_trans Kk5.out Kk10.out)
      go_wp2
      go_ret
      exact ⟨false, rfl, (fun h => ⟨⟨HIhg4.out.1, fun u hu => (HIhg4.out.2 u hu).2⟩, HIhg9.out⟩), (kept_trans Kk5.out Kk10.out)⟩
    | true =>
      have kvw : SeesN w w.heap.size w6 := seesN_kept _ (kept_trans Kk5.out Kk10.out)
      go_wp2
      go_ret
      exact ⟨true, rfl, (fun h => Bool.noConfusion h), (kept_trans Kk5.out Kk10.out)⟩
  | true =>
    have kvw : SeesN w w.heap.size w1 := seesN_kept _ Kk5.out
    go_wp2
    go_ret
    exact ⟨true, rfl, (fun h => Bool.noConfusion h), Kk5.out⟩

end Go.Proofs.YtgododpkbiaacaaGreat

namespace Go.Proofs.YtgododpkbiaacaaGreat
open Go.RowKit

/-- The five slices of a Het. -/
structure Sl where
  a : Value
  b : Value
  x : Value
  y : Value
  h : Value
def hcells (p : He × Sl) : List Value := [.int .i64 p.1.i, .int .i64 p.1.a.k, .int .i64 p.1.a.i, .int .i64 p.1.a.j, .int .i64 p.1.a.n, p.2.a, .int .i64 p.1.b.k, .int .i64 p.1.b.i, .int .i64 p.1.b.j, .int .i64 p.1.b.n, p.2.b, .int .i64 p.1.x.k, .int .i64 p.1.x.i, .int .i64 p.1.x.j, .int .i64 p.1.x.n, p.2.x, .int .i64 p.1.y.k, .int .i64 p.1.y.i, .int .i64 p.1.y.j, .int .i64 p.1.y.n, p.2.y, .int .i64 p.1.h.k, .int .i64 p.1.h.i, .int .i64 p.1.h.j, .int .i64 p.1.h.n, p.2.h]
theorem hcells_length (p : He × Sl) : (hcells p).length = 26 := rfl
def cells26 : List (He × Sl) → List Value
  | [] => []
  | p :: r => hcells p ++ cells26 r
theorem cells26_length : ∀ ps : List (He × Sl), (cells26 ps).length = ps.length * 26
  | [] => rfl
  | p :: r => by simp [cells26, cells26_length r, hcells_length]; omega
theorem cells26_append : ∀ ps qs : List (He × Sl), cells26 (ps ++ qs) = cells26 ps ++ cells26 qs
  | [], qs => rfl
  | p :: r, qs => by simp [cells26, cells26_append r qs]
theorem cells26_drop : ∀ (ps : List (He × Sl)) (k : Nat) (h : k < ps.length), (cells26 ps).drop (k * 26) = hcells ps[k] ++ cells26 (ps.drop (k + 1))
  | p :: r, 0, _ => by simp [cells26]
  | p :: r, k + 1, h => by
    have e := cells26_drop r k (by simpa using h)
    rw [show (k + 1) * 26 = 26 + k * 26 by omega, ← List.drop_drop]
    simp only [cells26, List.getElem_cons_succ, List.drop_succ_cons]
    rw [List.drop_left' (hcells_length p), e]
theorem cells26_take : ∀ (ps : List (He × Sl)) (k : Nat), (cells26 ps).take (k * 26) = cells26 (ps.take k)
  | [], k => by simp [cells26]
  | p :: r, 0 => by simp [cells26]
  | p :: r, k + 1 => by
    rw [show (k + 1) * 26 = 26 + k * 26 by omega]
    simp only [cells26, List.take_succ_cons]
    rw [List.take_append, hcells_length, List.take_of_length_le (by rw [hcells_length]; omega), show 26 + k * 26 - 26 = k * 26 by omega, cells26_take r k]
theorem cells26_set {ps : List (He × Sl)} {k : Nat} (h : k < ps.length) (p : He × Sl) : (cells26 ps).take (k * 26) ++ hcells p ++ (cells26 ps).drop (k * 26 + 26) = cells26 (ps.set k p) := by
  rw [cells26_take, ← List.drop_drop, cells26_drop ps k h, List.drop_left' (hcells_length _), List.set_eq_take_append_cons_drop, if_pos h, cells26_append, List.append_assoc]
  rfl
theorem row_sub {C : Array Value} {o : Nat} {L : List Value} (h : (C.toList.drop o).take 26 = L) (f n : Nat) (hn : f + n ≤ 26) : (C.toList.drop (o + f)).take n = (L.drop f).take n := by
  rw [← h, List.drop_take, List.take_take, List.drop_drop, Nat.min_eq_left (by omega)]
theorem row_cell {C : Array Value} {o : Nat} {L : List Value} (h : (C.toList.drop o).take 26 = L) (f : Nat) (hf : f < 26) : C[o + f]? = L[f]? := by
  rw [← h, List.getElem?_take_of_lt hf, List.getElem?_drop, Array.getElem?_toList]

/-- Hets behind a slice. -/
structure RowL (T : TypeId) (w : World) (l : List He) (s : Value) : Prop where
  out : ∃ (a : Option Addr) (cap : Nat) (ps : List (He × Sl)), s = .slice a l.length cap ∧ ps.map (·.1) = l ∧ l.length ≤ cap ∧ cap ≤ maxLen ∧
    (0 < l.length → ∃ (g : Nat) (C : Array Value) (fr : Nat × Nat), a = some ⟨g, 0, none⟩ ∧ w.heap[g]? = some (.cells C T fr) ∧ C.toList.take (ps.length * 26) = cells26 ps) ∧
    (∀ p ∈ ps, p.1.fine ∧ HLies w p.1 p.2.a p.2.b p.2.x p.2.y p.2.h)
theorem RowL.keep {T : TypeId} {w w' : World} {l : List He} {s : Value} (h : RowL T w l s) (hb : Kept w w') : RowL T w' l s := by
  obtain ⟨a, cap, ps, hs, hp, hc, hm, hg, hk⟩ := h.out
  exact ⟨a, cap, ps, hs, hp, hc, hm, fun h0 => by obtain ⟨g, C, fr, h1, h2, h3⟩ := hg h0; exact ⟨g, C, fr, h1, blk_at h2 hb, h3⟩, fun p hp => ⟨(hk p hp).1, (hk p hp).2.keep hb⟩⟩
theorem rowL_nil (T : TypeId) (w : World) : RowL T w [] (.slice none 0 0) := ⟨none, 0, [], rfl, rfl, Nat.le_refl _, by decide, (fun h => absurd h (by simp)), (fun _ h => by cases h)⟩
/-- One of them. -/
theorem RowL.at {T : TypeId} {w : World} {l : List He} {a : Option Addr} {n cap : Nat} (h : RowL T w l (.slice a n cap)) {k : Nat} (hk : k < l.length) :
    ∃ (g : Nat) (C : Array Value) (fr : Nat × Nat) (z : Sl), a = some ⟨g, 0, none⟩ ∧ w.heap[g]? = some (.cells C T fr) ∧ (C.toList.drop (k * 26)).take 26 = hcells (l[k], z) ∧ (l[k]).fine ∧ HLies w l[k] z.a z.b z.x z.y z.h := by
  obtain ⟨a', cap', ps, hs, hp, hc, hm, hg, hq⟩ := h.out
  obtain ⟨g, C, fr, h1, h2, h3⟩ := hg (by omega)
  have hkp : k < ps.length := by rw [← hp] at hk; simpa using hk
  have hek : l[k] = ps[k].1 := by simp [← hp]
  simp only [Value.slice.injEq] at hs
  obtain ⟨rfl, -, -⟩ := hs
  refine ⟨g, C, fr, ps[k].2, h1, h2, ?_, by rw [hek]; exact (hq _ (List.getElem_mem hkp)).1, by rw [hek]; exact (hq _ (List.getElem_mem hkp)).2⟩
  have e : (C.toList.drop (k * 26)).take 26 = ((cells26 ps).drop (k * 26)).take 26 := by
    rw [← h3, List.drop_take, List.take_take, Nat.min_eq_left (by omega)]
  rw [e, cells26_drop ps k hkp, List.take_left' (hcells_length _), hek]

/-- A block of Hets of the call's own, whole. -/
structure FullH (T : TypeId) (B : Nat) (w : World) (g : Nat) (ps : List (He × Sl)) : Prop where
  own : B ≤ g
  blk : w.heap[g]? = some (.cells (cells26 ps).toArray T (0, 0))
  fine : ∀ p ∈ ps, p.1.fine
  kids : ∀ p ∈ ps, HQ w (fun b => b ≠ g) p.1 p.2.a p.2.b p.2.x p.2.y p.2.h
theorem HQ.keep {w w' : World} {P Q : Nat → Prop} {h : He} {sa sb sx sy sh : Value} (H : HQ w P h sa sb sx sy sh) (hb : ∀ b, P b → b < w.heap.size → w'.heap[b]? = w.heap[b]?) (hq : ∀ b, P b → b < w.heap.size → Q b) : HQ w' Q h sa sb sx sy sh :=
  ⟨H.1.keep hb hq, H.2.1.keep hb hq, H.2.2.1.keep hb hq, H.2.2.2.1.keep hb hq, H.2.2.2.2.keep hb hq⟩
theorem FullH.later {T : TypeId} {B : Nat} {w w' : World} {g : Nat} {ps : List (He × Sl)} (h : FullH T B w g ps) (hb : Kept w w') : FullH T B w' g ps :=
  ⟨h.own, blk_at h.blk hb, h.fine, fun p hp => (h.kids p hp).keep (fun b _ hlt => Below.block hb b hlt) (fun _ hq _ => hq)⟩
theorem fullH_fill {T : TypeId} {B : Nat} {w w' : World} {g k : Nat} {ps : List (He × Sl)} (h : FullH T B w g ps) (_ : k < ps.length) {p : He × Sl} (hf : p.1.fine) (hl : HQ w (fun b => b ≠ g) p.1 p.2.a p.2.b p.2.x p.2.y p.2.h) (hw : w.setRow g (cells26 (ps.set k p)).toArray = w') : FullH T B w' g (ps.set k p) := by
  have ot : ∀ b, b ≠ g → w'.heap[b]? = w.heap[b]? := fun b hb => by rw [← hw]; exact setRow_other _ _ _ _ hb
  refine ⟨h.own, by rw [← hw]; exact setRow_heap _ _ _ _ _ _ h.blk, fun q hq => ?_, fun q hq => ?_⟩
  · rcases List.mem_or_eq_of_mem_set hq with hq | rfl
    · exact h.fine q hq
    · exact hf
  · rcases List.mem_or_eq_of_mem_set hq with hq | rfl
    · exact (h.kids q hq).keep (fun b hb _ => ot b hb) (fun _ hb _ => hb)
    · exact hl.keep (fun b hb _ => ot b hb) (fun _ hb _ => hb)
theorem fullH_set {ps : List (He × Sl)} {k : Nat} (hk : k < ps.length) (p : He × Sl) (vs : Array Value) (hv : vs.toList = hcells p) : (cells26 ps).toArray.toList.take (k * 26) ++ vs.toList ++ (cells26 ps).toArray.toList.drop (k * 26 + vs.size) = (cells26 (ps.set k p)).toArray.toList := by
  have hz : vs.size = 26 := by rw [← Array.length_toList, hv]; rfl
  rw [hv, hz, List.toList_toArray, List.toList_toArray]
  exact cells26_set hk p
theorem FullH.lies {T : TypeId} {B : Nat} {w : World} {g : Nat} {ps : List (He × Sl)} {cap : Nat} (h : FullH T B w g ps) (hc : ps.length ≤ cap) (hm : cap ≤ maxLen) : RowL T w (ps.map (·.1)) (.slice (some ⟨g, 0, none⟩) ps.length cap) :=
  ⟨some ⟨g, 0, none⟩, cap, ps, by simp, rfl, by simpa using hc, hm, fun _ => ⟨g, _, _, rfl, h.blk, by rw [List.toList_toArray, ← cells26_length, List.take_length]⟩, fun p hp => ⟨h.fine p hp, (h.kids p hp).lies⟩⟩
def zeroP : He × Sl := (⟨0, .zero, .zero, .zero, .zero, .zero⟩, ⟨.slice none 0 0, .slice none 0 0, .slice none 0 0, .slice none 0 0, .slice none 0 0⟩)
theorem madeCells_26 (n : Nat) : (madeCells #[.int .i64 0, .int .i64 0, .int .i64 0, .int .i64 0, .int .i64 0, .slice none 0 0, .int .i64 0, .int .i64 0, .int .i64 0, .int .i64 0, .slice none 0 0, .int .i64 0, .int .i64 0, .int .i64 0, .int .i64 0, .slice none 0 0, .int .i64 0, .int .i64 0, .int .i64 0, .int .i64 0, .slice none 0 0, .int .i64 0, .int .i64 0, .int .i64 0, .int .i64 0, .slice none 0 0] (n * 26)).toList = cells26 (List.replicate n zeroP) := by
  apply List.ext_getElem?
  intro j
  by_cases hj : j < n * 26
  · have hd : j / 26 < (List.replicate n zeroP).length := by simp; omega
    have e : j = j / 26 * 26 + j % 26 := by omega
    have hq : j % 26 < 26 := Nat.mod_lt _ (by omega)
    have h1 := row_cell (C := (cells26 (List.replicate n zeroP)).toArray) (o := j / 26 * 26) (L := hcells (List.replicate n zeroP)[j / 26]) (by rw [List.toList_toArray, cells26_drop _ _ hd, List.take_left' (hcells_length _)]) (j % 26) hq
    rw [← e, List.getElem?_toArray] at h1
    rw [h1]
    simp only [List.getElem_replicate]
    have hz : (madeCells #[.int .i64 0, .int .i64 0, .int .i64 0, .int .i64 0, .int .i64 0, .slice none 0 0, .int .i64 0, .int .i64 0, .int .i64 0, .int .i64 0, .slice none 0 0, .int .i64 0, .int .i64 0, .int .i64 0, .int .i64 0, .slice none 0 0, .int .i64 0, .int .i64 0, .int .i64 0, .int .i64 0, .slice none 0 0, .int .i64 0, .int .i64 0, .int .i64 0, .int .i64 0, .slice none 0 0] (n * 26)).toList[j]? = some ((#[.int .i64 0, .int .i64 0, .int .i64 0, .int .i64 0, .int .i64 0, .slice none 0 0, .int .i64 0, .int .i64 0, .int .i64 0, .int .i64 0, .slice none 0 0, .int .i64 0, .int .i64 0, .int .i64 0, .int .i64 0, .slice none 0 0, .int .i64 0, .int .i64 0, .int .i64 0, .int .i64 0, .slice none 0 0, .int .i64 0, .int .i64 0, .int .i64 0, .int .i64 0, .slice none 0 0] : Array Value)[j % 26]!) := by simp [madeCells, hj]
    rw [hz]
    generalize j % 26 = q at hq
    match q, hq with
    | 0, _ => rfl
    | 1, _ => rfl
    | 2, _ => rfl
    | 3, _ => rfl
    | 4, _ => rfl
    | 5, _ => rfl
    | 6, _ => rfl
    | 7, _ => rfl
    | 8, _ => rfl
    | 9, _ => rfl
    | 10, _ => rfl
    | 11, _ => rfl
    | 12, _ => rfl
    | 13, _ => rfl
    | 14, _ => rfl
    | 15, _ => rfl
    | 16, _ => rfl
    | 17, _ => rfl
    | 18, _ => rfl
    | 19, _ => rfl
    | 20, _ => rfl
    | 21, _ => rfl
    | 22, _ => rfl
    | 23, _ => rfl
    | 24, _ => rfl
    | 25, _ => rfl
    | n + 26, h => exact absurd h (by omega)
  · rw [List.getElem?_eq_none (by simp [madeCells]; omega), List.getElem?_eq_none (by rw [cells26_length]; simp; omega)]
theorem fullH_made {T : TypeId} {B : Nat} {w : World} {g n : Nat} (h : w.ownsRow B T 26 (.slice (some ⟨g, 0, none⟩) n n) n (madeCells #[.int .i64 0, .int .i64 0, .int .i64 0, .int .i64 0, .int .i64 0, .slice none 0 0, .int .i64 0, .int .i64 0, .int .i64 0, .int .i64 0, .slice none 0 0, .int .i64 0, .int .i64 0, .int .i64 0, .int .i64 0, .slice none 0 0, .int .i64 0, .int .i64 0, .int .i64 0, .int .i64 0, .slice none 0 0, .int .i64 0, .int .i64 0, .int .i64 0, .int .i64 0, .slice none 0 0] (n * 26)).toList) : FullH T B w g (List.replicate n zeroP) := by
  rw [madeCells_26] at h
  rcases h.2 with ⟨h1, -⟩ | ⟨g', cap, cur, hv, hg, hh, h1, h2, h3, h4⟩
  · cases h1
  · simp only [Value.slice.injEq, Option.some.injEq, Addr.mk.injEq] at hv
    obtain ⟨⟨rfl, -, -⟩, -, rfl⟩ := hv
    have ec : cur = (cells26 (List.replicate n zeroP)).toArray := by
      apply Array.toList_inj.1
      rw [List.toList_toArray, ← h4, List.take_of_length_le (by simp [h3])]
    refine ⟨hg, by rw [hh, ec], fun p hp => ?_, fun p hp => ?_⟩
    · rw [(List.mem_replicate.1 hp).2]
      have z : Tm.zero.fine := ⟨by unfold I64; decide, by unfold I64; decide, by unfold I64; decide, by unfold I64; decide⟩
      exact ⟨by show I64 0; unfold I64; decide, z, z, z, z, z⟩
    · rw [(List.mem_replicate.1 hp).2]
      exact ⟨liesQ_nil _ _, liesQ_nil _ _, liesQ_nil _ _, liesQ_nil _ _, liesQ_nil _ _⟩

/-- A row of Hets that the call has appended to. -/
structure MadeH (T : TypeId) (B : Nat) (w : World) (v : Value) (ps : List (He × Sl)) : Prop where
  own : w.ownsRow B T 26 v ps.length (cells26 ps)
  fine : ∀ p ∈ ps, p.1.fine
  kids : ∀ p ∈ ps, HQ w (fun b => v.ownBlock ≠ some b) p.1 p.2.a p.2.b p.2.x p.2.y p.2.h
theorem madeH_nil (T : TypeId) (B : Nat) (w : World) : MadeH T B w (.slice none 0 0) [] := ⟨⟨rfl, Or.inl ⟨rfl, rfl⟩⟩, (fun _ h => by cases h), (fun _ h => by cases h)⟩
theorem madeH_later {T : TypeId} {B : Nat} {w w' : World} {v : Value} {ps : List (He × Sl)} (h : MadeH T B w v ps) (hb : Kept w w') : MadeH T B w' v ps := by
  refine ⟨?_, h.fine, fun p hp => (h.kids p hp).keep (fun b _ hlt => Below.block hb b hlt) (fun _ hq _ => hq)⟩
  obtain ⟨h1, h2⟩ := h.own
  refine ⟨h1, ?_⟩
  rcases h2 with h2 | ⟨g, cap, cur, hv, hg, hh, r⟩
  · exact Or.inl h2
  · exact Or.inr ⟨g, cap, cur, hv, hg, blk_at hh hb, r⟩
/-- The block that is its own lies ahead of what is new. -/
theorem madeH_block {T : TypeId} {B : Nat} {w : World} {v : Value} {ps : List (He × Sl)} (h : MadeH T B w v ps) {b : Nat} (hb : w.heap.size ≤ b) : v.ownBlock ≠ some b := by
  rcases h.own.2 with ⟨rfl, -⟩ | ⟨g, cap, cur, rfl, -, hh, -⟩
  · simp [Value.ownBlock]
  · have := (Array.getElem?_eq_some_iff.1 hh).1
    simp [Value.ownBlock]; omega
theorem madeH_above {T : TypeId} {B : Nat} {w : World} {v : Value} {ps : List (He × Sl)} (h : MadeH T B w v ps) : ∀ g, v.ownBlock = some g → B ≤ g := fun b hg => by
  rcases h.own.2 with ⟨rfl, -⟩ | ⟨g', cap, cur, rfl, hg', hh, -⟩
  · simp [Value.ownBlock] at hg
  · simp [Value.ownBlock] at hg
    omega
theorem madeH_step {T : TypeId} {B : Nat} {w w1 : World} {v : Value} {ps : List (He × Sl)} {p : He × Sl} {g cap : Nat} (h : MadeH T B w v ps) (hf : p.1.fine) (hk : HQ w (fun b => v.ownBlock ≠ some b) p.1 p.2.a p.2.b p.2.x p.2.y p.2.h)
    (hown : w1.ownsRow B T 26 (.slice (some ⟨g, 0, none⟩) (ps.length + 1) cap) (ps.length + 1) (cells26 ps ++ cells26 [p])) (hgrow : w.grownBy w1 v.ownBlock) (hg : v.ownBlock = some g ∨ g = w.heap.size) :
    MadeH T B w1 (.slice (some ⟨g, 0, none⟩) (ps.length + 1) cap) (ps ++ [p]) := by
  have keep : ∀ q : He × Sl, HQ w (fun b => v.ownBlock ≠ some b) q.1 q.2.a q.2.b q.2.x q.2.y q.2.h → HQ w1 (fun b => (Value.slice (some ⟨g, 0, none⟩) (ps.length + 1) cap).ownBlock ≠ some b) q.1 q.2.a q.2.b q.2.x q.2.y q.2.h := fun q hq =>
    hq.keep (fun b hb hlt => hgrow.block b hlt (fun e => hb e.symm)) (fun b hb hlt => by
      show some g ≠ some b
      rcases hg with e | e
      · rw [← e]; exact hb
      · intro e'; have := Option.some.inj e'; omega)
  refine ⟨by rw [cells26_append]; simpa using hown, fun q hq => ?_, fun q hq => ?_⟩
  · rcases List.mem_append.1 hq with hq | hq
    · exact h.fine q hq
    · rw [List.mem_singleton.1 hq]; exact hf
  · rcases List.mem_append.1 hq with hq | hq
    · exact keep q (h.kids q hq)
    · rw [List.mem_singleton.1 hq]; exact keep p hk
theorem madeH_lies {T : TypeId} {B : Nat} {w : World} {v : Value} {ps : List (He × Sl)} (h : MadeH T B w v ps) : RowL T w (ps.map (·.1)) v := by
  have kid : ∀ p ∈ ps, p.1.fine ∧ HLies w p.1 p.2.a p.2.b p.2.x p.2.y p.2.h := fun p hp => ⟨h.fine p hp, (h.kids p hp).lies⟩
  obtain ⟨-, ⟨rfl, hn⟩ | ⟨g, cap, cur, rfl, hg, hh, hnc, hcm, hsz, htk⟩⟩ := h.own
  · obtain rfl : ps = [] := List.eq_nil_of_length_eq_zero hn
    exact rowL_nil _ _
  · exact ⟨some ⟨g, 0, none⟩, cap, ps, by simp, rfl, by simpa using hnc, hcm, fun _ => ⟨g, cur, (0, 0), rfl, hh, htk⟩, kid⟩
/-- What a call hands back that makes Hets. -/
def GivesR (T : TypeId) (l : List He) (w : World) (e : Ending) (w' : World) : Prop := ∃ s' : Value, e = .returned s' ∧ RowL T w' l s' ∧ Kept w w'
end Go.Proofs.YtgododpkbiaacaaGreat

namespace Go.Proofs.YtgododpkbiaacaaGreat
open Go.RowKit

/-- A context's environment on itself. -/
def waysL : List En → List He
  | [] => []
  | e :: r => heSelf e.i ((e.a.liftB ((r.length : Int) + 1) 0).stripB) (.mk 2 (r.length : Int) 0 0 []) :: waysL r
theorem waysL_length : ∀ l : List En, (waysL l).length = l.length
  | [] => rfl
  | e :: r => by simp [waysL, waysL_length r]
theorem waysL_get : ∀ (l : List En) (k : Nat) (h : k < l.length), (waysL l)[k]'(by rw [waysL_length]; exact h) = heSelf (l[k]).i (((l[k]).a.liftB ((l.length : Int) - 1 - (k : Int) + 1) 0).stripB) (.mk 2 ((l.length : Int) - 1 - (k : Int)) 0 0 [])
  | e :: r, 0, _ => by
    have e1 : (((e :: r).length : Nat) : Int) - 1 - ((0 : Nat) : Int) = (r.length : Int) := by simp
    rw [e1]; rfl
  | e :: r, k + 1, h => by
    have e1 : (((e :: r).length : Nat) : Int) - 1 - ((k + 1 : Nat) : Int) = (r.length : Int) - 1 - (k : Int) := by simp; omega
    rw [e1]
    exact waysL_get r k (by simpa using h)
def waysB (l : List En) : List He := if rightC l = true ∧ lowC 996 l = true then waysL l else []
theorem strip_fineW (t : Tm) : t.stripB.fine := by
  unfold Tm.stripB
  by_cases h : t.rightB = true
  · rw [if_pos h]; exact right_fine (plain_right (bare_plain t h))
  · rw [if_neg h]; exact zero_fine
theorem heSelf_fine {i : Int} {a x : Tm} (hi : I64 i) (ha : a.fine) (hx : x.fine) : (heSelf i a x).fine := by
  unfold heSelf
  split
  · exact ⟨hi, ha, ha, hx, hx, mk_fine (by unfold I64; decide) (by unfold I64; decide) (by unfold I64; decide) (by unfold I64; decide)⟩
  · exact ⟨by show I64 0; unfold I64; decide, zero_fine, zero_fine, zero_fine, zero_fine, zero_fine⟩
theorem bn_row {w w' W2 : World} {g r : Nat} {e : En} {s : Value} {cs : Array Value} (h : Kept w w' ∧ w'.cell? ⟨g, 0, none⟩ = some (.int .i64 e.a.k) ∧ w'.cell? ⟨g, 1, none⟩ = some (.int .i64 e.a.i) ∧ w'.cell? ⟨g, 2, none⟩ = some (.int .i64 e.a.j) ∧ w'.cell? ⟨g, 3, none⟩ = some (.int .i64 e.a.n) ∧ w'.cell? ⟨g, 4, none⟩ = some (s) ∧ w'.cell? ⟨g, 5, none⟩ = some (.int .i64 e.i)) (hr : w.heap.size ≤ r) (hne : g ≠ r) (hw : w'.setRow r cs = W2) : Kept w W2 ∧ W2.cell? ⟨g, 0, none⟩ = some (.int .i64 e.a.k) ∧ W2.cell? ⟨g, 1, none⟩ = some (.int .i64 e.a.i) ∧ W2.cell? ⟨g, 2, none⟩ = some (.int .i64 e.a.j) ∧ W2.cell? ⟨g, 3, none⟩ = some (.int .i64 e.a.n) ∧ W2.cell? ⟨g, 4, none⟩ = some (s) ∧ W2.cell? ⟨g, 5, none⟩ = some (.int .i64 e.i) := by
  have hc : ∀ q, W2.cell? ⟨g, q, none⟩ = w'.cell? ⟨g, q, none⟩ := fun q => World.cell?_of_block (a := ⟨g, q, none⟩) (by rw [← hw]; exact setRow_other _ _ _ _ hne)
  exact ⟨kept_set h.1 hw hr, (hc 0).trans h.2.1, (hc 1).trans h.2.2.1, (hc 2).trans h.2.2.2.1, (hc 3).trans h.2.2.2.2.1, (hc 4).trans h.2.2.2.2.2.1, (hc 5).trans h.2.2.2.2.2.2⟩
def wy0 : Oper := { dst := some 30, op := Go.Op.move (Go.Operand.tmp 3), type := 27, pos := "shape.go:27", after := #[], guard := none }
def wy1 : Oper := { dst := some 31, op := Go.Op.move (Go.Operand.tmp 4), type := 3, pos := "shape.go:27", after := #[], guard := none }
def wy2 : Oper := { dst := some 32, op := Go.Op.fieldAddr 45 (Go.Operand.tmp 5) 1, type := 0, pos := "shape.go:27", after := #[], guard := none }
def wy3 : Oper := { dst := some 33, op := Go.Op.load 3 (Go.Operand.tmp 32), type := 3, pos := "shape.go:27", after := #[{ on := 2, ground := Go.Ground.data }], guard := none }
def wy4 : Oper := { dst := some 34, op := Go.Op.fieldAddr 45 (Go.Operand.tmp 5) 0, type := 0, pos := "shape.go:27", after := #[], guard := none }
def wy5 : Oper := { dst := some 35, op := Go.Op.load 25 (Go.Operand.tmp 34), type := 25, pos := "shape.go:27", after := #[{ on := 4, ground := Go.Ground.data }], guard := none }
def wy6 : Oper := { dst := some 36, op := Go.Op.move (Go.Operand.tmp 6), type := 3, pos := "shape.go:27", after := #[], guard := none }
def wy7 : Oper := { dst := some 37, op := Go.Op.binOp Go.BinOp.add 3 (Go.Operand.tmp 36) (Go.Operand.const (Go.Value.int Go.IntKind.i64 1)) 3, type := 3, pos := "shape.go:27", after := #[{ on := 6, ground := Go.Ground.data }], guard := none }
def wy8 : Oper := { dst := some 38, op := Go.Op.call { callee := Go.Callee.value (Go.Operand.func 22), args := #[Go.Operand.tmp 35, Go.Operand.tmp 37, Go.Operand.const (Go.Value.int Go.IntKind.i64 0)], argTypes := #[25, 3, 3] }, type := 25, pos := "shape.go:27", after := #[{ on := 5, ground := Go.Ground.data }, { on := 7, ground := Go.Ground.data }], guard := none }
def wy9 : Oper := { dst := some 39, op := Go.Op.call { callee := Go.Callee.value (Go.Operand.func 21), args := #[Go.Operand.tmp 38], argTypes := #[25] }, type := 25, pos := "shape.go:27", after := #[{ on := 8, ground := Go.Ground.data }, { on := 8, ground := Go.Ground.chain }], guard := none }
def wy10 : Oper := { dst := some 40, op := Go.Op.move (Go.Operand.tmp 6), type := 3, pos := "shape.go:27", after := #[], guard := none }
def wy11 : Oper := { dst := some 41, op := Go.Op.build 25 #[(0, Go.Operand.const (Go.Value.int Go.IntKind.i64 2)), (1, Go.Operand.tmp 40)], type := 25, pos := "shape.go:27", after := #[{ on := 10, ground := Go.Ground.data }], guard := none }
def wy12 : Oper := { dst := some 42, op := Go.Op.call { callee := Go.Callee.value (Go.Operand.func 20), args := #[Go.Operand.tmp 33, Go.Operand.tmp 39, Go.Operand.tmp 41], argTypes := #[3, 25, 25] }, type := 34, pos := "shape.go:27", after := #[{ on := 3, ground := Go.Ground.data }, { on := 9, ground := Go.Ground.data }, { on := 11, ground := Go.Ground.data }, { on := 9, ground := Go.Ground.chain }], guard := none }
def wy13 : Oper := { dst := some 43, op := Go.Op.indexAddr 27 (Go.Operand.tmp 30) (Go.Operand.tmp 31), type := 0, pos := "shape.go:27", after := #[{ on := 0, ground := Go.Ground.data }, { on := 1, ground := Go.Ground.data }, { on := 0, ground := Go.Ground.phase }, { on := 1, ground := Go.Ground.phase }, { on := 2, ground := Go.Ground.phase }, { on := 3, ground := Go.Ground.phase }, { on := 4, ground := Go.Ground.phase }, { on := 5, ground := Go.Ground.phase }, { on := 6, ground := Go.Ground.phase }, { on := 7, ground := Go.Ground.phase }, { on := 8, ground := Go.Ground.phase }, { on := 9, ground := Go.Ground.phase }, { on := 10, ground := Go.Ground.phase }, { on := 11, ground := Go.Ground.phase }, { on := 12, ground := Go.Ground.phase }], guard := none }
def wy14 : Oper := { dst := none, op := Go.Op.store 34 (Go.Operand.tmp 43) (Go.Operand.tmp 42), type := 0, pos := "shape.go:27", after := #[{ on := 13, ground := Go.Ground.data }, { on := 12, ground := Go.Ground.data }, { on := 12, ground := Go.Ground.chain }, { on := 0, ground := Go.Ground.phase }, { on := 1, ground := Go.Ground.phase }, { on := 2, ground := Go.Ground.phase }, { on := 3, ground := Go.Ground.phase }, { on := 4, ground := Go.Ground.phase }, { on := 5, ground := Go.Ground.phase }, { on := 6, ground := Go.Ground.phase }, { on := 7, ground := Go.Ground.phase }, { on := 8, ground := Go.Ground.phase }, { on := 9, ground := Go.Ground.phase }, { on := 10, ground := Go.Ground.phase }, { on := 11, ground := Go.Ground.phase }, { on := 12, ground := Go.Ground.phase }], guard := none }
set_option maxRecDepth 20000 in
set_option maxHeartbeats 4000000 in
theorem ways_any (l : List En) (w : World) (s : Value) (hl : LiesE w l s) (hlen : l.length ≤ 100000) (hd : ∀ u ∈ l, u.a.deep ≤ 100000) : Calls Tryz.prog 6 #[s] w (GivesR 34 (waysB l) w) := by
  obtain ⟨a, cap, S, rfl, hc, hmx, hf, hn, hk⟩ := hl.out
  unfold maxLen at hmx
  obtain ⟨i0, hi, hz0, hz1, hz2⟩ := info_parts info_het
  have HI := Lib.hid (And.intro hi (And.intro hz0 (And.intro hz1 hz2)))
  have HLE := Lib.hid hl
  have HN := Lib.hid hn
  have HK := Lib.hid hk
  have HFF := Lib.hid hf
  have HDD := Lib.hid hd
  clear hn hk hl hf hi hz0 hz1 hz2 hd
  cases hr : rightC l with
  | false =>
    have HR := Lib.hid hr
    have HNIL := Lib.hid (show waysB l = [] by unfold waysB; rw [if_neg (by rw [hr]; simp)])
    clear hr
    go_enter Tryz.func6, Tryz.ntmps6
    go_wp2_with fail
    refine (ctxright_any l _ _ HLE.out).mono ?_
    rw [HR.out]
    rintro ee w1 ⟨rfl, hb1⟩
    go_wp2
    go_ret
    exact ⟨_, rfl, by rw [HNIL.out]; exact rowL_nil _ _, hb1⟩
  | true =>
    have HR := Lib.hid hr
    clear hr
    cases hw : lowC 996 l with
    | false =>
      have HW := Lib.hid hw
      have HNIL := Lib.hid (show waysB l = [] by unfold waysB; rw [if_neg (by rw [hw]; simp)])
      clear hw
      go_enter Tryz.func6, Tryz.ntmps6
      go_wp2_with fail
      refine (ctxright_any l _ _ HLE.out).mono ?_
      rw [HR.out]
      rintro ee w1 ⟨rfl, hb1⟩
      have HB1 := Lib.hid hb1
      clear hb1
      go_wp2_with fail
      refine (lowctx_any l 996 _ _ (HLE.out.keep HB1.out)).mono ?_
      rw [HW.out]
      rintro ee w2 ⟨rfl, hb2⟩
      have hb02 := kept_trans HB1.out hb2
      clear hb2
      go_wp2
      go_ret
      exact ⟨_, rfl, by rw [HNIL.out]; exact rowL_nil _ _, hb02⟩
    | true =>
      have HW := Lib.hid hw
      have HALL := Lib.hid (show waysB l = waysL l by unfold waysB; rw [if_pos ⟨HR.out, hw⟩])
      clear hw
      go_enter Tryz.func6, Tryz.ntmps6
      go_wp2_with fail
      refine (ctxright_any l _ _ HLE.out).mono ?_
      rw [HR.out]
      rintro ee w0 ⟨rfl, hb0⟩
      have HB0 := Lib.hid hb0
      clear hb0
      go_wp2_with fail
      refine (lowctx_any l 996 _ _ (HLE.out.keep HB0.out)).mono ?_
      rw [HW.out]
      rintro ee w1 ⟨rfl, hb2⟩
      have HB1 := Lib.hid (kept_trans HB0.out hb2)
      have hb1 := HB1.out
      clear hb2
      obtain ⟨g, hg⟩ : ∃ g, w1.heap.size = g := ⟨_, rfl⟩
      have HGE := Lib.hid (show w.heap.size ≤ g by have := Below.size hb1; omega)
      clear hb1
      go_wp2_with (at_make; refine wpList_make_full _ rfl _ _ 27 rfl w.heap.size 34 i0 _ 26 (by kernel_rfl) HI.out.1 HI.out.2.1 HI.out.2.2.1 _ _ _ _ l.length rfl rfl rfl rfl ?bytes ?max ?base ?next)
      case bytes => rw [HI.out.2.2.2]; omega
      case max => unfold maxLen; omega
      case base => exact Below.size HB1.out
      case next =>
      intro w2 hown hgrow
      (try rw [hg] at hown)
      (try rw [hg])
      have hful := fullH_made hown
      have hbel : Kept w w2 := Below.grown HB1.out hgrow (Below.size HB1.out) (by simp)
      clear hown hgrow hg
      go_wp2_with fail
      go_loopw [20] (fun iv wr => ∃ (k : Nat) (xs : List (He × Sl)), k ≤ l.length ∧ iv = .int .i64 k ∧ Hid (xs.length = l.length) ∧ Hid ((xs.map (·.1)).take k = (waysL l).take k) ∧ FullH 34 w.heap.size wr g xs ∧ Kept w wr) (fun iv _ => l.length - (intOf iv).toNat)
      case atStart => exact ⟨0, _, Nat.zero_le _, rfl, List.length_replicate, rfl, hful, hbel⟩
      case round =>
        clear hful hbel
        obtain ⟨k, xs, hk, rfl, hxl, hxs, hfu, hb⟩ := hrel
        by_cases hlt : k < l.length
        · obtain ⟨b, o, rfl, hx⟩ := HN.out k hlt
          have hx := hx.below hb hx.lt
          have hq := HK.out k hlt
          obtain ⟨a', cap', S', hS, -⟩ := hq.out
          rw [hS] at hx hq
          have HQL := Lib.hid hq
          have HXK := Lib.hid (show k < xs.length by have := hxl.out; omega)
          have HSZ := Lib.hid (show k * 26 + 26 ≤ (cells26 xs).toArray.size by simp only [List.size_toArray, cells26_length]; have := HXK.out; omega)
          have HFE := Lib.hid (HFF.out _ (List.getElem_mem hlt))
          have HDP := Lib.hid (HDD.out _ (List.getElem_mem hlt))
          have HI1 := Lib.hid (show I64 (((l.length : Int) - 1 - (k : Int)) + 1) by unfold I64; omega)
          have HI0 := Lib.hid (show I64 0 by unfold I64; omega)
          have HFV := Lib.hid (show (Tm.mk 2 ((l.length : Int) - 1 - (k : Int)) 0 0 []).fine from mk_fine (by unfold I64; decide) (by unfold I64; omega) (by unfold I64; decide) (by unfold I64; decide))
          obtain ⟨T1, hT1⟩ : ∃ T1, l[k].a.liftB (((l.length : Int) - 1 - (k : Int)) + 1) 0 = T1 := ⟨_, rfl⟩
          obtain ⟨T2, hT2⟩ : ∃ T2, T1.stripB = T2 := ⟨_, rfl⟩
          obtain ⟨U, hU⟩ : ∃ U, heSelf l[k].i T2 (.mk 2 ((l.length : Int) - 1 - (k : Int)) 0 0 []) = U := ⟨_, rfl⟩
          have HF2 := Lib.hid (show T2.fine by rw [← hT2]; exact strip_fineW _)
          have HFI := Lib.hid (show U.fine by rw [← hU]; exact heSelf_fine HFE.out.2 HF2.out HFV.out)
          have HUE := Lib.hid (show U = heSelf l[k].i ((l[k].a.liftB (((l.length : Int) - 1 - (k : Int)) + 1) 0).stripB) (.mk 2 ((l.length : Int) - 1 - (k : Int)) 0 0 []) by rw [hT1, hT2, hU])
          have HT1 := Lib.hid hT1
          have HT2 := Lib.hid hT2
          have HU := Lib.hid hU
          have EW := Lib.hid (show IntKind.i64.wrap (((l.length : Int) - 1 - (k : Int)) + 1) = ((l.length : Int) - 1 - (k : Int)) + 1 from IntWalk.i64_in _ (by omega))
          obtain ⟨x0, x1, x2, x3, x4, x5⟩ := hx
          have hglt : g < wr.heap.size := block_lt hfu.blk
          clear hS hq hU hT1 hT2
          go_upto_region 8 with fail
          have hX := bnode_new wr l[k] (.slice a' l[k].a.kids.length cap')
          have hkV : Kept w (wr.alloc (.cells #[.int .i64 l[k].a.k, .int .i64 l[k].a.i, .int .i64 l[k].a.j, .int .i64 l[k].a.n, (.slice a' l[k].a.kids.length cap'), .int .i64 l[k].i] 45)) := Below.alloc hb (Below.size hb) _
          have hfV := hfu.later (w' := wr.alloc (.cells #[.int .i64 l[k].a.k, .int .i64 l[k].a.i, .int .i64 l[k].a.j, .int .i64 l[k].a.n, (.slice a' l[k].a.kids.length cap'), .int .i64 l[k].i] 45)) ((Below.refl _ _).alloc (Nat.le_refl _) _)
          obtain ⟨ge, hge⟩ : ∃ ge, wr.heap.size = ge := ⟨_, rfl⟩
          have HNE := Lib.hid (show ge ≠ g by omega)
          have HGW := HGE
          rw [hge] at hX ⊢
          clear x0 x1 x2 x3 x4 x5 hb hfu hge hglt
          generalize wr.alloc (.cells #[.int .i64 l[k].a.k, .int .i64 l[k].a.i, .int .i64 l[k].a.j, .int .i64 l[k].a.n, (.slice a' l[k].a.kids.length cap'), .int .i64 l[k].i] 45) = V at hX hkV hfV ⊢
          have hS0 : Kept w V ∧ BNode V ge l[k] (.slice a' l[k].a.kids.length cap') := ⟨hkV, hX⟩
          have hfx : FullH 34 w.heap.size V.drew g xs := hfV.later (Below.drew (Below.refl _ _))
          obtain ⟨x0, x1, x2, x3, x4, x5⟩ := hX
          refine wp_region_held_drew (S := fun w' => Kept w w' ∧ w'.cell? ⟨ge, 0, none⟩ = some (.int .i64 l[k].a.k) ∧ w'.cell? ⟨ge, 1, none⟩ = some (.int .i64 l[k].a.i) ∧ w'.cell? ⟨ge, 2, none⟩ = some (.int .i64 l[k].a.j) ∧ w'.cell? ⟨ge, 3, none⟩ = some (.int .i64 l[k].a.n) ∧ w'.cell? ⟨ge, 4, none⟩ = some ((.slice a' l[k].a.kids.length cap')) ∧ w'.cell? ⟨ge, 5, none⟩ = some (.int .i64 l[k].i)) (by kernel_rfl) ?_ (fun hHeld => ?_)
          · (try dsimp only)
            (first | exact hS14 | exact hS12 | exact hS9 | exact hS8 | exact bn_drew hS0)
          generalize V.drew = wx at hHeld hfx ⊢
          have HFU := Lib.hid hfx
          clear hkV hfV hS0 x0 x1 x2 x3 x4 x5 hfx
          refine take_at 0 30 wy0 (v := ?_) (Or.inl ⟨by rfl, ?_⟩) ?_
          rotate_left 1
          · ((intro w hSw; (try dsimp only at hSw); unfold wy0; go_simp) <;> with_reducible rfl)
          (try simp only [Act.put, List.setIfInBounds_toArray, List.set_cons_zero, List.set_cons_succ])
          refine take_at 1 31 wy1 (v := ?_) (Or.inl ⟨by rfl, ?_⟩) ?_
          rotate_left 1
          · ((intro w hSw; (try dsimp only at hSw); unfold wy1; go_simp) <;> with_reducible rfl)
          (try simp only [Act.put, List.setIfInBounds_toArray, List.set_cons_zero, List.set_cons_succ])
          refine take_at 2 32 wy2 (v := ?_) (Or.inl ⟨by rfl, ?_⟩) ?_
          rotate_left 1
          · ((intro w hSw; (try dsimp only at hSw); unfold wy2; go_simp) <;> with_reducible rfl)
          (try simp only [Act.put, List.setIfInBounds_toArray, List.set_cons_zero, List.set_cons_succ])
          refine take_at 3 33 wy3 (v := ?_) (Or.inl ⟨by rfl, ?_⟩) ?_
          rotate_left 1
          · ((intro w hSw; (try dsimp only at hSw); unfold wy3; go_simp) <;> with_reducible rfl)
          (try simp only [Act.put, List.setIfInBounds_toArray, List.set_cons_zero, List.set_cons_succ])
          refine take_at 4 34 wy4 (v := ?_) (Or.inl ⟨by rfl, ?_⟩) ?_
          rotate_left 1
          · ((intro w hSw; (try dsimp only at hSw); unfold wy4; go_simp) <;> with_reducible rfl)
          (try simp only [Act.put, List.setIfInBounds_toArray, List.set_cons_zero, List.set_cons_succ])
          refine take_at 5 35 wy5 (v := ?_) (Or.inl ⟨by rfl, ?_⟩) ?_
          rotate_left 1
          · ((intro w hSw; (try dsimp only at hSw); unfold wy5; go_simp) <;> with_reducible rfl)
          (try simp only [Act.put, List.setIfInBounds_toArray, List.set_cons_zero, List.set_cons_succ])
          refine take_at 6 36 wy6 (v := ?_) (Or.inl ⟨by rfl, ?_⟩) ?_
          rotate_left 1
          · ((intro w hSw; (try dsimp only at hSw); unfold wy6; go_simp) <;> with_reducible rfl)
          (try simp only [Act.put, List.setIfInBounds_toArray, List.set_cons_zero, List.set_cons_succ])
          refine take_at 7 37 wy7 (v := ?_) (Or.inl ⟨by rfl, ?_⟩) ?_
          rotate_left 1
          · ((intro w hSw; (try dsimp only at hSw); have eW := EW.out; unfold wy7; go_simp) <;> with_reducible rfl)
          (try simp only [Act.put, List.setIfInBounds_toArray, List.set_cons_zero, List.set_cons_succ])
          refine take_at 10 40 wy10 (v := ?_) (Or.inl ⟨by rfl, ?_⟩) ?_
          rotate_left 1
          · ((intro w hSw; (try dsimp only at hSw); unfold wy10; go_simp) <;> with_reducible rfl)
          (try simp only [Act.put, List.setIfInBounds_toArray, List.set_cons_zero, List.set_cons_succ])
          refine take_at 11 41 wy11 (v := ?_) (Or.inl ⟨by rfl, ?_⟩) ?_
          rotate_left 1
          · ((intro w hSw; (try dsimp only at hSw); unfold wy11; go_simp) <;> with_reducible rfl)
          (try simp only [Act.put, List.setIfInBounds_toArray, List.set_cons_zero, List.set_cons_succ])
          refine wpAnyH_ready (rs := [8]) (by kernel_rfl) (by simp) ?_
          refine AllReadyH.cons (o := wy8) rfl (fun K hK => ?_) ?_
          · unfold wy8
            go_simp
            refine (lift_any l[k].a (((l.length : Int) - 1 - (k : Int)) + 1) 0 _ _ (kept_lies hHeld.1 HQL.out) HI1.out HI0.out HDP.out).mono ?_
            rw [HT1.out]
            rintro ee wn ⟨s2, rfl, hl2, hbn⟩
            obtain ⟨a2, cap2, rfl, -, -⟩ := hl2.out
            have hS8 := bn_call hHeld hbn
            have HFU1 := Lib.hid (HFU.out.later hbn)
            have HL2 := Lib.hid hl2.lies
            have HWN := Lib.hid (show g < _ from block_lt HFU1.out.blk)
            clear hbn hl2 hHeld
            refine hK.out _ _ ?_ (fun hHeld => ?_)
            · (try dsimp only)
              (first | exact hS14 | exact hS12 | exact hS9 | exact hS8 | exact bn_drew hS0)
            clear hK K
            (try simp only [Act.put, List.setIfInBounds_toArray, List.set_cons_zero, List.set_cons_succ])
            refine wpAnyH_ready (rs := [9]) (by kernel_rfl) (by simp) ?_
            refine AllReadyH.cons (o := wy9) rfl (fun K hK => ?_) ?_
            · unfold wy9
              go_simp
              refine (strip_any T1 _ _ HL2.out).mono ?_
              rw [HT2.out]
              rintro ee wm ⟨s3, rfl, hl3, hbm⟩
              obtain ⟨a3, cap3, rfl, -, -⟩ := hl3.out
              have hS9 := bn_call hHeld hbm
              have HFU2 := Lib.hid (HFU1.out.later hbm)
              have HL3 : Hid (LiesQ _ (fun b => b ≠ g) T2.kids _) := hl3.q.wide (fun b hb => by have := hb.1; have := HWN.out; omega)
              have HWM := Lib.hid (show g < _ from block_lt HFU2.out.blk)
              clear hbm hl3 hHeld
              refine hK.out _ _ ?_ (fun hHeld => ?_)
              · (try dsimp only)
                (first | exact hS14 | exact hS12 | exact hS9 | exact hS8 | exact bn_drew hS0)
              clear hK K
              (try simp only [Act.put, List.setIfInBounds_toArray, List.set_cons_zero, List.set_cons_succ])
              refine wpAnyH_ready (rs := [12]) (by kernel_rfl) (by simp) ?_
              refine AllReadyH.cons (o := wy12) rfl (fun K hK => ?_) ?_
              · unfold wy12
                go_simp
                refine (hself_any l[k].i T2 (.mk 2 ((l.length : Int) - 1 - (k : Int)) 0 0 []) (fun b => b ≠ g) _ (.slice a3 T2.kids.length cap3) (.slice none 0 0) HFE.out.2 HF2.out HL3.out HFV.out (liesQ_nil _ _)).mono ?_
                rw [HU.out]
                rintro ee wq ⟨va, vb, vx, vy, vh, rfl, ⟨la, lb, lx, ly, lh⟩, hbq⟩
                obtain ⟨pa, qa, Sa, rfl, -⟩ := la.out
                obtain ⟨pb, qb, Sb, rfl, -⟩ := lb.out
                obtain ⟨px, qx, Sx, rfl, -⟩ := lx.out
                obtain ⟨py, qy, Sy, rfl, -⟩ := ly.out
                obtain ⟨ph, qh, Sh, rfl, -⟩ := lh.out
                have hS12 := bn_call hHeld hbq
                have HFU3 := Lib.hid (HFU2.out.later hbq)
                have HL4 : Hid (HQ _ (fun b => b ≠ g) U _ _ _ _ _) := HQ.keep (⟨la, lb, lx, ly, lh⟩ : HQ _ _ U _ _ _ _ _) (fun _ _ _ => rfl) (fun b hb _ => by rcases hb with hb | hb; exact hb; have := HWM.out; omega)
                clear la lb lx ly lh hbq hHeld
                refine hK.out _ _ ?_ (fun hHeld => ?_)
                · (try dsimp only)
                  (first | exact hS14 | exact hS12 | exact hS9 | exact hS8 | exact bn_drew hS0)
                clear hK K
                (try simp only [Act.put, List.setIfInBounds_toArray, List.set_cons_zero, List.set_cons_succ])
                refine take_at 13 43 wy13 (v := ?_) (Or.inl ⟨by rfl, ?_⟩) ?_
                rotate_left 1
                · ((intro w hSw; (try dsimp only at hSw); unfold wy13; go_simp) <;> with_reducible rfl)
                (try simp only [Act.put, List.setIfInBounds_toArray, List.set_cons_zero, List.set_cons_succ])
                refine wpAnyH_ready (rs := [14]) (by kernel_rfl) (by simp) ?_
                refine AllReadyH.cons (o := wy14) rfl (fun K hK => ?_) ?_
                · unfold wy14
                  refine step_store_part rfl 34 (.tmp 43) (.tmp 42) rfl g (k * 26) #[.int .i64 U.i, .int .i64 U.a.k, .int .i64 U.a.i, .int .i64 U.a.j, .int .i64 U.a.n, .slice pa U.a.kids.length qa, .int .i64 U.b.k, .int .i64 U.b.i, .int .i64 U.b.j, .int .i64 U.b.n, .slice pb U.b.kids.length qb, .int .i64 U.x.k, .int .i64 U.x.i, .int .i64 U.x.j, .int .i64 U.x.n, .slice px U.x.kids.length qx, .int .i64 U.y.k, .int .i64 U.y.i, .int .i64 U.y.j, .int .i64 U.y.n, .slice py U.y.kids.length qy, .int .i64 U.h.k, .int .i64 U.h.i, .int .i64 U.h.j, .int .i64 U.h.n, .slice ph U.h.kids.length qh] rfl rfl 34 (by kernel_rfl) (row_ok rfl) (cells26 xs).toArray (cells26 (xs.set k (U, ⟨.slice pa U.a.kids.length qa, .slice pb U.b.kids.length qb, .slice px U.x.kids.length qx, .slice py U.y.kids.length qy, .slice ph U.h.kids.length qh⟩))).toArray HFU3.out.blk (fullH_set HXK.out _ _ rfl) HSZ.out ?_
                  intro W2 hW2
                  have hS14 := bn_row hHeld HGW.out HNE.out hW2
                  have hFN := fullH_fill HFU3.out HXK.out (p := (U, ⟨.slice pa U.a.kids.length qa, .slice pb U.b.kids.length qb, .slice px U.x.kids.length qx, .slice py U.y.kids.length qy, .slice ph U.h.kids.length qh⟩)) HFI.out HL4.out hW2
                  (try clear hHeld)
                  clear hW2
                  refine hK.out _ _ ?_ (fun hHeld => ?_)
                  · (try dsimp only)
                    (first | exact hS14 | exact hS12 | exact hS9 | exact hS8 | exact bn_drew hS0)
                  clear hK K
                  (try simp only [Act.put])
                  refine wpAnyH_done (by kernel_rfl) ?_ _
                  have hkE := hHeld.1
                  clear hHeld
                  go_wp2_with fail
                  go_roundw
                  case rel => exact ⟨k + 1, xs.set k (U, ⟨.slice pa U.a.kids.length qa, .slice pb U.b.kids.length qb, .slice px U.x.kids.length qx, .slice py U.y.kids.length qy, .slice ph U.h.kids.length qh⟩), by omega, by go_num, by show _ = _; rw [List.length_set]; exact hxl.out, take_set_map _ (by rw [waysL_length]; exact hxl.out) (by rw [waysL_length]; exact hlt) hxs.out (by rw [waysL_get l k hlt]; exact HUE.out), hFN, hkE⟩
                  case measure => simp [intOf]; omega
                exact AllReadyH.nil
              exact AllReadyH.nil
            exact AllReadyH.nil
          exact AllReadyH.nil
        · obtain rfl : k = l.length := by omega
          have hxs' : xs.map (·.1) = waysL l := by
            have h := hxs.out
            rw [List.take_of_length_le (by simp [hxl.out]), List.take_of_length_le (by rw [waysL_length]; exact Nat.le_refl _)] at h
            exact h
          have hres := hfu.lies (cap := l.length) (by rw [hxl.out]; exact Nat.le_refl _) (by unfold maxLen; omega)
          rw [hxs', hxl.out] at hres
          go_wp2_with fail
          go_ret
          exact ⟨_, rfl, by rw [HALL.out]; exact hres, hb⟩
end Go.Proofs.YtgododpkbiaacaaGreat

namespace Go.Proofs.YtgododpkbiaacaaGreat
open Go.RowKit

mutual
/-- No level is above that, as the keeper says it. -/
def Tm.lowK (m : Int) : Tm → Bool
  | .mk k i j _ l => (k == 2 || (decide (i ≤ m) && decide (j ≤ m))) && lowKs m l
def lowKs (m : Int) : List Tm → Bool
  | [] => true
  | t :: r => t.lowK m && lowKs m r
end
theorem Tm.lowK_eq (m : Int) (t : Tm) : t.lowK m = ((t.k == 2 || (decide (t.i ≤ m) && decide (t.j ≤ m))) && lowKs m t.kids) := by cases t; rfl
theorem lowKs_take (m : Int) : ∀ (l : List Tm) (k : Nat) (h : k < l.length), lowKs m (l.take (k + 1)) = (lowKs m (l.take k) && (l[k]).lowK m)
  | [], _, h => by simp at h
  | a :: r, 0, _ => by simp [lowKs]
  | a :: r, k + 1, h => by
    simp only [List.take_succ_cons, lowKs, List.getElem_cons_succ]
    rw [lowKs_take m r k (by simpa using h), Bool.and_assoc]
theorem lowKs_false {m : Int} : ∀ {l : List Tm} {k : Nat} (h : k < l.length), (l[k]).lowK m = false → lowKs m l = false
  | a :: r, 0, _, h2 => by simp only [List.getElem_cons_zero] at h2; simp [lowKs, h2]
  | a :: r, k + 1, h, h2 => by simp only [lowKs]; rw [lowKs_false (l := r) (k := k) (by simpa using h) h2, Bool.and_false]
theorem lvls_le (m : Int) : ∀ (l : List Tm) (m0 : Int), lvls m0 l ≤ m ↔ m0 ≤ m ∧ ∀ x ∈ l, x.lvl ≤ m
  | [], m0 => by simp [lvls]
  | a :: r, m0 => by
    simp only [lvls, lvls_le m r, List.forall_mem_cons]
    constructor
    · rintro ⟨h1, h2⟩; exact ⟨by omega, by omega, h2⟩
    · rintro ⟨h1, h2, h3⟩; exact ⟨by omega, h3⟩
theorem lowKs_iff {m : Int} : ∀ {l : List Tm}, (∀ x ∈ l, (x.lowK m = true ↔ x.lvl ≤ m)) → (lowKs m l = true ↔ ∀ x ∈ l, x.lvl ≤ m)
  | [], _ => by simp [lowKs]
  | a :: r, h => by
    have h1 := h a (by simp)
    have h2 := lowKs_iff (l := r) (fun x hx => h x (List.mem_cons_of_mem _ hx))
    simp only [lowKs, Bool.and_eq_true, List.forall_mem_cons, h1, h2]
theorem lowK_lvl {m : Int} (hm : 0 ≤ m) (t : Tm) : t.rightB = true → (t.lowK m = true ↔ t.lvl ≤ m) := by
  induction t using Tm.ind with
  | h t ih =>
    intro hr
    have hk := lowKs_iff (fun x hx => ih x hx (t.right_kids hr x hx))
    rw [Tm.lowK_eq, Tm.lvl_eq, lvls_le, Bool.and_eq_true, hk]
    by_cases h2 : t.k = 2
    · have hn := t.right_node hr
      have hj : t.j = 0 := by
        simp only [Tm.nodeB, numbersN, h2, Bool.and_eq_true] at hn
        simp at hn
        omega
      rw [if_pos h2]
      simp [h2, hj, hm]
    · rw [if_neg h2]
      have e : (t.k == 2) = false := by simpa using h2
      rw [e]
      simp only [Bool.false_or, Bool.and_eq_true, decide_eq_true_eq]
      constructor
      · rintro ⟨⟨h1, h2⟩, h3⟩; exact ⟨by omega, h3⟩
      · rintro ⟨h1, h3⟩; exact ⟨⟨by omega, by omega⟩, h3⟩
def lowEK (m : Int) (e : En) : Bool := decide (e.i ≤ m) && e.a.lowK m
def lowCK (m : Int) (l : List En) : Bool := l.all (lowEK m)
theorem lowCK_right {m : Int} (hm : 0 ≤ m) {l : List En} (h : ∀ e ∈ l, e.a.rightB = true) : lowCK m l = lowC m l := by
  unfold lowCK lowC
  induction l with
  | nil => rfl
  | cons a r ih =>
    rw [List.all_cons, List.all_cons, ih (fun e he => h e (List.mem_cons_of_mem _ he))]
    congr 1
    unfold lowEK lowE
    congr 1
    have := lowK_lvl hm a.a (h a (by simp))
    cases e : a.a.lowK m with
    | true => exact (decide_eq_true (this.1 e)).symm
    | false => exact (decide_eq_false (fun h' => by rw [this.2 h'] at e; cases e)).symm
theorem lowCK_take {m : Int} {l : List En} {k : Nat} (h : k < l.length) (h1 : lowCK m (l.take k) = true) (h2 : lowEK m l[k] = true) : lowCK m (l.take (k + 1)) = true := by
  unfold lowCK at *
  rw [List.take_succ_eq_append_getElem h, List.all_append, h1]
  simp [h2]
theorem lowCK_false {m : Int} {l : List En} {k : Nat} (h : k < l.length) (h2 : lowEK m l[k] = false) : lowCK m l = false := by
  unfold lowCK
  cases e : l.all (lowEK m) with
  | false => rfl
  | true => rw [List.all_eq_true.1 e _ (List.getElem_mem h)] at h2; cases h2
theorem rightC_right {l : List En} (h : rightC l = true) : ∀ e ∈ l, e.a.rightB = true := by
  intro e he
  obtain ⟨k, hk, rfl⟩ := List.mem_iff_getElem.1 he
  have h1 := rightC_at h hk
  unfold goodE at h1
  simp only [Bool.and_eq_true] at h1
  exact marked_right (by simp_all)

set_option maxRecDepth 20000 in
set_option maxHeartbeats 4000000 in
theorem keeplow_any (t : Tm) (m : Int) : ∀ (w : World) (s : Value), Lies w t.kids s → Calls Tryz.prog 71 #[tv t s, .int .i64 m] w fun e w' => e = .returned (.bool (t.lowK m)) ∧ Below w.heap.size w w' := by
  induction t using Tm.ind with
  | h t ih =>
    intro w s hl
    obtain ⟨a, cap, S, rfl, hc, hmx, hf, hn, hk⟩ := hl.out
    unfold tv
    have HEQ := Lib.hid (t.lowK_eq m)
    unfold maxLen at hmx
    have IH := Lib.hid ih
    have HN := Lib.hid hn
    have HK := Lib.hid hk
    clear ih hn hk hf hl
    have hcell : ∀ (wr : World), Below (w.heap.size + 1) (w.alloc (.cells #[.int .i64 t.k, .int .i64 t.i, .int .i64 t.j, .int .i64 t.n, .slice a t.kids.length cap] 25)) wr → wr.cell? ⟨w.heap.size, 4, none⟩ = some (.slice a t.kids.length cap) := fun wr h => by
      rw [h.cell (p := ⟨w.heap.size, 4, none⟩) (by exact Nat.lt_succ_self _), World.cell?_alloc_at _ _ _ _ rfl]; rfl
    have HC := Lib.hid hcell
    clear hcell
    by_cases h2 : t.k = 2
    · have e2 : (t.k != 2) = false := by rw [h2]; rfl
      have H2 := Lib.hid h2
      clear h2
      have HS : Hid ((t.k == 2 || (decide (t.i ≤ m) && decide (t.j ≤ m))) = true) := by show _ = true; simp [H2.out]
      go_enter Tryz.func71, Tryz.ntmps71
      go_wp2
      go_loopw [5] (fun iv wr => ∃ k : Nat, k ≤ t.kids.length ∧ iv = .int .i64 k ∧ Hid (lowKs m (t.kids.take k) = true) ∧ Below (w.heap.size + 1) (w.alloc (.cells #[.int .i64 t.k, .int .i64 t.i, .int .i64 t.j, .int .i64 t.n, .slice a t.kids.length cap] 25)) wr) (fun i _ => t.kids.length - (intOf i).toNat)
      case atStart => exact ⟨0, Nat.zero_le _, rfl, rfl, Below.refl _ _⟩
      case round =>
        obtain ⟨k, hk, rfl, hgood, hb⟩ := hrel
        have hc4 := HC.out wr hb
        have hb0 : Below w.heap.size w wr := ((Below.refl _ _).alloc (Nat.le_refl _) _).trans (hb.mono (by omega))
        by_cases hlt : k < t.kids.length
        · obtain ⟨b, o, rfl, hx⟩ := HN.out k hlt
          obtain ⟨c0, c1, c2, c3, c4⟩ := hx.below hb0 hx.lt
          have hq := HK.out k hlt
          obtain ⟨a', cap', S', hS, -⟩ := hq.out
          rw [hS] at c4 hq
          have HQ := Lib.hid (hq.keep hb0)
          have HB0 := Lib.hid hb
          clear hS hq hb hb0
          have HM := Lib.hid (List.getElem_mem hlt)
          have HT := Lib.hid (lowKs_take m t.kids k hlt)
          have HO := Lib.hid (fun h => lowKs_false (m := m) (l := t.kids) (k := k) hlt h)
          go_wp2_with fail
          refine (IH.out _ HM.out _ _ HQ.out).mono ?_
          obtain ⟨mb, hmb⟩ : ∃ b, (t.kids[k]).lowK m = b := ⟨_, rfl⟩
          rw [hmb]
          have HMB := Lib.hid hmb
          clear hmb
          rintro e w1 ⟨rfl, hb1⟩
          have HB1 := Lib.hid (HB0.out.trans (hb1.mono (by have := HB0.out.size; simpa using this)))
          clear hb1 c0 c1 c2 c3 c4 hc4
          cases mb with
          | false =>
            go_wp2
            go_ret
            exact ⟨ret_bool (Eq.symm (by rw [HEQ.out, HO.out HMB.out, Bool.and_false])), ((Below.refl _ _).alloc (Nat.le_refl _) _).trans (HB1.out.mono (by omega))⟩
          | true =>
            go_wp2
            go_roundw
            case rel => exact ⟨k + 1, hlt, by go_num, by show _ = true; rw [HT.out, hgood.out, HMB.out]; rfl, HB1.out⟩
            case measure => simp [intOf]; omega
        · obtain rfl : k = t.kids.length := by omega
          have HE := Lib.hid (show lowKs m t.kids = true by have := hgood.out; rw [List.take_length] at this; exact this)
          go_wp2
          go_ret
          exact ⟨ret_bool (Eq.symm (by rw [HEQ.out, HS.out, HE.out]; rfl)), hb0⟩
    have e2 : (t.k != 2) = true := by simpa using h2
    by_cases h3 : m < t.i
    · have e3 : decide (m < t.i) = true := decide_eq_true h3
      go_enter Tryz.func71, Tryz.ntmps71
      go_wp2
      go_ret
      exact ⟨ret_bool (Eq.symm (by rw [HEQ.out]; simp [h2, show ¬ t.i ≤ m by omega])), (Below.refl _ _).alloc (Nat.le_refl _) _⟩
    have e3 : decide (m < t.i) = false := decide_eq_false h3
    by_cases h4 : m < t.j
    · have e4 : decide (m < t.j) = true := decide_eq_true h4
      go_enter Tryz.func71, Tryz.ntmps71
      go_wp2
      go_ret
      exact ⟨ret_bool (Eq.symm (by rw [HEQ.out]; simp [h2, show ¬ t.j ≤ m by omega])), (Below.refl _ _).alloc (Nat.le_refl _) _⟩
    have e4 : decide (m < t.j) = false := decide_eq_false h4
    have HS : Hid ((t.k == 2 || (decide (t.i ≤ m) && decide (t.j ≤ m))) = true) := by show _ = true; simp [Int.not_lt.1 h3, Int.not_lt.1 h4]
    go_enter Tryz.func71, Tryz.ntmps71
    go_wp2
    go_loopw [5] (fun iv wr => ∃ k : Nat, k ≤ t.kids.length ∧ iv = .int .i64 k ∧ Hid (lowKs m (t.kids.take k) = true) ∧ Below (w.heap.size + 1) (w.alloc (.cells #[.int .i64 t.k, .int .i64 t.i, .int .i64 t.j, .int .i64 t.n, .slice a t.kids.length cap] 25)) wr) (fun i _ => t.kids.length - (intOf i).toNat)
    case atStart => exact ⟨0, Nat.zero_le _, rfl, rfl, Below.refl _ _⟩
    case round =>
      obtain ⟨k, hk, rfl, hgood, hb⟩ := hrel
      have hc4 := HC.out wr hb
      have hb0 : Below w.heap.size w wr := ((Below.refl _ _).alloc (Nat.le_refl _) _).trans (hb.mono (by omega))
      by_cases hlt : k < t.kids.length
      · obtain ⟨b, o, rfl, hx⟩ := HN.out k hlt
        obtain ⟨c0, c1, c2, c3, c4⟩ := hx.below hb0 hx.lt
        have hq := HK.out k hlt
        obtain ⟨a', cap', S', hS, -⟩ := hq.out
        rw [hS] at c4 hq
        have HQ := Lib.hid (hq.keep hb0)
        have HB0 := Lib.hid hb
        clear hS hq hb hb0
        have HM := Lib.hid (List.getElem_mem hlt)
        have HT := Lib.hid (lowKs_take m t.kids k hlt)
        have HO := Lib.hid (fun h => lowKs_false (m := m) (l := t.kids) (k := k) hlt h)
        go_wp2_with fail
        refine (IH.out _ HM.out _ _ HQ.out).mono ?_
        obtain ⟨mb, hmb⟩ : ∃ b, (t.kids[k]).lowK m = b := ⟨_, rfl⟩
        rw [hmb]
        have HMB := Lib.hid hmb
        clear hmb
        rintro e w1 ⟨rfl, hb1⟩
        have HB1 := Lib.hid (HB0.out.trans (hb1.mono (by have := HB0.out.size; simpa using this)))
        clear hb1 c0 c1 c2 c3 c4 hc4
        cases mb with
        | false =>
          go_wp2
          go_ret
          exact ⟨ret_bool (Eq.symm (by rw [HEQ.out, HO.out HMB.out, Bool.and_false])), ((Below.refl _ _).alloc (Nat.le_refl _) _).trans (HB1.out.mono (by omega))⟩
        | true =>
          go_wp2
          go_roundw
          case rel => exact ⟨k + 1, hlt, by go_num, by show _ = true; rw [HT.out, hgood.out, HMB.out]; rfl, HB1.out⟩
          case measure => simp [intOf]; omega
      · obtain rfl : k = t.kids.length := by omega
        have HE := Lib.hid (show lowKs m t.kids = true by have := hgood.out; rw [List.take_length] at this; exact this)
        go_wp2
        go_ret
        exact ⟨ret_bool (Eq.symm (by rw [HEQ.out, HS.out, HE.out]; rfl)), hb0⟩

set_option maxRecDepth 20000 in
set_option maxHeartbeats 4000000 in
theorem keeplowctx_any (l : List En) (m : Int) (w : World) (s : Value) (hl : LiesE w l s) : Calls Tryz.prog 49 #[s, .int .i64 m] w fun e w' => e = .returned (.bool (lowCK m l)) ∧ Below w.heap.size w w' := by
  obtain ⟨a, cap, S, rfl, hc, hmx, -, hn, hk⟩ := hl.out
  unfold maxLen at hmx
  have HN := Lib.hid hn
  have HK := Lib.hid hk
  clear hn hk hl
  go_enter Tryz.func49, Tryz.ntmps49
  go_wp2
  go_loopw [5] (fun iv wr => ∃ k : Nat, k ≤ l.length ∧ iv = .int .i64 k ∧ Hid (lowCK m (l.take k) = true) ∧ Below w.heap.size w wr) (fun iv _ => l.length - (intOf iv).toNat)
  case atStart => exact ⟨0, Nat.zero_le _, rfl, rfl, Below.refl _ _⟩
  case round =>
    obtain ⟨k, hk, rfl, hgood, hb⟩ := hrel
    by_cases hlt : k < l.length
    · obtain ⟨b, o, rfl, hx⟩ := HN.out k hlt
      have hx := hx.below hb hx.lt
      have hq := (HK.out k hlt).keep hb
      obtain ⟨a', cap', S', hS, -⟩ := hq.out
      rw [hS] at hx hq
      have HQ := Lib.hid hq
      have HT := Lib.hid (fun h => lowCK_take hlt hgood.out h)
      have HO := Lib.hid (fun h => lowCK_false (m := m) hlt h)
      have HBV := Lib.hid hb
      obtain ⟨x0, x1, x2, x3, x4, x5⟩ := hx
      clear hS hq hb
      by_cases h0 : m < l[k].i
      · have e0 : decide (m < l[k].i) = true := decide_eq_true h0
        go_wp2
        go_ret
        exact ⟨ret_bool (HO.out (by unfold lowEK; rw [decide_eq_false (show ¬ l[k].i ≤ m by omega)]; rfl)).symm, HBV.out⟩
      have e0 : decide (m < l[k].i) = false := decide_eq_false h0
      have G0 := Lib.hid (show decide (l[k].i ≤ m) = true from decide_eq_true (by omega))
      go_wp2_with fail
      refine (keeplow_any l[k].a m _ _ HQ.out).mono ?_
      obtain ⟨mb, hmb⟩ : ∃ b, l[k].a.lowK m = b := ⟨_, rfl⟩
      rw [hmb]
      have HMB := Lib.hid hmb
      clear hmb
      rintro e w1 ⟨rfl, hb1⟩
      have HB1 := Lib.hid (below_call HBV.out hb1 HBV.out.size)
      clear hb1 x0 x1 x2 x3 x4 x5
      cases mb with
      | false =>
        go_wp2
        go_ret
        exact ⟨ret_bool (HO.out (by unfold lowEK; rw [HMB.out, Bool.and_false])).symm, HB1.out⟩
      | true =>
        have HS : Hid (lowEK m l[k] = true) := by unfold lowEK; rw [G0.out, HMB.out]; rfl
        go_wp2
        go_roundw
        case rel => exact ⟨k + 1, hlt, by go_num, HT.out HS.out, HB1.out⟩
        case measure => simp [intOf]; omega
    · obtain rfl : k = l.length := by omega
      have HS := Lib.hid (show lowCK m l = true by have := hgood.out; rw [List.take_length] at this; exact this)
      go_wp2
      go_ret
      exact ⟨ret_bool HS.out.symm, hb⟩

set_option maxRecDepth 20000 in
set_option maxHeartbeats 4000000 in
theorem reflow_any (l : List En) (w : World) (s : Value) (hl : LiesE w l s) : Calls Tryz.prog 23 #[s] w fun e w' => e = .returned (.bool (rightC l && lowC 996 l)) ∧ Below w.heap.size w w' := by
  have HL := Lib.hid hl
  clear hl
  cases hr : rightC l with
  | false =>
    have HR := Lib.hid hr
    clear hr
    go_enter Tryz.func23, Tryz.ntmps23
    go_wp2_with fail
    refine (refctxright_any l _ _ HL.out).mono ?_
    rw [HR.out]
    rintro e w1 ⟨rfl, hb1⟩
    go_wp2
    go_ret
    exact ⟨rfl, hb1⟩
  | true =>
    have HR := Lib.hid hr
    have HE := Lib.hid (lowCK_right (m := 996) (by decide) (rightC_right hr))
    clear hr
    go_enter Tryz.func23, Tryz.ntmps23
    go_wp2_with fail
    refine (refctxright_any l _ _ HL.out).mono ?_
    rw [HR.out]
    rintro e w1 ⟨rfl, hb1⟩
    have HB1 := Lib.hid hb1
    clear hb1
    go_wp2_with fail
    refine (keeplowctx_any l 996 _ _ (HL.out.keep HB1.out)).mono ?_
    rw [HE.out]
    rintro e w2 ⟨rfl, hb2⟩
    have hb02 := below_call HB1.out hb2 HB1.out.size
    clear hb2
    go_wp2
    go_ret
    exact ⟨rfl, hb02⟩
end Go.Proofs.YtgododpkbiaacaaGreat
