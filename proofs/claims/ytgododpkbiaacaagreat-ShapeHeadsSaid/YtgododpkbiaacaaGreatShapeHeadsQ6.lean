/-
  ShapeHeads holds: for every input the call returns true, and the arguments read as before. No condition.
-/
import Derived.Test.YtgododpkbiaacaaGreatRows
import Derived.WalkKit
import Derived.Lib.Hide
import Derived.KernelRfl
import Derived.Deep.RegionWith
import Derived.Deep.RegionHeld3
import Derived.Deep.AppendLies
import Derived.Laws.Rows
import Derived.Laws.IdiomCopy
import Derived.Deep.Slices
import Derived.Lib.QuietBelow
import Derived.StillTailTactics
import Derived.BigQuiet
import Derived.IntWalk
import Derived.OwnWalk
import Derived.Deep.RegionLaw
import Derived.Deep.QuietTactic
import Derived.Deep.LoopGhost
import Derived.Deep.DeepCutAuto
import Derived.OrdersHeld
import Derived.Deep.MidRow
import Derived.Laws.Tables
import Derived.Laws.CopyOwn
import Derived.Laws.CopyRow
import Derived.Deep.RegionHeld
import Derived.Lib.MinMax
import Derived.ProofKit
import Derived.OpenShut
import Derived.Carry
import Derived.ChangeSlices
import Derived.JoinedOf
import Derived.Test.YtgododpkbiaacaaGreatShapeHeadsQ5
namespace Go.Proofs.YtgododpkbiaacaaGreat
open Go.RowKit

theorem sort_fine6 {i : Int} (h : I64 i) : (sortT i).fine := mk_fine (by unfold I64; decide) h (by unfold I64; decide) (by unfold I64; decide)
theorem var_fine6 {i : Int} (h : I64 i) : (varT i).fine := mk_fine (by unfold I64; decide) h (by unfold I64; decide) (by unfold I64; decide)
theorem d_m3 : (sortT 3).markedB = true := by rw [Tm.markedB_eq]; rfl
theorem d_m4 : (sortT 4).markedB = true := by rw [Tm.markedB_eq]; rfl
theorem d_m5 : (sortT 5).markedB = true := by rw [Tm.markedB_eq]; rfl
theorem d_p4 : (sortT 4).pur = sortT 4 := by rw [Tm.pur_eq]; rfl
theorem d_p5 : (sortT 5).pur = sortT 5 := by rw [Tm.pur_eq]; rfl
theorem d_r44 : relatedB (sortT 4) (sortT 4) = true := by rw [relatedB_self]; exact d_m4
theorem d_s44 : sameB (sortT 4) (sortT 4) = true := sameB_self _
theorem d_r45 : relatedB (sortT 4) (sortT 5) = false := by unfold relatedB; rw [d_m4, d_m5, d_p4, d_p5]; decide
theorem d_v1 : (varT 1).markedB = true := by rw [Tm.markedB_eq]; rfl
theorem d_v2 : (varT 2).markedB = true := by rw [Tm.markedB_eq]; rfl
theorem d_v0 : (varT 0).markedB = true := by rw [Tm.markedB_eq]; rfl
theorem d_v3 : (varT 3).plainB = true := by rw [Tm.plainB_eq]; rfl
theorem d_tr : (Tm.mk 12 0 0 0 [varT 1, varT 2, varT 3, varT 0]).markedB = true := by
  rw [Tm.markedB_eq]
  have e : markeds ((Tm.mk 12 0 0 0 [varT 1, varT 2, varT 3, varT 0]).k == 12) 0 (Tm.mk 12 0 0 0 [varT 1, varT 2, varT 3, varT 0]).kids = true := by
    show markeds true 0 [varT 1, varT 2, varT 3, varT 0] = true
    simp [markeds, d_v1, d_v2, d_v0, d_v3]
  rw [e]
  rfl
theorem d_head : (Tm.mk 12 0 0 0 [varT 1, varT 2, varT 3, varT 0]).headB = varT 0 := by
  unfold Tm.headB
  rw [if_pos d_tr, und_tr (a := varT 1) (b := varT 2) (p := varT 3) (x := varT 0) rfl rfl]
  exact und_other (by decide)
set_option maxRecDepth 20000 in
set_option maxHeartbeats 4000000 in
theorem wakes26_any (w : World) : Calls Tryz.prog 12 #[] w fun e w' => e = .returned (.bool true) ∧ Kept w w' := by
  obtain ⟨du, hu1, hu2⟩ := under_term
  go_enter Tryz.func12, Tryz.ntmps12
  go_upto_region 1 with fail
  refine at_code (fun V0 hV0 => ?_)
  have k1 : Kept w V0 := by rw [← hV0]; exact kept_refl _
  have Z0 : Hid (V0.heap.size = w.heap.size + 0) := by show _ = _; rw [← hV0]; rfl
  clear hV0
  have Kk3 := Lib.hid k1
  clear k1
  have kvV0 : SeesN V0 V0.heap.size V0 := seesN_kept _ (kept_refl _)
  go_wp2_with fail
  clear kvV0
  refine (ls6_any 0 (Par w V0.heap.size [] (fun _ => False)) _ (show I64 0 from by unfold I64; decide)).mono ?_
  obtain ⟨U11, hU11⟩ : ∃ qu, sortT 0 = qu := ⟨_, rfl⟩
  rw [hU11]
  have HU11 := Lib.hid hU11
  clear hU11
  rintro e w4 ⟨s6, rfl, hl7, k5⟩
  obtain ⟨a8, c9, S10, rfl, -⟩ := hl7.out
  have Kk12 := Lib.hid k5
  clear k5
  have Hhl7 : Hid (LiesQ w4 (Par w V0.heap.size [] (fun _ => False)) U11.kids _) := par_give hl7 (Nat.le_refl _) (xlt_nil _)
  clear hl7
  have kvV0 : SeesN V0 V0.heap.size w4 := seesN_kept _ Kk12.out
  go_wp2_with fail
  refine at_world (fun W14 hW14 => ?_)
  clear kvV0
  obtain ⟨k16, x15, z17⟩ := alloc1 hW14
  have Kk18 := Lib.hid k16
  clear k16
  have Hx15 := Lib.hid x15
  have Hz17 := Lib.hid z17
  clear x15 z17 hW14
  refine (ways1_any U11 (Par w V0.heap.size [] (fun _ => False)) W14 w4.heap.size ((.slice a8 U11.kids.length c9)) (by rw [← HU11.out]; exact (sort_fine6 (show I64 0 from by unfold I64; decide))) (Hhl7.out.later Kk18.out) Hx15.out HU11.out.symm).mono ?_
  rintro e w19 ⟨g21, c22, D23, fr24, rfl, x28, hd26, hd27, hz29, k20⟩
  have Hx28 := Lib.hid x28
  have Hhz29 := Lib.hid hz29
  have Hhd26 := Lib.hid hd26
  have Hhd27 := Lib.hid hd27
  clear x28 hz29 hd26 hd27
  have Kk30 := Lib.hid k20
  clear k20
  have HG31 : Hid (V0.heap.size ≤ g21) := (Nat.le_trans (Below.size (kept_trans Kk12.out Kk18.out)) Hhz29.out)
  have XL32 : Hid (XLt (g21 :: []) w19) := (List.forall_mem_cons.2 ⟨block_lt Hx28.out, xlt_later (xlt_nil _) Kk30.out⟩)
  have ld33 := partN_cell (r := V0.heap.size) Hx28.out trivial 0 (.int .i64 1) Hhd26.out
  have ld34 := partN_cell (r := V0.heap.size) Hx28.out trivial 11 (.int .i64 2) Hhd27.out
  have kvV0 : SeesN V0 V0.heap.size w19 := seesN_kept _ (kept_trans Kk12.out (kept_trans Kk18.out Kk30.out))
  go_wp2_with fail
  clear kvV0
  refine (lv6_any 1 (Par w V0.heap.size (g21 :: []) (fun _ => False)) _ (show I64 1 from by unfold I64; decide)).mono ?_
  obtain ⟨U42, hU42⟩ : ∃ qu, varT 1 = qu := ⟨_, rfl⟩
  rw [hU42]
  have HU42 := Lib.hid hU42
  clear hU42
  rintro e w35 ⟨s37, rfl, hl38, k36⟩
  obtain ⟨a39, c40, S41, rfl, -⟩ := hl38.out
  have Kk43 := Lib.hid k36
  clear k36
  have Hhl38 : Hid (LiesQ w35 (Par w V0.heap.size (g21 :: []) (fun _ => False)) U42.kids _) := par_give hl38 (Below.size (kept_trans Kk12.out (kept_trans Kk18.out Kk30.out))) XL32.out
  clear hl38
  have kvV0 : SeesN V0 V0.heap.size w35 := seesN_kept _ (kept_trans Kk12.out (kept_trans Kk18.out (kept_trans Kk30.out Kk43.out)))
  go_wp2_with fail
  clear kvV0
  refine (lv6_any 2 (Par w V0.heap.size (g21 :: []) (fun _ => False)) _ (show I64 2 from by unfold I64; decide)).mono ?_
  obtain ⟨U51, hU51⟩ : ∃ qu, varT 2 = qu := ⟨_, rfl⟩
  rw [hU51]
  have HU51 := Lib.hid hU51
  clear hU51
  rintro e w44 ⟨s46, rfl, hl47, k45⟩
  obtain ⟨a48, c49, S50, rfl, -⟩ := hl47.out
  have Kk52 := Lib.hid k45
  clear k45
  have Hhl47 : Hid (LiesQ w44 (Par w V0.heap.size (g21 :: []) (fun _ => False)) U51.kids _) := par_give hl47 (Below.size (kept_trans Kk12.out (kept_trans Kk18.out (kept_trans Kk30.out Kk43.out)))) (xlt_later XL32.out Kk43.out)
  clear hl47
  have kvV0 : SeesN V0 V0.heap.size w44 := seesN_kept _ (kept_trans Kk12.out (kept_trans Kk18.out (kept_trans Kk30.out (kept_trans Kk43.out Kk52.out))))
  go_wp2_with fail
  clear kvV0
  refine (lv6_any 3 (Par w V0.heap.size (g21 :: []) (fun _ => False)) _ (show I64 3 from by unfold I64; decide)).mono ?_
  obtain ⟨U60, hU60⟩ : ∃ qu, varT 3 = qu := ⟨_, rfl⟩
  rw [hU60]
  have HU60 := Lib.hid hU60
  clear hU60
  rintro e w53 ⟨s55, rfl, hl56, k54⟩
  obtain ⟨a57, c58, S59, rfl, -⟩ := hl56.out
  have Kk61 := Lib.hid k54
  clear k54
  have Hhl56 : Hid (LiesQ w53 (Par w V0.heap.size (g21 :: []) (fun _ => False)) U60.kids _) := par_give hl56 (Below.size (kept_trans Kk12.out (kept_trans Kk18.out (kept_trans Kk30.out (kept_trans Kk43.out Kk52.out))))) (xlt_later XL32.out (kept_trans Kk43.out Kk52.out))
  clear hl56
  have kvV0 : SeesN V0 V0.heap.size w53 := seesN_kept _ (kept_trans Kk12.out (kept_trans Kk18.out (kept_trans Kk30.out (kept_trans Kk43.out (kept_trans Kk52.out Kk61.out)))))
  go_wp2_with fail
  clear kvV0
  refine (lv6_any 0 (Par w V0.heap.size (g21 :: []) (fun _ => False)) _ (show I64 0 from by unfold I64; decide)).mono ?_
  obtain ⟨U69, hU69⟩ : ∃ qu, varT 0 = qu := ⟨_, rfl⟩
  rw [hU69]
  have HU69 := Lib.hid hU69
  clear hU69
  rintro e w62 ⟨s64, rfl, hl65, k63⟩
  obtain ⟨a66, c67, S68, rfl, -⟩ := hl65.out
  have Kk70 := Lib.hid k63
  clear k63
  have Hhl65 : Hid (LiesQ w62 (Par w V0.heap.size (g21 :: []) (fun _ => False)) U69.kids _) := par_give hl65 (Below.size (kept_trans Kk12.out (kept_trans Kk18.out (kept_trans Kk30.out (kept_trans Kk43.out (kept_trans Kk52.out Kk61.out)))))) (xlt_later XL32.out (kept_trans Kk43.out (kept_trans Kk52.out Kk61.out)))
  clear hl65
  have kvV0 : SeesN V0 V0.heap.size w62 := seesN_kept _ (kept_trans Kk12.out (kept_trans Kk18.out (kept_trans Kk30.out (kept_trans Kk43.out (kept_trans Kk52.out (kept_trans Kk61.out Kk70.out))))))
  go_wp2_with (refine stop_store 25 (.tmp 2) (.tmp 16) rfl ?_)
  intro _
  refine at_list (fun W72 hW72 => ?_)
  clear kvV0
  obtain ⟨W73, h74, h75⟩ := peel hW72
  clear hW72
  obtain ⟨k77, x76, z78⟩ := alloc1 h74
  have Kk79 := Lib.hid k77
  clear k77
  have Hx76 := Lib.hid x76
  have Hz78 := Lib.hid z78
  clear x76 z78 h74
  have kq81 := (kept_trans Kk70.out Kk79.out)
  have kq82 := (kept_trans Kk61.out (kept_trans Kk70.out Kk79.out))
  have kq83 := (kept_trans Kk52.out (kept_trans Kk61.out (kept_trans Kk70.out Kk79.out)))
  have HR80 := Lib.hid (q_row4 (Q := (Par w V0.heap.size (g21 :: []) (fun _ => False))) Hx76.out (by rw [← HU42.out]; exact (var_fine6 (show I64 1 from by unfold I64; decide))) (Hhl38.out.later kq83) (by rw [← HU51.out]; exact (var_fine6 (show I64 2 from by unfold I64; decide))) (Hhl47.out.later kq82) (by rw [← HU60.out]; exact (var_fine6 (show I64 3 from by unfold I64; decide))) (Hhl56.out.later kq81) (by rw [← HU69.out]; exact (var_fine6 (show I64 0 from by unfold I64; decide))) (Hhl65.out.later Kk79.out) (par_new (Below.size (kept_trans Kk12.out (kept_trans Kk18.out (kept_trans Kk30.out (kept_trans Kk43.out (kept_trans Kk52.out (kept_trans Kk61.out Kk70.out))))))) (xlt_later XL32.out (kept_trans Kk43.out (kept_trans Kk52.out (kept_trans Kk61.out Kk70.out)))) (Nat.le_refl _)))
  clear kq81 kq82 kq83
  obtain ⟨k85, x84, z86⟩ := alloc1 h75
  have Kk87 := Lib.hid k85
  clear k85
  have Hx84 := Lib.hid x84
  have Hz86 := Lib.hid z86
  clear x84 z86 h75
  have HG88 : Hid (V0.heap.size ≤ W73.heap.size) := (Below.size (kept_trans Kk12.out (kept_trans Kk18.out (kept_trans Kk30.out (kept_trans Kk43.out (kept_trans Kk52.out (kept_trans Kk61.out (kept_trans Kk70.out Kk79.out))))))))
  have AP89 : Hid (g21 < W73.heap.size) := block_lt (blk_at Hx28.out (kept_trans Kk43.out (kept_trans Kk52.out (kept_trans Kk61.out (kept_trans Kk70.out Kk79.out)))))
  have XL90 : Hid (XLt (W73.heap.size :: (g21 :: [])) W72) := (xlt_more (xlt_later XL32.out (kept_trans Kk43.out (kept_trans Kk52.out (kept_trans Kk61.out (kept_trans Kk70.out Kk79.out))))) Kk87.out (by have := Hz86.out; omega))
  rw [← Hz78.out]
  have kvV0 : SeesN V0 V0.heap.size W72 := seesN_kept _ (kept_trans Kk12.out (kept_trans Kk18.out (kept_trans Kk30.out (kept_trans Kk43.out (kept_trans Kk52.out (kept_trans Kk61.out (kept_trans Kk70.out (kept_trans Kk79.out Kk87.out))))))))
  refine wpList_store_part_n (by rfl) 25 (.tmp 2) (.tmp 16) rfl (W73.heap.size) 0 #[.int .i64 12, .int .i64 0, .int .i64 0, .int .i64 0, (.slice (some ⟨w62.heap.size, 0, none⟩) 4 4)] (by rfl) (by rfl) 25 size_term (row_ok rfl) ?_
  intro W91 hW91
  clear kvV0
  subst hW91
  refine ⟨_, #[.int .i64 12, .int .i64 0, .int .i64 0, .int .i64 0, (.slice (some ⟨w62.heap.size, 0, none⟩) 4 4)], Hx84.out, rfl, Nat.le_of_ble_eq_true rfl, ?_⟩
  intro W92 hW92
  have KB93 := Lib.hid (kept_set (kept_trans Kk3.out (kept_trans Kk12.out (kept_trans Kk18.out (kept_trans Kk30.out (kept_trans Kk43.out (kept_trans Kk52.out (kept_trans Kk61.out (kept_trans Kk70.out (kept_trans Kk79.out Kk87.out))))))))) hW92 (by have := HG88.out; have := Z0.out; omega))
  have KB94 := Lib.hid (kept_set (kept_trans Kk12.out (kept_trans Kk18.out (kept_trans Kk30.out (kept_trans Kk43.out (kept_trans Kk52.out (kept_trans Kk61.out (kept_trans Kk70.out (kept_trans Kk79.out Kk87.out)))))))) hW92 HG88.out)
  have HL95 : Hid (LiesQ W92 (Par w V0.heap.size (W73.heap.size :: (g21 :: [])) (fun _ => False)) U11.kids _) := par_set (par_grow Hhl7.out (kept_trans Kk18.out (kept_trans Kk30.out (kept_trans Kk43.out (kept_trans Kk52.out (kept_trans Kk61.out (kept_trans Kk70.out (kept_trans Kk79.out Kk87.out))))))) (List.forall_mem_cons.2 ⟨(Or.inr (Nat.le_trans (Below.size (kept_trans Kk18.out (kept_trans Kk30.out (kept_trans Kk43.out (kept_trans Kk52.out (kept_trans Kk61.out (kept_trans Kk70.out Kk79.out))))))) (Nat.le_refl W73.heap.size))), (List.forall_mem_cons.2 ⟨(Or.inr (Nat.le_trans (Below.size Kk18.out) Hhz29.out)), (fun _ h => nomatch h)⟩)⟩)) hW92 (List.mem_cons_self ..) (by have := HG88.out; have := Z0.out; omega)
  have HL96 : Hid (LiesQ W92 (Par w V0.heap.size (W73.heap.size :: (g21 :: [])) (fun _ => False)) U42.kids _) := par_set (par_grow Hhl38.out (kept_trans Kk52.out (kept_trans Kk61.out (kept_trans Kk70.out (kept_trans Kk79.out Kk87.out)))) (List.forall_mem_cons.2 ⟨(Or.inr (Nat.le_trans (Below.size (kept_trans Kk52.out (kept_trans Kk61.out (kept_trans Kk70.out Kk79.out)))) (Nat.le_refl W73.heap.size))), (List.forall_mem_cons.2 ⟨(Or.inl (List.mem_cons_self ..)), (fun _ h => nomatch h)⟩)⟩)) hW92 (List.mem_cons_self ..) (by have := HG88.out; have := Z0.out; omega)
  have HL97 : Hid (LiesQ W92 (Par w V0.heap.size (W73.heap.size :: (g21 :: [])) (fun _ => False)) U51.kids _) := par_set (par_grow Hhl47.out (kept_trans Kk61.out (kept_trans Kk70.out (kept_trans Kk79.out Kk87.out))) (List.forall_mem_cons.2 ⟨(Or.inr (Nat.le_trans (Below.size (kept_trans Kk61.out (kept_trans Kk70.out Kk79.out))) (Nat.le_refl W73.heap.size))), (List.forall_mem_cons.2 ⟨(Or.inl (List.mem_cons_self ..)), (fun _ h => nomatch h)⟩)⟩)) hW92 (List.mem_cons_self ..) (by have := HG88.out; have := Z0.out; omega)
  have HL98 : Hid (LiesQ W92 (Par w V0.heap.size (W73.heap.size :: (g21 :: [])) (fun _ => False)) U60.kids _) := par_set (par_grow Hhl56.out (kept_trans Kk70.out (kept_trans Kk79.out Kk87.out)) (List.forall_mem_cons.2 ⟨(Or.inr (Nat.le_trans (Below.size (kept_trans Kk70.out Kk79.out)) (Nat.le_refl W73.heap.size))), (List.forall_mem_cons.2 ⟨(Or.inl (List.mem_cons_self ..)), (fun _ h => nomatch h)⟩)⟩)) hW92 (List.mem_cons_self ..) (by have := HG88.out; have := Z0.out; omega)
  have HL99 : Hid (LiesQ W92 (Par w V0.heap.size (W73.heap.size :: (g21 :: [])) (fun _ => False)) U69.kids _) := par_set (par_grow Hhl65.out (kept_trans Kk79.out Kk87.out) (List.forall_mem_cons.2 ⟨(Or.inr (Nat.le_trans (Below.size Kk79.out) (Nat.le_refl W73.heap.size))), (List.forall_mem_cons.2 ⟨(Or.inl (List.mem_cons_self ..)), (fun _ h => nomatch h)⟩)⟩)) hW92 (List.mem_cons_self ..) (by have := HG88.out; have := Z0.out; omega)
  have HL100 : Hid (LiesQ W92 (Par w V0.heap.size (W73.heap.size :: (g21 :: [])) (fun _ => False)) [U42, U51, U60, U69] _) := par_set (par_grow HR80.out Kk87.out (List.forall_mem_cons.2 ⟨(Or.inr (Nat.le_refl W73.heap.size)), (List.forall_mem_cons.2 ⟨(Or.inl (List.mem_cons_self ..)), (fun _ h => nomatch h)⟩)⟩)) hW92 (List.mem_cons_self ..) (by have := HG88.out; have := Z0.out; omega)
  have XL101 := Lib.hid (xlt_set XL90.out hW92)
  have HX102 := Lib.hid (blk_other (blk_at Hx28.out (kept_trans Kk43.out (kept_trans Kk52.out (kept_trans Kk61.out (kept_trans Kk70.out (kept_trans Kk79.out Kk87.out)))))) hW92 (by have := AP89.out; omega))
  have HX103 := Lib.hid (blk_same Hx84.out hW92)
  (try clear ld33)
  (try clear ld34)
  clear hW92
  have ld104 := partN_cell (r := V0.heap.size) HX102.out trivial 0 (.int .i64 1) Hhd26.out
  have ld105 := partN_cell (r := V0.heap.size) HX102.out trivial 11 (.int .i64 2) Hhd27.out
  have kvV0 : SeesN V0 V0.heap.size W92 := seesN_kept _ KB94.out
  have kvW92 : SeesN W92 V0.heap.size W92 := seesN_kept _ (kept_refl _)
  go_wp2_with fail
  clear kvV0
  clear kvW92
  refine (ls6_any 3 (Par w V0.heap.size (W73.heap.size :: (g21 :: [])) (fun _ => False)) _ (show I64 3 from by unfold I64; decide)).mono ?_
  obtain ⟨U113, hU113⟩ : ∃ qu, sortT 3 = qu := ⟨_, rfl⟩
  rw [hU113]
  have HU113 := Lib.hid hU113
  clear hU113
  rintro e w106 ⟨s108, rfl, hl109, k107⟩
  obtain ⟨a110, c111, S112, rfl, -⟩ := hl109.out
  have Kk114 := Lib.hid k107
  clear k107
  have Hhl109 : Hid (LiesQ w106 (Par w V0.heap.size (W73.heap.size :: (g21 :: [])) (fun _ => False)) U113.kids _) := par_give hl109 (Below.size KB94.out) XL101.out
  clear hl109
  have kvV0 : SeesN V0 V0.heap.size w106 := seesN_kept _ (kept_trans KB94.out Kk114.out)
  have kvW92 : SeesN W92 V0.heap.size w106 := seesN_kept _ Kk114.out
  go_wp2_with fail
  clear kvV0
  clear kvW92
  refine (ls6_any 4 (Par w V0.heap.size (W73.heap.size :: (g21 :: [])) (fun _ => False)) _ (show I64 4 from by unfold I64; decide)).mono ?_
  obtain ⟨U122, hU122⟩ : ∃ qu, sortT 4 = qu := ⟨_, rfl⟩
  rw [hU122]
  have HU122 := Lib.hid hU122
  clear hU122
  rintro e w115 ⟨s117, rfl, hl118, k116⟩
  obtain ⟨a119, c120, S121, rfl, -⟩ := hl118.out
  have Kk123 := Lib.hid k116
  clear k116
  have Hhl118 : Hid (LiesQ w115 (Par w V0.heap.size (W73.heap.size :: (g21 :: [])) (fun _ => False)) U122.kids _) := par_give hl118 (Below.size (kept_trans KB94.out Kk114.out)) (xlt_later XL101.out Kk114.out)
  clear hl118
  have kvV0 : SeesN V0 V0.heap.size w115 := seesN_kept _ (kept_trans KB94.out (kept_trans Kk114.out Kk123.out))
  have kvW92 : SeesN W92 V0.heap.size w115 := seesN_kept _ (kept_trans Kk114.out Kk123.out)
  go_wp2_with fail
  clear kvV0
  clear kvW92
  refine (ls6_any 4 (Par w V0.heap.size (W73.heap.size :: (g21 :: [])) (fun _ => False)) _ (show I64 4 from by unfold I64; decide)).mono ?_
  rw [HU122.out]
  rintro e w124 ⟨s126, rfl, hl127, k125⟩
  obtain ⟨a128, c129, S130, rfl, -⟩ := hl127.out
  have Kk131 := Lib.hid k125
  clear k125
  have Hhl127 : Hid (LiesQ w124 (Par w V0.heap.size (W73.heap.size :: (g21 :: [])) (fun _ => False)) U122.kids _) := par_give hl127 (Below.size (kept_trans KB94.out (kept_trans Kk114.out Kk123.out))) (xlt_later XL101.out (kept_trans Kk114.out Kk123.out))
  clear hl127
  have kvV0 : SeesN V0 V0.heap.size w124 := seesN_kept _ (kept_trans KB94.out (kept_trans Kk114.out (kept_trans Kk123.out Kk131.out)))
  have kvW92 : SeesN W92 V0.heap.size w124 := seesN_kept _ (kept_trans Kk114.out (kept_trans Kk123.out Kk131.out))
  go_wp2_with fail
  clear kvV0
  clear kvW92
  refine (as_same 0 U113 U122 U122 (Par w V0.heap.size (W73.heap.size :: (g21 :: [])) (fun _ => False)) w124 ((.slice a110 U113.kids.length c111)) ((.slice a119 U122.kids.length c120)) ((.slice a128 U122.kids.length c129)) (by unfold I64; decide) (by rw [← HU113.out]; exact (sort_fine6 (show I64 3 from by unfold I64; decide))) (Hhl109.out.later (kept_trans Kk123.out Kk131.out)) (by rw [← HU122.out]; exact (sort_fine6 (show I64 4 from by unfold I64; decide))) (Hhl118.out.later Kk131.out) (by rw [← HU122.out]; exact (sort_fine6 (show I64 4 from by unfold I64; decide))) Hhl127.out (by rw [← HU113.out]; exact d_m3) (by rw [← HU122.out]; exact d_r44) (by rw [← HU122.out]; exact d_s44) (by rw [← HU113.out]; decide)).mono ?_
  rintro e w132 ⟨s135, rfl, hl134, k133⟩
  obtain ⟨a136, c137, S138, rfl, -⟩ := hl134.out
  have Kk139 := Lib.hid k133
  clear k133
  have Hhl134 : Hid (LiesQ w132 (Par w V0.heap.size (W73.heap.size :: (g21 :: [])) (fun _ => False)) U113.kids _) := par_give hl134 (Below.size (kept_trans KB94.out (kept_trans Kk114.out (kept_trans Kk123.out Kk131.out)))) (xlt_later XL101.out (kept_trans Kk114.out (kept_trans Kk123.out Kk131.out)))
  clear hl134
  have kf140 : (U113.i == 3) = true := by rw [← HU113.out]; first | rfl | decide
  have kf141 : (U113.k == 1) = true := by rw [← HU113.out]; first | rfl | decide
  have kvV0 : SeesN V0 V0.heap.size w132 := seesN_kept _ (kept_trans KB94.out (kept_trans Kk114.out (kept_trans Kk123.out (kept_trans Kk131.out Kk139.out))))
  have kvW92 : SeesN W92 V0.heap.size w132 := seesN_kept _ (kept_trans Kk114.out (kept_trans Kk123.out (kept_trans Kk131.out Kk139.out)))
  go_wp2_with (refine stop_store 25 (.tmp 3) (.tmp 22) rfl ?_)
  intro _
  refine wpList_store_part_n (by rfl) 25 (.tmp 3) (.tmp 22) rfl (w132.heap.size) 0 #[.int .i64 U113.k, .int .i64 U113.i, .int .i64 U113.j, .int .i64 U113.n, (.slice a136 U113.kids.length c137)] (by rfl) (by rfl) 25 size_term (row_ok rfl) ?_
  intro W142 hW142
  clear kvV0
  clear kvW92
  obtain ⟨k145, x144, z146⟩ := alloc1 hW142
  have Kk147 := Lib.hid k145
  clear k145
  have Hx144 := Lib.hid x144
  have Hz146 := Lib.hid z146
  clear x144 z146 hW142
  have HG148 : Hid (V0.heap.size ≤ w132.heap.size) := (Below.size (kept_trans KB94.out (kept_trans Kk114.out (kept_trans Kk123.out (kept_trans Kk131.out Kk139.out)))))
  have AP149 : Hid (g21 < w132.heap.size) := block_lt (blk_at HX102.out (kept_trans Kk114.out (kept_trans Kk123.out (kept_trans Kk131.out Kk139.out))))
  have AP150 : Hid (W73.heap.size < w132.heap.size) := block_lt (blk_at HX103.out (kept_trans Kk114.out (kept_trans Kk123.out (kept_trans Kk131.out Kk139.out))))
  have XL151 : Hid (XLt (w132.heap.size :: (W73.heap.size :: (g21 :: []))) W142) := (xlt_more (xlt_later XL101.out (kept_trans Kk114.out (kept_trans Kk123.out (kept_trans Kk131.out Kk139.out)))) Kk147.out (by have := Hz146.out; omega))
  refine ⟨_, #[.int .i64 U113.k, .int .i64 U113.i, .int .i64 U113.j, .int .i64 U113.n, (.slice a136 U113.kids.length c137)], Hx144.out, rfl, Nat.le_of_ble_eq_true rfl, ?_⟩
  intro W143 hW143
  have KB152 := Lib.hid (kept_set (kept_trans KB93.out (kept_trans Kk114.out (kept_trans Kk123.out (kept_trans Kk131.out (kept_trans Kk139.out Kk147.out))))) hW143 (by have := HG148.out; have := Z0.out; omega))
  have KB153 := Lib.hid (kept_set (kept_trans KB94.out (kept_trans Kk114.out (kept_trans Kk123.out (kept_trans Kk131.out (kept_trans Kk139.out Kk147.out))))) hW143 HG148.out)
  have HL154 : Hid (LiesQ W143 (Par w V0.heap.size (w132.heap.size :: (W73.heap.size :: (g21 :: []))) (fun _ => False)) U11.kids _) := par_set (par_grow HL95.out (kept_trans Kk114.out (kept_trans Kk123.out (kept_trans Kk131.out (kept_trans Kk139.out Kk147.out)))) (List.forall_mem_cons.2 ⟨(Or.inr (Nat.le_trans (Below.size (kept_trans Kk114.out (kept_trans Kk123.out (kept_trans Kk131.out Kk139.out)))) (Nat.le_refl w132.heap.size))), (List.forall_mem_cons.2 ⟨(Or.inl (List.mem_cons_self ..)), (List.forall_mem_cons.2 ⟨(Or.inl (List.mem_cons_of_mem _ (List.mem_cons_self ..))), (fun _ h => nomatch h)⟩)⟩)⟩)) hW143 (List.mem_cons_self ..) (by have := HG148.out; have := Z0.out; omega)
  have HL155 : Hid (LiesQ W143 (Par w V0.heap.size (w132.heap.size :: (W73.heap.size :: (g21 :: []))) (fun _ => False)) U42.kids _) := par_set (par_grow HL96.out (kept_trans Kk114.out (kept_trans Kk123.out (kept_trans Kk131.out (kept_trans Kk139.out Kk147.out)))) (List.forall_mem_cons.2 ⟨(Or.inr (Nat.le_trans (Below.size (kept_trans Kk114.out (kept_trans Kk123.out (kept_trans Kk131.out Kk139.out)))) (Nat.le_refl w132.heap.size))), (List.forall_mem_cons.2 ⟨(Or.inl (List.mem_cons_self ..)), (List.forall_mem_cons.2 ⟨(Or.inl (List.mem_cons_of_mem _ (List.mem_cons_self ..))), (fun _ h => nomatch h)⟩)⟩)⟩)) hW143 (List.mem_cons_self ..) (by have := HG148.out; have := Z0.out; omega)
  have HL156 : Hid (LiesQ W143 (Par w V0.heap.size (w132.heap.size :: (W73.heap.size :: (g21 :: []))) (fun _ => False)) U51.kids _) := par_set (par_grow HL97.out (kept_trans Kk114.out (kept_trans Kk123.out (kept_trans Kk131.out (kept_trans Kk139.out Kk147.out)))) (List.forall_mem_cons.2 ⟨(Or.inr (Nat.le_trans (Below.size (kept_trans Kk114.out (kept_trans Kk123.out (kept_trans Kk131.out Kk139.out)))) (Nat.le_refl w132.heap.size))), (List.forall_mem_cons.2 ⟨(Or.inl (List.mem_cons_self ..)), (List.forall_mem_cons.2 ⟨(Or.inl (List.mem_cons_of_mem _ (List.mem_cons_self ..))), (fun _ h => nomatch h)⟩)⟩)⟩)) hW143 (List.mem_cons_self ..) (by have := HG148.out; have := Z0.out; omega)
  have HL157 : Hid (LiesQ W143 (Par w V0.heap.size (w132.heap.size :: (W73.heap.size :: (g21 :: []))) (fun _ => False)) U60.kids _) := par_set (par_grow HL98.out (kept_trans Kk114.out (kept_trans Kk123.out (kept_trans Kk131.out (kept_trans Kk139.out Kk147.out)))) (List.forall_mem_cons.2 ⟨(Or.inr (Nat.le_trans (Below.size (kept_trans Kk114.out (kept_trans Kk123.out (kept_trans Kk131.out Kk139.out)))) (Nat.le_refl w132.heap.size))), (List.forall_mem_cons.2 ⟨(Or.inl (List.mem_cons_self ..)), (List.forall_mem_cons.2 ⟨(Or.inl (List.mem_cons_of_mem _ (List.mem_cons_self ..))), (fun _ h => nomatch h)⟩)⟩)⟩)) hW143 (List.mem_cons_self ..) (by have := HG148.out; have := Z0.out; omega)
  have HL158 : Hid (LiesQ W143 (Par w V0.heap.size (w132.heap.size :: (W73.heap.size :: (g21 :: []))) (fun _ => False)) U69.kids _) := par_set (par_grow HL99.out (kept_trans Kk114.out (kept_trans Kk123.out (kept_trans Kk131.out (kept_trans Kk139.out Kk147.out)))) (List.forall_mem_cons.2 ⟨(Or.inr (Nat.le_trans (Below.size (kept_trans Kk114.out (kept_trans Kk123.out (kept_trans Kk131.out Kk139.out)))) (Nat.le_refl w132.heap.size))), (List.forall_mem_cons.2 ⟨(Or.inl (List.mem_cons_self ..)), (List.forall_mem_cons.2 ⟨(Or.inl (List.mem_cons_of_mem _ (List.mem_cons_self ..))), (fun _ h => nomatch h)⟩)⟩)⟩)) hW143 (List.mem_cons_self ..) (by have := HG148.out; have := Z0.out; omega)
  have HL159 : Hid (LiesQ W143 (Par w V0.heap.size (w132.heap.size :: (W73.heap.size :: (g21 :: []))) (fun _ => False)) [U42, U51, U60, U69] _) := par_set (par_grow HL100.out (kept_trans Kk114.out (kept_trans Kk123.out (kept_trans Kk131.out (kept_trans Kk139.out Kk147.out)))) (List.forall_mem_cons.2 ⟨(Or.inr (Nat.le_trans (Below.size (kept_trans Kk114.out (kept_trans Kk123.out (kept_trans Kk131.out Kk139.out)))) (Nat.le_refl w132.heap.size))), (List.forall_mem_cons.2 ⟨(Or.inl (List.mem_cons_self ..)), (List.forall_mem_cons.2 ⟨(Or.inl (List.mem_cons_of_mem _ (List.mem_cons_self ..))), (fun _ h => nomatch h)⟩)⟩)⟩)) hW143 (List.mem_cons_self ..) (by have := HG148.out; have := Z0.out; omega)
  have HL160 : Hid (LiesQ W143 (Par w V0.heap.size (w132.heap.size :: (W73.heap.size :: (g21 :: []))) (fun _ => False)) U113.kids _) := par_set (par_grow Hhl109.out (kept_trans Kk123.out (kept_trans Kk131.out (kept_trans Kk139.out Kk147.out))) (List.forall_mem_cons.2 ⟨(Or.inr (Nat.le_trans (Below.size (kept_trans Kk123.out (kept_trans Kk131.out Kk139.out))) (Nat.le_refl w132.heap.size))), (List.forall_mem_cons.2 ⟨(Or.inl (List.mem_cons_self ..)), (List.forall_mem_cons.2 ⟨(Or.inl (List.mem_cons_of_mem _ (List.mem_cons_self ..))), (fun _ h => nomatch h)⟩)⟩)⟩)) hW143 (List.mem_cons_self ..) (by have := HG148.out; have := Z0.out; omega)
  have HL161 : Hid (LiesQ W143 (Par w V0.heap.size (w132.heap.size :: (W73.heap.size :: (g21 :: []))) (fun _ => False)) U122.kids _) := par_set (par_grow Hhl118.out (kept_trans Kk131.out (kept_trans Kk139.out Kk147.out)) (List.forall_mem_cons.2 ⟨(Or.inr (Nat.le_trans (Below.size (kept_trans Kk131.out Kk139.out)) (Nat.le_refl w132.heap.size))), (List.forall_mem_cons.2 ⟨(Or.inl (List.mem_cons_self ..)), (List.forall_mem_cons.2 ⟨(Or.inl (List.mem_cons_of_mem _ (List.mem_cons_self ..))), (fun _ h => nomatch h)⟩)⟩)⟩)) hW143 (List.mem_cons_self ..) (by have := HG148.out; have := Z0.out; omega)
  have HL162 : Hid (LiesQ W143 (Par w V0.heap.size (w132.heap.size :: (W73.heap.size :: (g21 :: []))) (fun _ => False)) U122.kids _) := par_set (par_grow Hhl127.out (kept_trans Kk139.out Kk147.out) (List.forall_mem_cons.2 ⟨(Or.inr (Nat.le_trans (Below.size Kk139.out) (Nat.le_refl w132.heap.size))), (List.forall_mem_cons.2 ⟨(Or.inl (List.mem_cons_self ..)), (List.forall_mem_cons.2 ⟨(Or.inl (List.mem_cons_of_mem _ (List.mem_cons_self ..))), (fun _ h => nomatch h)⟩)⟩)⟩)) hW143 (List.mem_cons_self ..) (by have := HG148.out; have := Z0.out; omega)
  have HL163 : Hid (LiesQ W143 (Par w V0.heap.size (w132.heap.size :: (W73.heap.size :: (g21 :: []))) (fun _ => False)) U113.kids _) := par_set (par_grow Hhl134.out Kk147.out (List.forall_mem_cons.2 ⟨(Or.inr (Nat.le_refl w132.heap.size)), (List.forall_mem_cons.2 ⟨(Or.inl (List.mem_cons_self ..)), (List.forall_mem_cons.2 ⟨(Or.inl (List.mem_cons_of_mem _ (List.mem_cons_self ..))), (fun _ h => nomatch h)⟩)⟩)⟩)) hW143 (List.mem_cons_self ..) (by have := HG148.out; have := Z0.out; omega)
  have XL164 := Lib.hid (xlt_set XL151.out hW143)
  have HX165 := Lib.hid (blk_other (blk_at HX102.out (kept_trans Kk114.out (kept_trans Kk123.out (kept_trans Kk131.out (kept_trans Kk139.out Kk147.out))))) hW143 (by have := AP149.out; omega))
  have HX166 := Lib.hid (blk_other (blk_at HX103.out (kept_trans Kk114.out (kept_trans Kk123.out (kept_trans Kk131.out (kept_trans Kk139.out Kk147.out))))) hW143 (by have := AP150.out; omega))
  have HX167 := Lib.hid (blk_same Hx144.out hW143)
  (try clear ld104)
  (try clear ld105)
  clear hW143
  have ld168 := partN_cell (r := V0.heap.size) HX165.out trivial 0 (.int .i64 1) Hhd26.out
  have ld169 := partN_cell (r := V0.heap.size) HX165.out trivial 11 (.int .i64 2) Hhd27.out
  have ld170 := partN_cell (r := V0.heap.size) HX167.out trivial 0 (.int .i64 U113.k) rfl
  have ld171 := partN_cell (r := V0.heap.size) HX167.out trivial 1 (.int .i64 U113.i) rfl
  have kvV0 : SeesN V0 V0.heap.size W143 := seesN_kept _ KB153.out
  have kvW143 : SeesN W143 V0.heap.size W143 := seesN_kept _ (kept_refl _)
  go_wp2_with fail
  clear kvV0
  clear kvW143
  refine (ls6_any 3 (Par w V0.heap.size (w132.heap.size :: (W73.heap.size :: (g21 :: []))) (fun _ => False)) _ (show I64 3 from by unfold I64; decide)).mono ?_
  rw [HU113.out]
  rintro e w172 ⟨s174, rfl, hl175, k173⟩
  obtain ⟨a176, c177, S178, rfl, -⟩ := hl175.out
  have Kk179 := Lib.hid k173
  clear k173
  have Hhl175 : Hid (LiesQ w172 (Par w V0.heap.size (w132.heap.size :: (W73.heap.size :: (g21 :: []))) (fun _ => False)) U113.kids _) := par_give hl175 (Below.size KB153.out) XL164.out
  clear hl175
  have kvV0 : SeesN V0 V0.heap.size w172 := seesN_kept _ (kept_trans KB153.out Kk179.out)
  have kvW143 : SeesN W143 V0.heap.size w172 := seesN_kept _ Kk179.out
  go_wp2_with fail
  clear kvV0
  clear kvW143
  refine (ls6_any 4 (Par w V0.heap.size (w132.heap.size :: (W73.heap.size :: (g21 :: []))) (fun _ => False)) _ (show I64 4 from by unfold I64; decide)).mono ?_
  rw [HU122.out]
  rintro e w180 ⟨s182, rfl, hl183, k181⟩
  obtain ⟨a184, c185, S186, rfl, -⟩ := hl183.out
  have Kk187 := Lib.hid k181
  clear k181
  have Hhl183 : Hid (LiesQ w180 (Par w V0.heap.size (w132.heap.size :: (W73.heap.size :: (g21 :: []))) (fun _ => False)) U122.kids _) := par_give hl183 (Below.size (kept_trans KB153.out Kk179.out)) (xlt_later XL164.out Kk179.out)
  clear hl183
  have kvV0 : SeesN V0 V0.heap.size w180 := seesN_kept _ (kept_trans KB153.out (kept_trans Kk179.out Kk187.out))
  have kvW143 : SeesN W143 V0.heap.size w180 := seesN_kept _ (kept_trans Kk179.out Kk187.out)
  go_wp2_with fail
  clear kvV0
  clear kvW143
  refine (ls6_any 5 (Par w V0.heap.size (w132.heap.size :: (W73.heap.size :: (g21 :: []))) (fun _ => False)) _ (show I64 5 from by unfold I64; decide)).mono ?_
  obtain ⟨U195, hU195⟩ : ∃ qu, sortT 5 = qu := ⟨_, rfl⟩
  rw [hU195]
  have HU195 := Lib.hid hU195
  clear hU195
  rintro e w188 ⟨s190, rfl, hl191, k189⟩
  obtain ⟨a192, c193, S194, rfl, -⟩ := hl191.out
  have Kk196 := Lib.hid k189
  clear k189
  have Hhl191 : Hid (LiesQ w188 (Par w V0.heap.size (w132.heap.size :: (W73.heap.size :: (g21 :: []))) (fun _ => False)) U195.kids _) := par_give hl191 (Below.size (kept_trans KB153.out (kept_trans Kk179.out Kk187.out))) (xlt_later XL164.out (kept_trans Kk179.out Kk187.out))
  clear hl191
  have kvV0 : SeesN V0 V0.heap.size w188 := seesN_kept _ (kept_trans KB153.out (kept_trans Kk179.out (kept_trans Kk187.out Kk196.out)))
  have kvW143 : SeesN W143 V0.heap.size w188 := seesN_kept _ (kept_trans Kk179.out (kept_trans Kk187.out Kk196.out))
  go_wp2_with fail
  clear kvV0
  clear kvW143
  refine (as_no 0 U113 U122 U195 (Par w V0.heap.size (w132.heap.size :: (W73.heap.size :: (g21 :: []))) (fun _ => False)) w188 ((.slice a176 U113.kids.length c177)) ((.slice a184 U122.kids.length c185)) ((.slice a192 U195.kids.length c193)) (by unfold I64; decide) (by rw [← HU113.out]; exact (sort_fine6 (show I64 3 from by unfold I64; decide))) (Hhl175.out.later (kept_trans Kk187.out Kk196.out)) (by rw [← HU122.out]; exact (sort_fine6 (show I64 4 from by unfold I64; decide))) (Hhl183.out.later Kk196.out) (by rw [← HU195.out]; exact (sort_fine6 (show I64 5 from by unfold I64; decide))) Hhl191.out (by rw [← HU113.out]; exact d_m3) (by rw [← HU122.out, ← HU195.out]; exact d_r45)).mono ?_
  rintro e w197 ⟨s200, rfl, hl199, k198⟩
  obtain ⟨a201, c202, S203, rfl, -⟩ := hl199.out
  have Kk204 := Lib.hid k198
  clear k198
  have Hhl199 : Hid (LiesQ w197 (Par w V0.heap.size (w132.heap.size :: (W73.heap.size :: (g21 :: []))) (fun _ => False)) Tm.zero.kids _) := par_give hl199 (Below.size (kept_trans KB153.out (kept_trans Kk179.out (kept_trans Kk187.out Kk196.out)))) (xlt_later XL164.out (kept_trans Kk179.out (kept_trans Kk187.out Kk196.out)))
  clear hl199
  have kvV0 : SeesN V0 V0.heap.size w197 := seesN_kept _ (kept_trans KB153.out (kept_trans Kk179.out (kept_trans Kk187.out (kept_trans Kk196.out Kk204.out))))
  have kvW143 : SeesN W143 V0.heap.size w197 := seesN_kept _ (kept_trans Kk179.out (kept_trans Kk187.out (kept_trans Kk196.out Kk204.out)))
  go_wp2_with (refine stop_store 25 (.tmp 5) (.tmp 29) rfl ?_)
  intro _
  refine wpList_store_part_n (by rfl) 25 (.tmp 5) (.tmp 29) rfl (w197.heap.size) 0 #[.int .i64 Tm.zero.k, .int .i64 Tm.zero.i, .int .i64 Tm.zero.j, .int .i64 Tm.zero.n, (.slice a201 Tm.zero.kids.length c202)] (by rfl) (by rfl) 25 size_term (row_ok rfl) ?_
  intro W205 hW205
  clear kvV0
  clear kvW143
  obtain ⟨k208, x207, z209⟩ := alloc1 hW205
  have Kk210 := Lib.hid k208
  clear k208
  have Hx207 := Lib.hid x207
  have Hz209 := Lib.hid z209
  clear x207 z209 hW205
  have HG211 : Hid (V0.heap.size ≤ w197.heap.size) := (Below.size (kept_trans KB153.out (kept_trans Kk179.out (kept_trans Kk187.out (kept_trans Kk196.out Kk204.out)))))
  have AP212 : Hid (g21 < w197.heap.size) := block_lt (blk_at HX165.out (kept_trans Kk179.out (kept_trans Kk187.out (kept_trans Kk196.out Kk204.out))))
  have AP213 : Hid (W73.heap.size < w197.heap.size) := block_lt (blk_at HX166.out (kept_trans Kk179.out (kept_trans Kk187.out (kept_trans Kk196.out Kk204.out))))
  have AP214 : Hid (w132.heap.size < w197.heap.size) := block_lt (blk_at HX167.out (kept_trans Kk179.out (kept_trans Kk187.out (kept_trans Kk196.out Kk204.out))))
  have XL215 : Hid (XLt (w197.heap.size :: (w132.heap.size :: (W73.heap.size :: (g21 :: [])))) W205) := (xlt_more (xlt_later XL164.out (kept_trans Kk179.out (kept_trans Kk187.out (kept_trans Kk196.out Kk204.out)))) Kk210.out (by have := Hz209.out; omega))
  refine ⟨_, #[.int .i64 Tm.zero.k, .int .i64 Tm.zero.i, .int .i64 Tm.zero.j, .int .i64 Tm.zero.n, (.slice a201 Tm.zero.kids.length c202)], Hx207.out, rfl, Nat.le_of_ble_eq_true rfl, ?_⟩
  intro W206 hW206
  have KB216 := Lib.hid (kept_set (kept_trans KB152.out (kept_trans Kk179.out (kept_trans Kk187.out (kept_trans Kk196.out (kept_trans Kk204.out Kk210.out))))) hW206 (by have := HG211.out; have := Z0.out; omega))
  have KB217 := Lib.hid (kept_set (kept_trans KB153.out (kept_trans Kk179.out (kept_trans Kk187.out (kept_trans Kk196.out (kept_trans Kk204.out Kk210.out))))) hW206 HG211.out)
  have HL218 : Hid (LiesQ W206 (Par w V0.heap.size (w197.heap.size :: (w132.heap.size :: (W73.heap.size :: (g21 :: [])))) (fun _ => False)) U11.kids _) := par_set (par_grow HL154.out (kept_trans Kk179.out (kept_trans Kk187.out (kept_trans Kk196.out (kept_trans Kk204.out Kk210.out)))) (List.forall_mem_cons.2 ⟨(Or.inr (Nat.le_trans (Below.size (kept_trans Kk179.out (kept_trans Kk187.out (kept_trans Kk196.out Kk204.out)))) (Nat.le_refl w197.heap.size))), (List.forall_mem_cons.2 ⟨(Or.inl (List.mem_cons_self ..)), (List.forall_mem_cons.2 ⟨(Or.inl (List.mem_cons_of_mem _ (List.mem_cons_self ..))), (List.forall_mem_cons.2 ⟨(Or.inl (List.mem_cons_of_mem _ (List.mem_cons_of_mem _ (List.mem_cons_self ..)))), (fun _ h => nomatch h)⟩)⟩)⟩)⟩)) hW206 (List.mem_cons_self ..) (by have := HG211.out; have := Z0.out; omega)
  have HL219 : Hid (LiesQ W206 (Par w V0.heap.size (w197.heap.size :: (w132.heap.size :: (W73.heap.size :: (g21 :: [])))) (fun _ => False)) U42.kids _) := par_set (par_grow HL155.out (kept_trans Kk179.out (kept_trans Kk187.out (kept_trans Kk196.out (kept_trans Kk204.out Kk210.out)))) (List.forall_mem_cons.2 ⟨(Or.inr (Nat.le_trans (Below.size (kept_trans Kk179.out (kept_trans Kk187.out (kept_trans Kk196.out Kk204.out)))) (Nat.le_refl w197.heap.size))), (List.forall_mem_cons.2 ⟨(Or.inl (List.mem_cons_self ..)), (List.forall_mem_cons.2 ⟨(Or.inl (List.mem_cons_of_mem _ (List.mem_cons_self ..))), (List.forall_mem_cons.2 ⟨(Or.inl (List.mem_cons_of_mem _ (List.mem_cons_of_mem _ (List.mem_cons_self ..)))), (fun _ h => nomatch h)⟩)⟩)⟩)⟩)) hW206 (List.mem_cons_self ..) (by have := HG211.out; have := Z0.out; omega)
  have HL220 : Hid (LiesQ W206 (Par w V0.heap.size (w197.heap.size :: (w132.heap.size :: (W73.heap.size :: (g21 :: [])))) (fun _ => False)) U51.kids _) := par_set (par_grow HL156.out (kept_trans Kk179.out (kept_trans Kk187.out (kept_trans Kk196.out (kept_trans Kk204.out Kk210.out)))) (List.forall_mem_cons.2 ⟨(Or.inr (Nat.le_trans (Below.size (kept_trans Kk179.out (kept_trans Kk187.out (kept_trans Kk196.out Kk204.out)))) (Nat.le_refl w197.heap.size))), (List.forall_mem_cons.2 ⟨(Or.inl (List.mem_cons_self ..)), (List.forall_mem_cons.2 ⟨(Or.inl (List.mem_cons_of_mem _ (List.mem_cons_self ..))), (List.forall_mem_cons.2 ⟨(Or.inl (List.mem_cons_of_mem _ (List.mem_cons_of_mem _ (List.mem_cons_self ..)))), (fun _ h => nomatch h)⟩)⟩)⟩)⟩)) hW206 (List.mem_cons_self ..) (by have := HG211.out; have := Z0.out; omega)
  have HL221 : Hid (LiesQ W206 (Par w V0.heap.size (w197.heap.size :: (w132.heap.size :: (W73.heap.size :: (g21 :: [])))) (fun _ => False)) U60.kids _) := par_set (par_grow HL157.out (kept_trans Kk179.out (kept_trans Kk187.out (kept_trans Kk196.out (kept_trans Kk204.out Kk210.out)))) (List.forall_mem_cons.2 ⟨(Or.inr (Nat.le_trans (Below.size (kept_trans Kk179.out (kept_trans Kk187.out (kept_trans Kk196.out Kk204.out)))) (Nat.le_refl w197.heap.size))), (List.forall_mem_cons.2 ⟨(Or.inl (List.mem_cons_self ..)), (List.forall_mem_cons.2 ⟨(Or.inl (List.mem_cons_of_mem _ (List.mem_cons_self ..))), (List.forall_mem_cons.2 ⟨(Or.inl (List.mem_cons_of_mem _ (List.mem_cons_of_mem _ (List.mem_cons_self ..)))), (fun _ h => nomatch h)⟩)⟩)⟩)⟩)) hW206 (List.mem_cons_self ..) (by have := HG211.out; have := Z0.out; omega)
  have HL222 : Hid (LiesQ W206 (Par w V0.heap.size (w197.heap.size :: (w132.heap.size :: (W73.heap.size :: (g21 :: [])))) (fun _ => False)) U69.kids _) := par_set (par_grow HL158.out (kept_trans Kk179.out (kept_trans Kk187.out (kept_trans Kk196.out (kept_trans Kk204.out Kk210.out)))) (List.forall_mem_cons.2 ⟨(Or.inr (Nat.le_trans (Below.size (kept_trans Kk179.out (kept_trans Kk187.out (kept_trans Kk196.out Kk204.out)))) (Nat.le_refl w197.heap.size))), (List.forall_mem_cons.2 ⟨(Or.inl (List.mem_cons_self ..)), (List.forall_mem_cons.2 ⟨(Or.inl (List.mem_cons_of_mem _ (List.mem_cons_self ..))), (List.forall_mem_cons.2 ⟨(Or.inl (List.mem_cons_of_mem _ (List.mem_cons_of_mem _ (List.mem_cons_self ..)))), (fun _ h => nomatch h)⟩)⟩)⟩)⟩)) hW206 (List.mem_cons_self ..) (by have := HG211.out; have := Z0.out; omega)
  have HL223 : Hid (LiesQ W206 (Par w V0.heap.size (w197.heap.size :: (w132.heap.size :: (W73.heap.size :: (g21 :: [])))) (fun _ => False)) [U42, U51, U60, U69] _) := par_set (par_grow HL159.out (kept_trans Kk179.out (kept_trans Kk187.out (kept_trans Kk196.out (kept_trans Kk204.out Kk210.out)))) (List.forall_mem_cons.2 ⟨(Or.inr (Nat.le_trans (Below.size (kept_trans Kk179.out (kept_trans Kk187.out (kept_trans Kk196.out Kk204.out)))) (Nat.le_refl w197.heap.size))), (List.forall_mem_cons.2 ⟨(Or.inl (List.mem_cons_self ..)), (List.forall_mem_cons.2 ⟨(Or.inl (List.mem_cons_of_mem _ (List.mem_cons_self ..))), (List.forall_mem_cons.2 ⟨(Or.inl (List.mem_cons_of_mem _ (List.mem_cons_of_mem _ (List.mem_cons_self ..)))), (fun _ h => nomatch h)⟩)⟩)⟩)⟩)) hW206 (List.mem_cons_self ..) (by have := HG211.out; have := Z0.out; omega)
  have HL224 : Hid (LiesQ W206 (Par w V0.heap.size (w197.heap.size :: (w132.heap.size :: (W73.heap.size :: (g21 :: [])))) (fun _ => False)) U113.kids _) := par_set (par_grow HL160.out (kept_trans Kk179.out (kept_trans Kk187.out (kept_trans Kk196.out (kept_trans Kk204.out Kk210.out)))) (List.forall_mem_cons.2 ⟨(Or.inr (Nat.le_trans (Below.size (kept_trans Kk179.out (kept_trans Kk187.out (kept_trans Kk196.out Kk204.out)))) (Nat.le_refl w197.heap.size))), (List.forall_mem_cons.2 ⟨(Or.inl (List.mem_cons_self ..)), (List.forall_mem_cons.2 ⟨(Or.inl (List.mem_cons_of_mem _ (List.mem_cons_self ..))), (List.forall_mem_cons.2 ⟨(Or.inl (List.mem_cons_of_mem _ (List.mem_cons_of_mem _ (List.mem_cons_self ..)))), (fun _ h => nomatch h)⟩)⟩)⟩)⟩)) hW206 (List.mem_cons_self ..) (by have := HG211.out; have := Z0.out; omega)
  have HL225 : Hid (LiesQ W206 (Par w V0.heap.size (w197.heap.size :: (w132.heap.size :: (W73.heap.size :: (g21 :: [])))) (fun _ => False)) U122.kids _) := par_set (par_grow HL161.out (kept_trans Kk179.out (kept_trans Kk187.out (kept_trans Kk196.out (kept_trans Kk204.out Kk210.out)))) (List.forall_mem_cons.2 ⟨(Or.inr (Nat.le_trans (Below.size (kept_trans Kk179.out (kept_trans Kk187.out (kept_trans Kk196.out Kk204.out)))) (Nat.le_refl w197.heap.size))), (List.forall_mem_cons.2 ⟨(Or.inl (List.mem_cons_self ..)), (List.forall_mem_cons.2 ⟨(Or.inl (List.mem_cons_of_mem _ (List.mem_cons_self ..))), (List.forall_mem_cons.2 ⟨(Or.inl (List.mem_cons_of_mem _ (List.mem_cons_of_mem _ (List.mem_cons_self ..)))), (fun _ h => nomatch h)⟩)⟩)⟩)⟩)) hW206 (List.mem_cons_self ..) (by have := HG211.out; have := Z0.out; omega)
  have HL226 : Hid (LiesQ W206 (Par w V0.heap.size (w197.heap.size :: (w132.heap.size :: (W73.heap.size :: (g21 :: [])))) (fun _ => False)) U122.kids _) := par_set (par_grow HL162.out (kept_trans Kk179.out (kept_trans Kk187.out (kept_trans Kk196.out (kept_trans Kk204.out Kk210.out)))) (List.forall_mem_cons.2 ⟨(Or.inr (Nat.le_trans (Below.size (kept_trans Kk179.out (kept_trans Kk187.out (kept_trans Kk196.out Kk204.out)))) (Nat.le_refl w197.heap.size))), (List.forall_mem_cons.2 ⟨(Or.inl (List.mem_cons_self ..)), (List.forall_mem_cons.2 ⟨(Or.inl (List.mem_cons_of_mem _ (List.mem_cons_self ..))), (List.forall_mem_cons.2 ⟨(Or.inl (List.mem_cons_of_mem _ (List.mem_cons_of_mem _ (List.mem_cons_self ..)))), (fun _ h => nomatch h)⟩)⟩)⟩)⟩)) hW206 (List.mem_cons_self ..) (by have := HG211.out; have := Z0.out; omega)
  have HL227 : Hid (LiesQ W206 (Par w V0.heap.size (w197.heap.size :: (w132.heap.size :: (W73.heap.size :: (g21 :: [])))) (fun _ => False)) U113.kids _) := par_set (par_grow HL163.out (kept_trans Kk179.out (kept_trans Kk187.out (kept_trans Kk196.out (kept_trans Kk204.out Kk210.out)))) (List.forall_mem_cons.2 ⟨(Or.inr (Nat.le_trans (Below.size (kept_trans Kk179.out (kept_trans Kk187.out (kept_trans Kk196.out Kk204.out)))) (Nat.le_refl w197.heap.size))), (List.forall_mem_cons.2 ⟨(Or.inl (List.mem_cons_self ..)), (List.forall_mem_cons.2 ⟨(Or.inl (List.mem_cons_of_mem _ (List.mem_cons_self ..))), (List.forall_mem_cons.2 ⟨(Or.inl (List.mem_cons_of_mem _ (List.mem_cons_of_mem _ (List.mem_cons_self ..)))), (fun _ h => nomatch h)⟩)⟩)⟩)⟩)) hW206 (List.mem_cons_self ..) (by have := HG211.out; have := Z0.out; omega)
  have HL228 : Hid (LiesQ W206 (Par w V0.heap.size (w197.heap.size :: (w132.heap.size :: (W73.heap.size :: (g21 :: [])))) (fun _ => False)) U113.kids _) := par_set (par_grow Hhl175.out (kept_trans Kk187.out (kept_trans Kk196.out (kept_trans Kk204.out Kk210.out))) (List.forall_mem_cons.2 ⟨(Or.inr (Nat.le_trans (Below.size (kept_trans Kk187.out (kept_trans Kk196.out Kk204.out))) (Nat.le_refl w197.heap.size))), (List.forall_mem_cons.2 ⟨(Or.inl (List.mem_cons_self ..)), (List.forall_mem_cons.2 ⟨(Or.inl (List.mem_cons_of_mem _ (List.mem_cons_self ..))), (List.forall_mem_cons.2 ⟨(Or.inl (List.mem_cons_of_mem _ (List.mem_cons_of_mem _ (List.mem_cons_self ..)))), (fun _ h => nomatch h)⟩)⟩)⟩)⟩)) hW206 (List.mem_cons_self ..) (by have := HG211.out; have := Z0.out; omega)
  have HL229 : Hid (LiesQ W206 (Par w V0.heap.size (w197.heap.size :: (w132.heap.size :: (W73.heap.size :: (g21 :: [])))) (fun _ => False)) U122.kids _) := par_set (par_grow Hhl183.out (kept_trans Kk196.out (kept_trans Kk204.out Kk210.out)) (List.forall_mem_cons.2 ⟨(Or.inr (Nat.le_trans (Below.size (kept_trans Kk196.out Kk204.out)) (Nat.le_refl w197.heap.size))), (List.forall_mem_cons.2 ⟨(Or.inl (List.mem_cons_self ..)), (List.forall_mem_cons.2 ⟨(Or.inl (List.mem_cons_of_mem _ (List.mem_cons_self ..))), (List.forall_mem_cons.2 ⟨(Or.inl (List.mem_cons_of_mem _ (List.mem_cons_of_mem _ (List.mem_cons_self ..)))), (fun _ h => nomatch h)⟩)⟩)⟩)⟩)) hW206 (List.mem_cons_self ..) (by have := HG211.out; have := Z0.out; omega)
  have HL230 : Hid (LiesQ W206 (Par w V0.heap.size (w197.heap.size :: (w132.heap.size :: (W73.heap.size :: (g21 :: [])))) (fun _ => False)) U195.kids _) := par_set (par_grow Hhl191.out (kept_trans Kk204.out Kk210.out) (List.forall_mem_cons.2 ⟨(Or.inr (Nat.le_trans (Below.size Kk204.out) (Nat.le_refl w197.heap.size))), (List.forall_mem_cons.2 ⟨(Or.inl (List.mem_cons_self ..)), (List.forall_mem_cons.2 ⟨(Or.inl (List.mem_cons_of_mem _ (List.mem_cons_self ..))), (List.forall_mem_cons.2 ⟨(Or.inl (List.mem_cons_of_mem _ (List.mem_cons_of_mem _ (List.mem_cons_self ..)))), (fun _ h => nomatch h)⟩)⟩)⟩)⟩)) hW206 (List.mem_cons_self ..) (by have := HG211.out; have := Z0.out; omega)
  have HL231 : Hid (LiesQ W206 (Par w V0.heap.size (w197.heap.size :: (w132.heap.size :: (W73.heap.size :: (g21 :: [])))) (fun _ => False)) Tm.zero.kids _) := par_set (par_grow Hhl199.out Kk210.out (List.forall_mem_cons.2 ⟨(Or.inr (Nat.le_refl w197.heap.size)), (List.forall_mem_cons.2 ⟨(Or.inl (List.mem_cons_self ..)), (List.forall_mem_cons.2 ⟨(Or.inl (List.mem_cons_of_mem _ (List.mem_cons_self ..))), (List.forall_mem_cons.2 ⟨(Or.inl (List.mem_cons_of_mem _ (List.mem_cons_of_mem _ (List.mem_cons_self ..)))), (fun _ h => nomatch h)⟩)⟩)⟩)⟩)) hW206 (List.mem_cons_self ..) (by have := HG211.out; have := Z0.out; omega)
  have XL232 := Lib.hid (xlt_set XL215.out hW206)
  have HX233 := Lib.hid (blk_other (blk_at HX165.out (kept_trans Kk179.out (kept_trans Kk187.out (kept_trans Kk196.out (kept_trans Kk204.out Kk210.out))))) hW206 (by have := AP212.out; omega))
  have HX234 := Lib.hid (blk_other (blk_at HX166.out (kept_trans Kk179.out (kept_trans Kk187.out (kept_trans Kk196.out (kept_trans Kk204.out Kk210.out))))) hW206 (by have := AP213.out; omega))
  have HX235 := Lib.hid (blk_other (blk_at HX167.out (kept_trans Kk179.out (kept_trans Kk187.out (kept_trans Kk196.out (kept_trans Kk204.out Kk210.out))))) hW206 (by have := AP214.out; omega))
  have HX236 := Lib.hid (blk_same Hx207.out hW206)
  (try clear ld168)
  (try clear ld169)
  (try clear ld170)
  (try clear ld171)
  clear hW206
  have ld237 := partN_cell (r := V0.heap.size) HX233.out trivial 0 (.int .i64 1) Hhd26.out
  have ld238 := partN_cell (r := V0.heap.size) HX233.out trivial 11 (.int .i64 2) Hhd27.out
  have ld239 := partN_cell (r := V0.heap.size) HX235.out trivial 0 (.int .i64 U113.k) rfl
  have ld240 := partN_cell (r := V0.heap.size) HX235.out trivial 1 (.int .i64 U113.i) rfl
  have kvV0 : SeesN V0 V0.heap.size W206 := seesN_kept _ KB217.out
  have kvW206 : SeesN W206 V0.heap.size W206 := seesN_kept _ (kept_refl _)
  go_wp2_with (refine stop_load 25 (.tmp 2) rfl ?_)
  intro _
  refine wpList_load_part (W73.heap.size) 0 25 (.tmp 2) #[.int .i64 12, .int .i64 0, .int .i64 0, .int .i64 0, (.slice (some ⟨w62.heap.size, 0, none⟩) 4 4)] du HX234.out (by rfl) rfl (by rfl) (by rfl) hu1 (by cases du <;> first | rfl | exact hu2) size_term ?_
  go_wp2_with fail
  clear kvV0
  clear kvW206
  have hq243 := (head_any (.mk 12 0 0 0 [U42, U51, U60, U69]) W206 ((.slice (some ⟨w62.heap.size, 0, none⟩) 4 4)) HL223.out.lies (by rw [← HU42.out]; rw [← HU51.out]; rw [← HU60.out]; rw [← HU69.out]; decide)).mono (fun _ _ h => h.givesP (P := (Par w V0.heap.size (w197.heap.size :: (w132.heap.size :: (W73.heap.size :: (g21 :: [])))) (fun _ => False))))
  rw [show Tm.headB (.mk 12 0 0 0 [U42, U51, U60, U69]) = varT 0 from by rw [← HU42.out]; rw [← HU51.out]; rw [← HU60.out]; rw [← HU69.out]; exact d_head] at hq243
  refine hq243.mono ?_
  clear hq243
  rw [HU69.out]
  rintro e w241 ⟨s244, rfl, hl245, k242⟩
  obtain ⟨a246, c247, S248, rfl, -⟩ := hl245.out
  have Kk249 := Lib.hid k242
  clear k242
  have Hhl245 : Hid (LiesQ w241 (Par w V0.heap.size (w197.heap.size :: (w132.heap.size :: (W73.heap.size :: (g21 :: [])))) (fun _ => False)) U69.kids _) := par_give hl245 (Below.size KB217.out) XL232.out
  clear hl245
  (try unfold tv)
  have fd250 : ∀ w', (Instr.field 25 (.agg #[.int .i64 U69.k, .int .i64 U69.i, .int .i64 U69.j, .int .i64 U69.n, (.slice a246 U69.kids.length c247)]) 0).run Tryz.prog w' = .ok (.int .i64 U69.k) w' := fun w' => field_term0 (.int .i64 U69.k) (.int .i64 U69.i) (.int .i64 U69.j) (.int .i64 U69.n) (.slice a246 U69.kids.length c247) w'
  have kf251 : (U69.k == 2) = true := by rw [← HU69.out]; first | rfl | decide
  have kvV0 : SeesN V0 V0.heap.size w241 := seesN_kept _ (kept_trans KB217.out Kk249.out)
  have kvW206 : SeesN W206 V0.heap.size w241 := seesN_kept _ Kk249.out
  go_wp2
  go_ret
  exact ⟨rfl, (kept_trans KB216.out Kk249.out)⟩

end Go.Proofs.YtgododpkbiaacaaGreat

namespace Go.Proofs.YtgododpkbiaacaaGreat
open Go.RowKit

def shapeHeadsTr4_0 : Oper := { dst := some 14, op := Go.Op.fieldAddr 25 (Go.Operand.tmp 3) 0, type := 0, pos := "law.go:61", after := #[], guard := none }
def shapeHeadsTr4_1 : Oper := { dst := some 15, op := Go.Op.load 3 (Go.Operand.tmp 14), type := 3, pos := "law.go:61", after := #[{ on := 0, ground := Go.Ground.data }], guard := none }
def shapeHeadsTr4_2 : Oper := { dst := some 16, op := Go.Op.binOp Go.BinOp.neq 3 (Go.Operand.tmp 15) (Go.Operand.const (Go.Value.int Go.IntKind.i64 12)) 3, type := 4, pos := "law.go:61", after := #[{ on := 1, ground := Go.Ground.data }], guard := none }
def shapeHeadsTr4_3 : Oper := { dst := some 17, op := Go.Op.move (Go.Operand.tmp 16), type := 4, pos := "law.go:61", after := #[{ on := 2, ground := Go.Ground.data }], guard := none }
def shapeHeadsTr4_4 : Oper := { dst := some 18, op := Go.Op.load 25 (Go.Operand.tmp 3), type := 25, pos := "law.go:61", after := #[{ on := 3, ground := Go.Ground.guard }], guard := some (3, true) }
def shapeHeadsTr4_5 : Oper := { dst := some 19, op := Go.Op.load 25 (Go.Operand.tmp 1), type := 25, pos := "law.go:61", after := #[{ on := 3, ground := Go.Ground.guard }], guard := some (3, true) }
def shapeHeadsTr4_6 : Oper := { dst := some 20, op := Go.Op.call { callee := Go.Callee.value (Go.Operand.func 14), args := #[Go.Operand.tmp 18, Go.Operand.tmp 19], argTypes := #[25, 25] }, type := 4, pos := "law.go:61", after := #[{ on := 4, ground := Go.Ground.data }, { on := 5, ground := Go.Ground.data }, { on := 3, ground := Go.Ground.chain }, { on := 3, ground := Go.Ground.guard }], guard := some (3, true) }
def shapeHeadsTr4_7 : Oper := { dst := some 21, op := Go.Op.pick (Go.Operand.tmp 17) (Go.Operand.tmp 20) (Go.Operand.const (Go.Value.bool false)), type := 4, pos := "law.go:61", after := #[{ on := 3, ground := Go.Ground.data }, { on := 6, ground := Go.Ground.data }], guard := none }
def shapeHeadsTr4_8 : Oper := { dst := some 22, op := Go.Op.move (Go.Operand.tmp 21), type := 4, pos := "law.go:61", after := #[{ on := 7, ground := Go.Ground.data }, { on := 6, ground := Go.Ground.chain }], guard := none }
def shapeHeadsTr4_9 : Oper := { dst := some 23, op := Go.Op.load 25 (Go.Operand.tmp 3), type := 25, pos := "law.go:61", after := #[{ on := 8, ground := Go.Ground.guard }], guard := some (8, true) }
def shapeHeadsTr4_10 : Oper := { dst := some 24, op := Go.Op.call { callee := Go.Callee.value (Go.Operand.func 15), args := #[Go.Operand.tmp 23], argTypes := #[25] }, type := 3, pos := "law.go:61", after := #[{ on := 9, ground := Go.Ground.data }, { on := 8, ground := Go.Ground.chain }, { on := 8, ground := Go.Ground.guard }], guard := some (8, true) }
def shapeHeadsTr4_11 : Oper := { dst := some 25, op := Go.Op.load 25 (Go.Operand.tmp 1), type := 25, pos := "law.go:61", after := #[{ on := 8, ground := Go.Ground.guard }], guard := some (8, true) }
def shapeHeadsTr4_12 : Oper := { dst := some 26, op := Go.Op.call { callee := Go.Callee.value (Go.Operand.func 15), args := #[Go.Operand.tmp 25], argTypes := #[25] }, type := 3, pos := "law.go:61", after := #[{ on := 11, ground := Go.Ground.data }, { on := 10, ground := Go.Ground.chain }, { on := 8, ground := Go.Ground.guard }], guard := some (8, true) }
def shapeHeadsTr4_13 : Oper := { dst := some 27, op := Go.Op.binOp Go.BinOp.leq 3 (Go.Operand.tmp 24) (Go.Operand.tmp 26) 3, type := 4, pos := "law.go:61", after := #[{ on := 10, ground := Go.Ground.data }, { on := 12, ground := Go.Ground.data }, { on := 8, ground := Go.Ground.guard }], guard := some (8, true) }
def shapeHeadsTr4_14 : Oper := { dst := some 28, op := Go.Op.pick (Go.Operand.tmp 22) (Go.Operand.tmp 27) (Go.Operand.const (Go.Value.bool false)), type := 4, pos := "law.go:61", after := #[{ on := 8, ground := Go.Ground.data }, { on := 13, ground := Go.Ground.data }], guard := none }
def shapeHeadsTr4_15 : Oper := { dst := some 29, op := Go.Op.move (Go.Operand.tmp 28), type := 4, pos := "law.go:61", after := #[{ on := 14, ground := Go.Ground.data }, { on := 12, ground := Go.Ground.chain }], guard := none }
def shapeHeadsTr4_16 : Oper := { dst := some 30, op := Go.Op.fieldAddr 25 (Go.Operand.tmp 1) 0, type := 0, pos := "law.go:61", after := #[{ on := 15, ground := Go.Ground.guard }], guard := some (15, true) }
def shapeHeadsTr4_17 : Oper := { dst := some 31, op := Go.Op.load 3 (Go.Operand.tmp 30), type := 3, pos := "law.go:61", after := #[{ on := 16, ground := Go.Ground.data }, { on := 15, ground := Go.Ground.guard }], guard := some (15, true) }
def shapeHeadsTr4_18 : Oper := { dst := some 32, op := Go.Op.binOp Go.BinOp.eql 3 (Go.Operand.tmp 31) (Go.Operand.const (Go.Value.int Go.IntKind.i64 12)) 3, type := 4, pos := "law.go:61", after := #[{ on := 17, ground := Go.Ground.data }, { on := 15, ground := Go.Ground.guard }], guard := some (15, true) }
def shapeHeadsTr4_19 : Oper := { dst := some 33, op := Go.Op.move (Go.Operand.tmp 32), type := 4, pos := "law.go:61", after := #[{ on := 18, ground := Go.Ground.data }, { on := 15, ground := Go.Ground.chain }, { on := 15, ground := Go.Ground.guard }], guard := some (15, true) }
def shapeHeadsTr4_20 : Oper := { dst := some 34, op := Go.Op.load 25 (Go.Operand.tmp 3), type := 25, pos := "law.go:61", after := #[{ on := 19, ground := Go.Ground.guard }], guard := some (19, false) }
def shapeHeadsTr4_21 : Oper := { dst := some 35, op := Go.Op.load 25 (Go.Operand.tmp 1), type := 25, pos := "law.go:61", after := #[{ on := 19, ground := Go.Ground.guard }], guard := some (19, false) }
def shapeHeadsTr4_22 : Oper := { dst := some 36, op := Go.Op.call { callee := Go.Callee.value (Go.Operand.func 8), args := #[Go.Operand.tmp 34, Go.Operand.tmp 35], argTypes := #[25, 25] }, type := 4, pos := "law.go:61", after := #[{ on := 20, ground := Go.Ground.data }, { on := 21, ground := Go.Ground.data }, { on := 19, ground := Go.Ground.chain }, { on := 19, ground := Go.Ground.guard }], guard := some (19, false) }
def shapeHeadsTr4_23 : Oper := { dst := some 37, op := Go.Op.pick (Go.Operand.tmp 33) (Go.Operand.const (Go.Value.bool true)) (Go.Operand.tmp 36), type := 4, pos := "law.go:61", after := #[{ on := 19, ground := Go.Ground.data }, { on := 22, ground := Go.Ground.data }, { on := 15, ground := Go.Ground.guard }], guard := some (15, true) }
def shapeHeadsTr4_24 : Oper := { dst := some 38, op := Go.Op.pick (Go.Operand.tmp 29) (Go.Operand.tmp 37) (Go.Operand.const (Go.Value.bool false)), type := 4, pos := "law.go:61", after := #[{ on := 15, ground := Go.Ground.data }, { on := 23, ground := Go.Ground.data }], guard := none }
def shapeHeadsTr4_25 : Oper := { dst := some 39, op := Go.Op.move (Go.Operand.tmp 38), type := 4, pos := "law.go:61", after := #[{ on := 24, ground := Go.Ground.data }, { on := 22, ground := Go.Ground.chain }], guard := none }
def shapeHeadsTr4_26 : Oper := { dst := some 40, op := Go.Op.call { callee := Go.Callee.value (Go.Operand.func 12), args := #[], argTypes := #[] }, type := 4, pos := "law.go:61", after := #[{ on := 25, ground := Go.Ground.chain }, { on := 25, ground := Go.Ground.guard }], guard := some (25, true) }
def shapeHeadsTr4_27 : Oper := { dst := some 41, op := Go.Op.pick (Go.Operand.tmp 39) (Go.Operand.tmp 40) (Go.Operand.const (Go.Value.bool false)), type := 4, pos := "law.go:61", after := #[{ on := 25, ground := Go.Ground.data }, { on := 26, ground := Go.Ground.data }], guard := none }
def shapeHeadsTr4_28 : Oper := { dst := some 2, op := Go.Op.assign (Go.Operand.tmp 41), type := 4, pos := "law.go:61", after := #[{ on := 27, ground := Go.Ground.data }, { on := 26, ground := Go.Ground.chain }, { on := 0, ground := Go.Ground.phase }, { on := 1, ground := Go.Ground.phase }, { on := 2, ground := Go.Ground.phase }, { on := 3, ground := Go.Ground.phase }, { on := 4, ground := Go.Ground.phase }, { on := 5, ground := Go.Ground.phase }, { on := 6, ground := Go.Ground.phase }, { on := 7, ground := Go.Ground.phase }, { on := 8, ground := Go.Ground.phase }, { on := 9, ground := Go.Ground.phase }, { on := 10, ground := Go.Ground.phase }, { on := 11, ground := Go.Ground.phase }, { on := 12, ground := Go.Ground.phase }, { on := 13, ground := Go.Ground.phase }, { on := 14, ground := Go.Ground.phase }, { on := 15, ground := Go.Ground.phase }, { on := 16, ground := Go.Ground.phase }, { on := 17, ground := Go.Ground.phase }, { on := 18, ground := Go.Ground.phase }, { on := 19, ground := Go.Ground.phase }, { on := 20, ground := Go.Ground.phase }, { on := 21, ground := Go.Ground.phase }, { on := 22, ground := Go.Ground.phase }, { on := 23, ground := Go.Ground.phase }, { on := 24, ground := Go.Ground.phase }, { on := 25, ground := Go.Ground.phase }, { on := 26, ground := Go.Ground.phase }, { on := 27, ground := Go.Ground.phase }], guard := none }
set_option maxRecDepth 20000 in
set_option maxHeartbeats 4000000 in
theorem shapeHeadsT_any (t : Tm) (P : Nat → Prop) (w : World) (st : Value) (hft : t.fine) (hlt : LiesQ w P t.kids st) (hk : t.k = 12) : Calls Tryz.prog 4 #[tv t st] w fun e w' => e = .returned (.bool true) ∧ Kept w w' := by
  have Gt := Lib.hid hft
  clear hft
  obtain ⟨a0t, ct, St, rfl, -⟩ := hlt.out
  have ek : (t.k == 12) = true := by simpa using hk
  have HK := Lib.hid hk
  clear hk
  obtain ⟨du, hu1, hu2⟩ := under_term
  unfold tv
  go_enter Tryz.func4, Tryz.ntmps4
  go_upto_region 1 with fail
  refine at_code (fun V0 hV0 => ?_)
  obtain ⟨k2, x1, z3⟩ := alloc1 hV0
  have Kk4 := Lib.hid k2
  clear k2
  have Hx1 := Lib.hid x1
  have Z0 := Lib.hid z3
  clear z3 x1 hV0
  have HLt : Hid (LiesQ V0 (Par w V0.heap.size [] P) t.kids _) := (par_in _ _ hlt).later Kk4.out
  clear hlt
  have ld5 := partN_cell (r := V0.heap.size) Hx1.out trivial 0 (.int .i64 t.k) rfl
  have kvV0 : SeesN V0 V0.heap.size V0 := seesN_kept _ (kept_refl _)
  go_wp2_with (refine stop_load 25 (.tmp 1) rfl ?_)
  intro _
  refine wpList_load_part (w.heap.size) 0 25 (.tmp 1) #[.int .i64 t.k, .int .i64 t.i, .int .i64 t.j, .int .i64 t.n, (.slice a0t t.kids.length ct)] du Hx1.out (by rfl) rfl (by rfl) (by rfl) hu1 (by cases du <;> first | rfl | exact hu2) size_term ?_
  go_wp2_with fail
  refine at_world (fun W7 hW7 => ?_)
  clear kvV0
  obtain ⟨k9, x8, z10⟩ := alloc1 hW7
  have Kk11 := Lib.hid k9
  clear k9
  have Hx8 := Lib.hid x8
  have Hz10 := Lib.hid z10
  clear x8 z10 hW7
  have HR12 := Lib.hid (q_row1 Hx8.out Gt.out (HLt.out.later Kk11.out) (par_new (Nat.le_refl _) (xlt_nil _) (Nat.le_refl _)))
  refine (lheavy6_any [t] (Par w V0.heap.size [] P) _ ((.slice (some ⟨V0.heap.size, 0, none⟩) 1 1)) HR12.out).mono ?_
  rintro e w13 ⟨gb15, rfl, hg16, k14⟩
  have Hhg16 := Lib.hid hg16
  clear hg16
  have Kk17 := Lib.hid k14
  clear k14
  cases gb15 with
  | false =>
    have HIhg16 := Lib.hid (Hhg16.out rfl)
    have kvV0 : SeesN V0 V0.heap.size w13 := seesN_kept _ (kept_trans Kk11.out Kk17.out)
    go_wp2_with (refine stop_load 25 (.tmp 1) rfl ?_)
    intro _
    refine wpList_load_part (w.heap.size) 0 25 (.tmp 1) #[.int .i64 t.k, .int .i64 t.i, .int .i64 t.j, .int .i64 t.n, (.slice a0t t.kids.length ct)] du (blk_at Hx1.out (kept_trans Kk11.out Kk17.out)) (by rfl) rfl (by rfl) (by rfl) hu1 (by cases du <;> first | rfl | exact hu2) size_term ?_
    go_wp2_with fail
    clear kvV0
    refine (refmarked_any t _ ((.slice a0t t.kids.length ct)) (HLt.out.later (kept_trans Kk11.out Kk17.out)).lies).mono ?_
    obtain ⟨rb21, hb20⟩ : ∃ qb, (t.markedB) = qb := ⟨_, rfl⟩
    rw [hb20]
    have Hhb20 := Lib.hid hb20
    clear hb20
    rintro e w18 ⟨rfl, k19⟩
    have Kk22 := Lib.hid k19
    clear k19
    cases rb21 with
    | false =>
      have kvV0 : SeesN V0 V0.heap.size w18 := seesN_kept _ (kept_trans Kk11.out (kept_trans Kk17.out Kk22.out))
      go_wp2
      go_ret
      exact ⟨rfl, (kept_trans Kk4.out (kept_trans Kk11.out (kept_trans Kk17.out Kk22.out)))⟩
    | true =>
      have kvV0 : SeesN V0 V0.heap.size w18 := seesN_kept _ (kept_trans Kk11.out (kept_trans Kk17.out Kk22.out))
      go_wp2_with (refine stop_load 25 (.tmp 1) rfl ?_)
      intro _
      refine wpList_load_part (w.heap.size) 0 25 (.tmp 1) #[.int .i64 t.k, .int .i64 t.i, .int .i64 t.j, .int .i64 t.n, (.slice a0t t.kids.length ct)] du (blk_at Hx1.out (kept_trans Kk11.out (kept_trans Kk17.out Kk22.out))) (by rfl) rfl (by rfl) (by rfl) hu1 (by cases du <;> first | rfl | exact hu2) size_term ?_
      go_wp2_with fail
      clear kvV0
      have hq25 := (head_any t w18 ((.slice a0t t.kids.length ct)) (HLt.out.later (kept_trans Kk11.out (kept_trans Kk17.out Kk22.out))).lies (Nat.le_trans (HIhg16.out.2 t (by simp)) (by decide))).mono (fun _ _ h => h.givesP (P := (Par w V0.heap.size [] P)))
      rw [show Tm.headB t = t.und from (by unfold Tm.headB; rw [if_pos Hhb20.out])] at hq25
      refine hq25.mono ?_
      clear hq25
      obtain ⟨U31, hU31⟩ : ∃ qu, (t.und) = qu := ⟨_, rfl⟩
      rw [hU31]
      have HU31 := Lib.hid hU31
      clear hU31
      rintro e w23 ⟨s26, rfl, hl27, k24⟩
      obtain ⟨a28, c29, S30, rfl, -⟩ := hl27.out
      have Kk32 := Lib.hid k24
      clear k24
      have Hhl27 : Hid (LiesQ w23 (Par w V0.heap.size [] P) U31.kids _) := par_give hl27 (Below.size (kept_trans Kk11.out (kept_trans Kk17.out Kk22.out))) (xlt_nil _)
      clear hl27
      have kf33 : Hid (U31.markedB = true ∧ U31.k ≠ 12 ∧ U31.size ≤ t.size) := by show _ ∧ _ ∧ _; rw [← HU31.out]; exact und_marked t Hhb20.out
      have kf34 : (U31.k == 12) = false := beq_eq_false_iff_ne.2 kf33.out.2.1
      have kf35 : (U31.k != 12) = true := by rw [bne, kf34]; rfl
      have kf36 : Hid (U31.countB ≤ t.countB) := by show _ ≤ _; unfold Tm.countB; rw [if_pos kf33.out.1, if_pos Hhb20.out, ← HU31.out]; exact und_count t Hhb20.out
      have kf37 : decide ((U31.countB : Int) ≤ (t.countB : Int)) = true := decide_eq_true (Int.ofNat_le.2 kf36.out)
      have kf38 : decide (U31.countB ≤ t.countB) = true := decide_eq_true kf36.out
      have kvV0 : SeesN V0 V0.heap.size w23 := seesN_kept _ (kept_trans Kk11.out (kept_trans Kk17.out (kept_trans Kk22.out Kk32.out)))
      go_wp2_with (refine stop_store 25 (.tmp 3) (.tmp 13) rfl ?_)
      intro _
      refine wpList_store_part_n (by rfl) 25 (.tmp 3) (.tmp 13) rfl (w23.heap.size) 0 #[.int .i64 U31.k, .int .i64 U31.i, .int .i64 U31.j, .int .i64 U31.n, (.slice a28 U31.kids.length c29)] (by rfl) (by rfl) 25 size_term (row_ok rfl) ?_
      intro W39 hW39
      clear kvV0
      obtain ⟨k42, x41, z43⟩ := alloc1 hW39
      have Kk44 := Lib.hid k42
      clear k42
      have Hx41 := Lib.hid x41
      have Hz43 := Lib.hid z43
      clear x41 z43 hW39
      have HG45 : Hid (V0.heap.size ≤ w23.heap.size) := (Below.size (kept_trans Kk11.out (kept_trans Kk17.out (kept_trans Kk22.out Kk32.out))))
      have XL46 : Hid (XLt (w23.heap.size :: []) W39) := (xlt_more (xlt_nil _) Kk44.out (by have := Hz43.out; omega))
      refine ⟨_, #[.int .i64 U31.k, .int .i64 U31.i, .int .i64 U31.j, .int .i64 U31.n, (.slice a28 U31.kids.length c29)], Hx41.out, rfl, Nat.le_of_ble_eq_true rfl, ?_⟩
      intro W40 hW40
      have KB47 := Lib.hid (kept_set (kept_trans Kk4.out (kept_trans Kk11.out (kept_trans Kk17.out (kept_trans Kk22.out (kept_trans Kk32.out Kk44.out))))) hW40 (by have := HG45.out; have := Z0.out; omega))
      have KB48 := Lib.hid (kept_set (kept_trans Kk11.out (kept_trans Kk17.out (kept_trans Kk22.out (kept_trans Kk32.out Kk44.out)))) hW40 HG45.out)
      have HL49 : Hid (LiesQ W40 (Par w V0.heap.size (w23.heap.size :: []) P) t.kids _) := par_set (par_grow HLt.out (kept_trans Kk11.out (kept_trans Kk17.out (kept_trans Kk22.out (kept_trans Kk32.out Kk44.out)))) (List.forall_mem_cons.2 ⟨(Or.inr (Nat.le_trans (Below.size (kept_trans Kk11.out (kept_trans Kk17.out (kept_trans Kk22.out Kk32.out)))) (Nat.le_refl w23.heap.size))), (fun _ h => nomatch h)⟩)) hW40 (List.mem_cons_self ..) (by have := HG45.out; have := Z0.out; omega)
      have HL50 : Hid (LiesQ W40 (Par w V0.heap.size (w23.heap.size :: []) P) [t] _) := par_set (par_grow HR12.out (kept_trans Kk17.out (kept_trans Kk22.out (kept_trans Kk32.out Kk44.out))) (List.forall_mem_cons.2 ⟨(Or.inr (Nat.le_trans (Below.size (kept_trans Kk17.out (kept_trans Kk22.out Kk32.out))) (Nat.le_refl w23.heap.size))), (fun _ h => nomatch h)⟩)) hW40 (List.mem_cons_self ..) (by have := HG45.out; have := Z0.out; omega)
      have HL51 : Hid (LiesQ W40 (Par w V0.heap.size (w23.heap.size :: []) P) U31.kids _) := par_set (par_grow Hhl27.out Kk44.out (List.forall_mem_cons.2 ⟨(Or.inr (Nat.le_refl w23.heap.size)), (fun _ h => nomatch h)⟩)) hW40 (List.mem_cons_self ..) (by have := HG45.out; have := Z0.out; omega)
      have XL52 := Lib.hid (xlt_set XL46.out hW40)
      have HX53 := Lib.hid (blk_same Hx41.out hW40)
      clear hW40
      have ld54 := partN_cell (r := V0.heap.size) HX53.out trivial 0 (.int .i64 U31.k) rfl
      have kvV0 : SeesN V0 V0.heap.size W40 := seesN_kept _ KB48.out
      have kvW40 : SeesN W40 V0.heap.size W40 := seesN_kept _ (kept_refl _)
      go_wp2_with fail
      clear kvV0
      clear kvW40
      obtain ⟨W55, h56⟩ : ∃ x, World.drew W40 = x := ⟨_, rfl⟩
      have k57 : Kept W40 W55 := by rw [← h56]; exact kept_drew (kept_refl _)
      have Kk58 := Lib.hid k57
      clear k57
      refine wp_region_held_drew (S := SeesN W55 V0.heap.size) (by kernel_rfl) ?_ (fun hHeld => ?_)
      · (try dsimp only)
        rw [h56]
        exact seesN_kept _ (kept_refl _)
      rw [h56] at hHeld ⊢
      clear h56
      refine take_at 0 14 shapeHeadsTr4_0 (v := ?_) (Or.inl ⟨by rfl, ?_⟩) ?_
      rotate_left 1
      · ((intro w hSw; (try dsimp only at hSw); unfold shapeHeadsTr4_0; go_simp) <;> with_reducible rfl)
      (try simp only [Act.put, List.setIfInBounds_toArray, List.set_cons_zero, List.set_cons_succ])
      refine take_at 1 15 shapeHeadsTr4_1 (v := ?_) (Or.inl ⟨by rfl, ?_⟩) ?_
      rotate_left 1
      · ((intro w hSw; (try dsimp only at hSw); have qV0 := seesN_of (kept_trans KB48.out Kk58.out) hSw; have qW40 := seesN_of Kk58.out hSw; unfold shapeHeadsTr4_1; go_simp) <;> with_reducible rfl)
      (try simp only [Act.put, List.setIfInBounds_toArray, List.set_cons_zero, List.set_cons_succ])
      refine take_at 2 16 shapeHeadsTr4_2 (v := ?_) (Or.inl ⟨by rfl, ?_⟩) ?_
      rotate_left 1
      · ((intro w hSw; (try dsimp only at hSw); unfold shapeHeadsTr4_2; go_simp) <;> with_reducible rfl)
      (try simp only [Act.put, List.setIfInBounds_toArray, List.set_cons_zero, List.set_cons_succ])
      refine take_at 3 17 shapeHeadsTr4_3 (v := ?_) (Or.inl ⟨by rfl, ?_⟩) ?_
      rotate_left 1
      · ((intro w hSw; (try dsimp only at hSw); unfold shapeHeadsTr4_3; go_simp) <;> with_reducible rfl)
      (try simp only [Act.put, List.setIfInBounds_toArray, List.set_cons_zero, List.set_cons_succ])
      refine take_at 4 18 shapeHeadsTr4_4 (yields_part (w23.heap.size) 0 25 (.tmp 3) #[.int .i64 U31.k, .int .i64 U31.i, .int .i64 U31.j, .int .i64 U31.n, (.slice a28 U31.kids.length c29)] du (fun _ h => seesN_blk HX53.out trivial (seesN_of Kk58.out h)) (by rfl) rfl (by rfl) (by rfl) hu1 (by cases du <;> first | rfl | exact hu2) size_term) ?_
      (try simp only [Act.put, List.setIfInBounds_toArray, List.set_cons_zero, List.set_cons_succ])
      refine take_at 5 19 shapeHeadsTr4_5 (yields_part (w.heap.size) 0 25 (.tmp 1) #[.int .i64 t.k, .int .i64 t.i, .int .i64 t.j, .int .i64 t.n, (.slice a0t t.kids.length ct)] du (fun _ h => seesN_blk Hx1.out trivial (seesN_of (kept_trans KB48.out Kk58.out) h)) (by rfl) rfl (by rfl) (by rfl) hu1 (by cases du <;> first | rfl | exact hu2) size_term) ?_
      (try simp only [Act.put, List.setIfInBounds_toArray, List.set_cons_zero, List.set_cons_succ])
      refine wpAnyH_ready (rs := [6]) (by kernel_rfl) (by simp) ?_
      refine AllReadyH.cons (o := shapeHeadsTr4_6) rfl (fun K hK => ?_) ?_
      · unfold shapeHeadsTr4_6
        go_simp
        have hq61 := related_any U31 t _ ((.slice a28 U31.kids.length c29)) ((.slice a0t t.kids.length ct)) (HL51.out.later Kk58.out).lies (HL49.out.later Kk58.out).lies
        rw [show relatedB U31 t = true from by rw [← HU31.out]; exact und_related Hhb20.out] at hq61
        refine hq61.mono ?_
        clear hq61
        rintro e w59 ⟨rfl, k60⟩
        have Kk62 := Lib.hid k60
        clear k60
        clear hHeld
        refine hK.out _ _ (seesN_kept _ Kk62.out) (fun hHeld => ?_)
        clear hK K
        (try simp only [Act.put, List.setIfInBounds_toArray, List.set_cons_zero, List.set_cons_succ])
        refine take_at 7 21 shapeHeadsTr4_7 (v := ?_) (Or.inl ⟨by rfl, ?_⟩) ?_
        rotate_left 1
        · ((intro w hSw; (try dsimp only at hSw); unfold shapeHeadsTr4_7; go_simp) <;> with_reducible rfl)
        (try simp only [Act.put, List.setIfInBounds_toArray, List.set_cons_zero, List.set_cons_succ])
        refine take_at 8 22 shapeHeadsTr4_8 (v := ?_) (Or.inl ⟨by rfl, ?_⟩) ?_
        rotate_left 1
        · ((intro w hSw; (try dsimp only at hSw); unfold shapeHeadsTr4_8; go_simp) <;> with_reducible rfl)
        (try simp only [Act.put, List.setIfInBounds_toArray, List.set_cons_zero, List.set_cons_succ])
        refine take_at 9 23 shapeHeadsTr4_9 (yields_part (w23.heap.size) 0 25 (.tmp 3) #[.int .i64 U31.k, .int .i64 U31.i, .int .i64 U31.j, .int .i64 U31.n, (.slice a28 U31.kids.length c29)] du (fun _ h => seesN_blk HX53.out trivial (seesN_of Kk58.out h)) (by rfl) rfl (by rfl) (by rfl) hu1 (by cases du <;> first | rfl | exact hu2) size_term) ?_
        (try simp only [Act.put, List.setIfInBounds_toArray, List.set_cons_zero, List.set_cons_succ])
        refine take_at 11 25 shapeHeadsTr4_11 (yields_part (w.heap.size) 0 25 (.tmp 1) #[.int .i64 t.k, .int .i64 t.i, .int .i64 t.j, .int .i64 t.n, (.slice a0t t.kids.length ct)] du (fun _ h => seesN_blk Hx1.out trivial (seesN_of (kept_trans KB48.out Kk58.out) h)) (by rfl) rfl (by rfl) (by rfl) hu1 (by cases du <;> first | rfl | exact hu2) size_term) ?_
        (try simp only [Act.put, List.setIfInBounds_toArray, List.set_cons_zero, List.set_cons_succ])
        refine wpAnyH_ready (rs := [10]) (by kernel_rfl) (by simp) ?_
        refine AllReadyH.cons (o := shapeHeadsTr4_10) rfl (fun K hK => ?_) ?_
        · unfold shapeHeadsTr4_10
          go_simp
          refine (count_any U31 _ ((.slice a28 U31.kids.length c29)) (HL51.out.later (kept_trans Kk58.out Kk62.out)).lies (Nat.le_trans (Nat.le_trans kf33.out.2.2 (HIhg16.out.2 t (by simp))) (by decide))).mono ?_
          rintro e w63 ⟨rfl, k64⟩
          have Kk65 := Lib.hid k64
          clear k64
          clear hHeld
          refine hK.out _ _ (seesN_kept _ (kept_trans Kk62.out Kk65.out)) (fun hHeld => ?_)
          clear hK K
          (try simp only [Act.put, List.setIfInBounds_toArray, List.set_cons_zero, List.set_cons_succ])
          refine wpAnyH_ready (rs := [12]) (by kernel_rfl) (by simp) ?_
          refine AllReadyH.cons (o := shapeHeadsTr4_12) rfl (fun K hK => ?_) ?_
          · unfold shapeHeadsTr4_12
            go_simp
            refine (count_any t _ ((.slice a0t t.kids.length ct)) (HL49.out.later (kept_trans Kk58.out (kept_trans Kk62.out Kk65.out))).lies (Nat.le_trans (HIhg16.out.2 t (by simp)) (by decide))).mono ?_
            rintro e w66 ⟨rfl, k67⟩
            have Kk68 := Lib.hid k67
            clear k67
            clear hHeld
            refine hK.out _ _ (seesN_kept _ (kept_trans Kk62.out (kept_trans Kk65.out Kk68.out))) (fun hHeld => ?_)
            clear hK K
            (try simp only [Act.put, List.setIfInBounds_toArray, List.set_cons_zero, List.set_cons_succ])
            refine take_at 13 27 shapeHeadsTr4_13 (v := ?_) (Or.inl ⟨by rfl, ?_⟩) ?_
            rotate_left 1
            · ((intro w hSw; (try dsimp only at hSw); unfold shapeHeadsTr4_13; go_simp) <;> with_reducible rfl)
            (try simp only [Act.put, List.setIfInBounds_toArray, List.set_cons_zero, List.set_cons_succ])
            refine take_at 14 28 shapeHeadsTr4_14 (v := ?_) (Or.inl ⟨by rfl, ?_⟩) ?_
            rotate_left 1
            · ((intro w hSw; (try dsimp only at hSw); unfold shapeHeadsTr4_14; go_simp) <;> with_reducible rfl)
            (try simp only [Act.put, List.setIfInBounds_toArray, List.set_cons_zero, List.set_cons_succ])
            refine take_at 15 29 shapeHeadsTr4_15 (v := ?_) (Or.inl ⟨by rfl, ?_⟩) ?_
            rotate_left 1
            · ((intro w hSw; (try dsimp only at hSw); unfold shapeHeadsTr4_15; go_simp) <;> with_reducible rfl)
            (try simp only [Act.put, List.setIfInBounds_toArray, List.set_cons_zero, List.set_cons_succ])
            refine take_at 16 30 shapeHeadsTr4_16 (v := ?_) (Or.inl ⟨by rfl, ?_⟩) ?_
            rotate_left 1
            · ((intro w hSw; (try dsimp only at hSw); unfold shapeHeadsTr4_16; go_simp) <;> with_reducible rfl)
            (try simp only [Act.put, List.setIfInBounds_toArray, List.set_cons_zero, List.set_cons_succ])
            refine take_at 17 31 shapeHeadsTr4_17 (v := ?_) (Or.inl ⟨by rfl, ?_⟩) ?_
            rotate_left 1
            · ((intro w hSw; (try dsimp only at hSw); have qV0 := seesN_of (kept_trans KB48.out Kk58.out) hSw; have qW40 := seesN_of Kk58.out hSw; unfold shapeHeadsTr4_17; go_simp) <;> with_reducible rfl)
            (try simp only [Act.put, List.setIfInBounds_toArray, List.set_cons_zero, List.set_cons_succ])
            refine take_at 18 32 shapeHeadsTr4_18 (v := ?_) (Or.inl ⟨by rfl, ?_⟩) ?_
            rotate_left 1
            · ((intro w hSw; (try dsimp only at hSw); unfold shapeHeadsTr4_18; go_simp) <;> with_reducible rfl)
            (try simp only [Act.put, List.setIfInBounds_toArray, List.set_cons_zero, List.set_cons_succ])
            refine take_at 19 33 shapeHeadsTr4_19 (v := ?_) (Or.inl ⟨by rfl, ?_⟩) ?_
            rotate_left 1
            · ((intro w hSw; (try dsimp only at hSw); unfold shapeHeadsTr4_19; go_simp) <;> with_reducible rfl)
            (try simp only [Act.put, List.setIfInBounds_toArray, List.set_cons_zero, List.set_cons_succ])
            refine take_at 20 34 shapeHeadsTr4_20 (v := undef) (Or.inr ⟨by rfl, rfl⟩) ?_
            (try simp only [Act.put, List.setIfInBounds_toArray, List.set_cons_zero, List.set_cons_succ])
            refine take_at 21 35 shapeHeadsTr4_21 (v := undef) (Or.inr ⟨by rfl, rfl⟩) ?_
            (try simp only [Act.put, List.setIfInBounds_toArray, List.set_cons_zero, List.set_cons_succ])
            refine take_at 22 36 shapeHeadsTr4_22 (v := undef) (Or.inr ⟨by rfl, rfl⟩) ?_
            (try simp only [Act.put, List.setIfInBounds_toArray, List.set_cons_zero, List.set_cons_succ])
            refine take_at 23 37 shapeHeadsTr4_23 (v := ?_) (Or.inl ⟨by rfl, ?_⟩) ?_
            rotate_left 1
            · ((intro w hSw; (try dsimp only at hSw); unfold shapeHeadsTr4_23; go_simp) <;> with_reducible rfl)
            (try simp only [Act.put, List.setIfInBounds_toArray, List.set_cons_zero, List.set_cons_succ])
            refine take_at 24 38 shapeHeadsTr4_24 (v := ?_) (Or.inl ⟨by rfl, ?_⟩) ?_
            rotate_left 1
            · ((intro w hSw; (try dsimp only at hSw); unfold shapeHeadsTr4_24; go_simp) <;> with_reducible rfl)
            (try simp only [Act.put, List.setIfInBounds_toArray, List.set_cons_zero, List.set_cons_succ])
            refine take_at 25 39 shapeHeadsTr4_25 (v := ?_) (Or.inl ⟨by rfl, ?_⟩) ?_
            rotate_left 1
            · ((intro w hSw; (try dsimp only at hSw); unfold shapeHeadsTr4_25; go_simp) <;> with_reducible rfl)
            (try simp only [Act.put, List.setIfInBounds_toArray, List.set_cons_zero, List.set_cons_succ])
            refine wpAnyH_ready (rs := [26]) (by kernel_rfl) (by simp) ?_
            refine AllReadyH.cons (o := shapeHeadsTr4_26) rfl (fun K hK => ?_) ?_
            · unfold shapeHeadsTr4_26
              go_simp
              refine (wakes26_any _).mono ?_
              rintro e w69 ⟨rfl, k70⟩
              have Kk71 := Lib.hid k70
              clear k70
              clear hHeld
              refine hK.out _ _ (seesN_kept _ (kept_trans Kk62.out (kept_trans Kk65.out (kept_trans Kk68.out Kk71.out)))) (fun hHeld => ?_)
              clear hK K
              (try simp only [Act.put, List.setIfInBounds_toArray, List.set_cons_zero, List.set_cons_succ])
              refine take_at 27 41 shapeHeadsTr4_27 (v := ?_) (Or.inl ⟨by rfl, ?_⟩) ?_
              rotate_left 1
              · ((intro w hSw; (try dsimp only at hSw); unfold shapeHeadsTr4_27; go_simp) <;> with_reducible rfl)
              (try simp only [Act.put, List.setIfInBounds_toArray, List.set_cons_zero, List.set_cons_succ])
              refine take_at 28 2 shapeHeadsTr4_28 (v := ?_) (Or.inl ⟨by rfl, ?_⟩) ?_
              rotate_left 1
              · ((intro w hSw; (try dsimp only at hSw); unfold shapeHeadsTr4_28; go_simp) <;> with_reducible rfl)
              (try simp only [Act.put, List.setIfInBounds_toArray, List.set_cons_zero, List.set_cons_succ])
              refine wpAnyH_done (by kernel_rfl) ?_ _
              clear hHeld
              have kvV0 : SeesN V0 V0.heap.size w69 := seesN_kept _ (kept_trans KB48.out (kept_trans Kk58.out (kept_trans Kk62.out (kept_trans Kk65.out (kept_trans Kk68.out Kk71.out)))))
              have kvW40 : SeesN W40 V0.heap.size w69 := seesN_kept _ (kept_trans Kk58.out (kept_trans Kk62.out (kept_trans Kk65.out (kept_trans Kk68.out Kk71.out))))
              go_wp2
              go_ret
              exact ⟨rfl, (kept_trans KB47.out (kept_trans Kk58.out (kept_trans Kk62.out (kept_trans Kk65.out (kept_trans Kk68.out Kk71.out)))))⟩
            exact AllReadyH.nil
          exact AllReadyH.nil
        exact AllReadyH.nil
      exact AllReadyH.nil
  | true =>
    have kvV0 : SeesN V0 V0.heap.size w13 := seesN_kept _ (kept_trans Kk11.out Kk17.out)
    go_wp2
    go_ret
    exact ⟨rfl, (kept_trans Kk4.out (kept_trans Kk11.out Kk17.out))⟩

def shapeHeadsNr4_0 : Oper := { dst := some 14, op := Go.Op.fieldAddr 25 (Go.Operand.tmp 3) 0, type := 0, pos := "law.go:61", after := #[], guard := none }
def shapeHeadsNr4_1 : Oper := { dst := some 15, op := Go.Op.load 3 (Go.Operand.tmp 14), type := 3, pos := "law.go:61", after := #[{ on := 0, ground := Go.Ground.data }], guard := none }
def shapeHeadsNr4_2 : Oper := { dst := some 16, op := Go.Op.binOp Go.BinOp.neq 3 (Go.Operand.tmp 15) (Go.Operand.const (Go.Value.int Go.IntKind.i64 12)) 3, type := 4, pos := "law.go:61", after := #[{ on := 1, ground := Go.Ground.data }], guard := none }
def shapeHeadsNr4_3 : Oper := { dst := some 17, op := Go.Op.move (Go.Operand.tmp 16), type := 4, pos := "law.go:61", after := #[{ on := 2, ground := Go.Ground.data }], guard := none }
def shapeHeadsNr4_4 : Oper := { dst := some 18, op := Go.Op.load 25 (Go.Operand.tmp 3), type := 25, pos := "law.go:61", after := #[{ on := 3, ground := Go.Ground.guard }], guard := some (3, true) }
def shapeHeadsNr4_5 : Oper := { dst := some 19, op := Go.Op.load 25 (Go.Operand.tmp 1), type := 25, pos := "law.go:61", after := #[{ on := 3, ground := Go.Ground.guard }], guard := some (3, true) }
def shapeHeadsNr4_6 : Oper := { dst := some 20, op := Go.Op.call { callee := Go.Callee.value (Go.Operand.func 14), args := #[Go.Operand.tmp 18, Go.Operand.tmp 19], argTypes := #[25, 25] }, type := 4, pos := "law.go:61", after := #[{ on := 4, ground := Go.Ground.data }, { on := 5, ground := Go.Ground.data }, { on := 3, ground := Go.Ground.chain }, { on := 3, ground := Go.Ground.guard }], guard := some (3, true) }
def shapeHeadsNr4_7 : Oper := { dst := some 21, op := Go.Op.pick (Go.Operand.tmp 17) (Go.Operand.tmp 20) (Go.Operand.const (Go.Value.bool false)), type := 4, pos := "law.go:61", after := #[{ on := 3, ground := Go.Ground.data }, { on := 6, ground := Go.Ground.data }], guard := none }
def shapeHeadsNr4_8 : Oper := { dst := some 22, op := Go.Op.move (Go.Operand.tmp 21), type := 4, pos := "law.go:61", after := #[{ on := 7, ground := Go.Ground.data }, { on := 6, ground := Go.Ground.chain }], guard := none }
def shapeHeadsNr4_9 : Oper := { dst := some 23, op := Go.Op.load 25 (Go.Operand.tmp 3), type := 25, pos := "law.go:61", after := #[{ on := 8, ground := Go.Ground.guard }], guard := some (8, true) }
def shapeHeadsNr4_10 : Oper := { dst := some 24, op := Go.Op.call { callee := Go.Callee.value (Go.Operand.func 15), args := #[Go.Operand.tmp 23], argTypes := #[25] }, type := 3, pos := "law.go:61", after := #[{ on := 9, ground := Go.Ground.data }, { on := 8, ground := Go.Ground.chain }, { on := 8, ground := Go.Ground.guard }], guard := some (8, true) }
def shapeHeadsNr4_11 : Oper := { dst := some 25, op := Go.Op.load 25 (Go.Operand.tmp 1), type := 25, pos := "law.go:61", after := #[{ on := 8, ground := Go.Ground.guard }], guard := some (8, true) }
def shapeHeadsNr4_12 : Oper := { dst := some 26, op := Go.Op.call { callee := Go.Callee.value (Go.Operand.func 15), args := #[Go.Operand.tmp 25], argTypes := #[25] }, type := 3, pos := "law.go:61", after := #[{ on := 11, ground := Go.Ground.data }, { on := 10, ground := Go.Ground.chain }, { on := 8, ground := Go.Ground.guard }], guard := some (8, true) }
def shapeHeadsNr4_13 : Oper := { dst := some 27, op := Go.Op.binOp Go.BinOp.leq 3 (Go.Operand.tmp 24) (Go.Operand.tmp 26) 3, type := 4, pos := "law.go:61", after := #[{ on := 10, ground := Go.Ground.data }, { on := 12, ground := Go.Ground.data }, { on := 8, ground := Go.Ground.guard }], guard := some (8, true) }
def shapeHeadsNr4_14 : Oper := { dst := some 28, op := Go.Op.pick (Go.Operand.tmp 22) (Go.Operand.tmp 27) (Go.Operand.const (Go.Value.bool false)), type := 4, pos := "law.go:61", after := #[{ on := 8, ground := Go.Ground.data }, { on := 13, ground := Go.Ground.data }], guard := none }
def shapeHeadsNr4_15 : Oper := { dst := some 29, op := Go.Op.move (Go.Operand.tmp 28), type := 4, pos := "law.go:61", after := #[{ on := 14, ground := Go.Ground.data }, { on := 12, ground := Go.Ground.chain }], guard := none }
def shapeHeadsNr4_16 : Oper := { dst := some 30, op := Go.Op.fieldAddr 25 (Go.Operand.tmp 1) 0, type := 0, pos := "law.go:61", after := #[{ on := 15, ground := Go.Ground.guard }], guard := some (15, true) }
def shapeHeadsNr4_17 : Oper := { dst := some 31, op := Go.Op.load 3 (Go.Operand.tmp 30), type := 3, pos := "law.go:61", after := #[{ on := 16, ground := Go.Ground.data }, { on := 15, ground := Go.Ground.guard }], guard := some (15, true) }
def shapeHeadsNr4_18 : Oper := { dst := some 32, op := Go.Op.binOp Go.BinOp.eql 3 (Go.Operand.tmp 31) (Go.Operand.const (Go.Value.int Go.IntKind.i64 12)) 3, type := 4, pos := "law.go:61", after := #[{ on := 17, ground := Go.Ground.data }, { on := 15, ground := Go.Ground.guard }], guard := some (15, true) }
def shapeHeadsNr4_19 : Oper := { dst := some 33, op := Go.Op.move (Go.Operand.tmp 32), type := 4, pos := "law.go:61", after := #[{ on := 18, ground := Go.Ground.data }, { on := 15, ground := Go.Ground.chain }, { on := 15, ground := Go.Ground.guard }], guard := some (15, true) }
def shapeHeadsNr4_20 : Oper := { dst := some 34, op := Go.Op.load 25 (Go.Operand.tmp 3), type := 25, pos := "law.go:61", after := #[{ on := 19, ground := Go.Ground.guard }], guard := some (19, false) }
def shapeHeadsNr4_21 : Oper := { dst := some 35, op := Go.Op.load 25 (Go.Operand.tmp 1), type := 25, pos := "law.go:61", after := #[{ on := 19, ground := Go.Ground.guard }], guard := some (19, false) }
def shapeHeadsNr4_22 : Oper := { dst := some 36, op := Go.Op.call { callee := Go.Callee.value (Go.Operand.func 8), args := #[Go.Operand.tmp 34, Go.Operand.tmp 35], argTypes := #[25, 25] }, type := 4, pos := "law.go:61", after := #[{ on := 20, ground := Go.Ground.data }, { on := 21, ground := Go.Ground.data }, { on := 19, ground := Go.Ground.chain }, { on := 19, ground := Go.Ground.guard }], guard := some (19, false) }
def shapeHeadsNr4_23 : Oper := { dst := some 37, op := Go.Op.pick (Go.Operand.tmp 33) (Go.Operand.const (Go.Value.bool true)) (Go.Operand.tmp 36), type := 4, pos := "law.go:61", after := #[{ on := 19, ground := Go.Ground.data }, { on := 22, ground := Go.Ground.data }, { on := 15, ground := Go.Ground.guard }], guard := some (15, true) }
def shapeHeadsNr4_24 : Oper := { dst := some 38, op := Go.Op.pick (Go.Operand.tmp 29) (Go.Operand.tmp 37) (Go.Operand.const (Go.Value.bool false)), type := 4, pos := "law.go:61", after := #[{ on := 15, ground := Go.Ground.data }, { on := 23, ground := Go.Ground.data }], guard := none }
def shapeHeadsNr4_25 : Oper := { dst := some 39, op := Go.Op.move (Go.Operand.tmp 38), type := 4, pos := "law.go:61", after := #[{ on := 24, ground := Go.Ground.data }, { on := 22, ground := Go.Ground.chain }], guard := none }
def shapeHeadsNr4_26 : Oper := { dst := some 40, op := Go.Op.call { callee := Go.Callee.value (Go.Operand.func 12), args := #[], argTypes := #[] }, type := 4, pos := "law.go:61", after := #[{ on := 25, ground := Go.Ground.chain }, { on := 25, ground := Go.Ground.guard }], guard := some (25, true) }
def shapeHeadsNr4_27 : Oper := { dst := some 41, op := Go.Op.pick (Go.Operand.tmp 39) (Go.Operand.tmp 40) (Go.Operand.const (Go.Value.bool false)), type := 4, pos := "law.go:61", after := #[{ on := 25, ground := Go.Ground.data }, { on := 26, ground := Go.Ground.data }], guard := none }
def shapeHeadsNr4_28 : Oper := { dst := some 2, op := Go.Op.assign (Go.Operand.tmp 41), type := 4, pos := "law.go:61", after := #[{ on := 27, ground := Go.Ground.data }, { on := 26, ground := Go.Ground.chain }, { on := 0, ground := Go.Ground.phase }, { on := 1, ground := Go.Ground.phase }, { on := 2, ground := Go.Ground.phase }, { on := 3, ground := Go.Ground.phase }, { on := 4, ground := Go.Ground.phase }, { on := 5, ground := Go.Ground.phase }, { on := 6, ground := Go.Ground.phase }, { on := 7, ground := Go.Ground.phase }, { on := 8, ground := Go.Ground.phase }, { on := 9, ground := Go.Ground.phase }, { on := 10, ground := Go.Ground.phase }, { on := 11, ground := Go.Ground.phase }, { on := 12, ground := Go.Ground.phase }, { on := 13, ground := Go.Ground.phase }, { on := 14, ground := Go.Ground.phase }, { on := 15, ground := Go.Ground.phase }, { on := 16, ground := Go.Ground.phase }, { on := 17, ground := Go.Ground.phase }, { on := 18, ground := Go.Ground.phase }, { on := 19, ground := Go.Ground.phase }, { on := 20, ground := Go.Ground.phase }, { on := 21, ground := Go.Ground.phase }, { on := 22, ground := Go.Ground.phase }, { on := 23, ground := Go.Ground.phase }, { on := 24, ground := Go.Ground.phase }, { on := 25, ground := Go.Ground.phase }, { on := 26, ground := Go.Ground.phase }, { on := 27, ground := Go.Ground.phase }], guard := none }
set_option maxRecDepth 20000 in
set_option maxHeartbeats 4000000 in
theorem shapeHeadsN_any (t : Tm) (P : Nat → Prop) (w : World) (st : Value) (hft : t.fine) (hlt : LiesQ w P t.kids st) (hk : t.k ≠ 12) : Calls Tryz.prog 4 #[tv t st] w fun e w' => e = .returned (.bool true) ∧ Kept w w' := by
  have Gt := Lib.hid hft
  clear hft
  obtain ⟨a0t, ct, St, rfl, -⟩ := hlt.out
  have ek : (t.k == 12) = false := by simpa using hk
  have HK := Lib.hid hk
  clear hk
  obtain ⟨du, hu1, hu2⟩ := under_term
  unfold tv
  go_enter Tryz.func4, Tryz.ntmps4
  go_upto_region 1 with fail
  refine at_code (fun V0 hV0 => ?_)
  obtain ⟨k2, x1, z3⟩ := alloc1 hV0
  have Kk4 := Lib.hid k2
  clear k2
  have Hx1 := Lib.hid x1
  have Z0 := Lib.hid z3
  clear z3 x1 hV0
  have HLt : Hid (LiesQ V0 (Par w V0.heap.size [] P) t.kids _) := (par_in _ _ hlt).later Kk4.out
  clear hlt
  have ld5 := partN_cell (r := V0.heap.size) Hx1.out trivial 0 (.int .i64 t.k) rfl
  have kvV0 : SeesN V0 V0.heap.size V0 := seesN_kept _ (kept_refl _)
  go_wp2_with (refine stop_load 25 (.tmp 1) rfl ?_)
  intro _
  refine wpList_load_part (w.heap.size) 0 25 (.tmp 1) #[.int .i64 t.k, .int .i64 t.i, .int .i64 t.j, .int .i64 t.n, (.slice a0t t.kids.length ct)] du Hx1.out (by rfl) rfl (by rfl) (by rfl) hu1 (by cases du <;> first | rfl | exact hu2) size_term ?_
  go_wp2_with fail
  refine at_world (fun W7 hW7 => ?_)
  clear kvV0
  obtain ⟨k9, x8, z10⟩ := alloc1 hW7
  have Kk11 := Lib.hid k9
  clear k9
  have Hx8 := Lib.hid x8
  have Hz10 := Lib.hid z10
  clear x8 z10 hW7
  have HR12 := Lib.hid (q_row1 Hx8.out Gt.out (HLt.out.later Kk11.out) (par_new (Nat.le_refl _) (xlt_nil _) (Nat.le_refl _)))
  refine (lheavy6_any [t] (Par w V0.heap.size [] P) _ ((.slice (some ⟨V0.heap.size, 0, none⟩) 1 1)) HR12.out).mono ?_
  rintro e w13 ⟨gb15, rfl, hg16, k14⟩
  have Hhg16 := Lib.hid hg16
  clear hg16
  have Kk17 := Lib.hid k14
  clear k14
  cases gb15 with
  | false =>
    have HIhg16 := Lib.hid (Hhg16.out rfl)
    have kvV0 : SeesN V0 V0.heap.size w13 := seesN_kept _ (kept_trans Kk11.out Kk17.out)
    go_wp2_with (refine stop_load 25 (.tmp 1) rfl ?_)
    intro _
    refine wpList_load_part (w.heap.size) 0 25 (.tmp 1) #[.int .i64 t.k, .int .i64 t.i, .int .i64 t.j, .int .i64 t.n, (.slice a0t t.kids.length ct)] du (blk_at Hx1.out (kept_trans Kk11.out Kk17.out)) (by rfl) rfl (by rfl) (by rfl) hu1 (by cases du <;> first | rfl | exact hu2) size_term ?_
    go_wp2_with fail
    clear kvV0
    refine (refmarked_any t _ ((.slice a0t t.kids.length ct)) (HLt.out.later (kept_trans Kk11.out Kk17.out)).lies).mono ?_
    obtain ⟨rb21, hb20⟩ : ∃ qb, (t.markedB) = qb := ⟨_, rfl⟩
    rw [hb20]
    have Hhb20 := Lib.hid hb20
    clear hb20
    rintro e w18 ⟨rfl, k19⟩
    have Kk22 := Lib.hid k19
    clear k19
    cases rb21 with
    | false =>
      have kvV0 : SeesN V0 V0.heap.size w18 := seesN_kept _ (kept_trans Kk11.out (kept_trans Kk17.out Kk22.out))
      go_wp2
      go_ret
      exact ⟨rfl, (kept_trans Kk4.out (kept_trans Kk11.out (kept_trans Kk17.out Kk22.out)))⟩
    | true =>
      have kvV0 : SeesN V0 V0.heap.size w18 := seesN_kept _ (kept_trans Kk11.out (kept_trans Kk17.out Kk22.out))
      go_wp2_with (refine stop_load 25 (.tmp 1) rfl ?_)
      intro _
      refine wpList_load_part (w.heap.size) 0 25 (.tmp 1) #[.int .i64 t.k, .int .i64 t.i, .int .i64 t.j, .int .i64 t.n, (.slice a0t t.kids.length ct)] du (blk_at Hx1.out (kept_trans Kk11.out (kept_trans Kk17.out Kk22.out))) (by rfl) rfl (by rfl) (by rfl) hu1 (by cases du <;> first | rfl | exact hu2) size_term ?_
      go_wp2_with fail
      clear kvV0
      have hq25 := (head_any t w18 ((.slice a0t t.kids.length ct)) (HLt.out.later (kept_trans Kk11.out (kept_trans Kk17.out Kk22.out))).lies (Nat.le_trans (HIhg16.out.2 t (by simp)) (by decide))).mono (fun _ _ h => h.givesP (P := (Par w V0.heap.size [] P)))
      rw [show Tm.headB t = t.und from (by unfold Tm.headB; rw [if_pos Hhb20.out])] at hq25
      refine hq25.mono ?_
      clear hq25
      obtain ⟨U31, hU31⟩ : ∃ qu, (t.und) = qu := ⟨_, rfl⟩
      rw [hU31]
      have HU31 := Lib.hid hU31
      clear hU31
      rintro e w23 ⟨s26, rfl, hl27, k24⟩
      obtain ⟨a28, c29, S30, rfl, -⟩ := hl27.out
      have Kk32 := Lib.hid k24
      clear k24
      have Hhl27 : Hid (LiesQ w23 (Par w V0.heap.size [] P) U31.kids _) := par_give hl27 (Below.size (kept_trans Kk11.out (kept_trans Kk17.out Kk22.out))) (xlt_nil _)
      clear hl27
      have kf33 : Hid (U31.markedB = true ∧ U31.k ≠ 12 ∧ U31.size ≤ t.size) := by show _ ∧ _ ∧ _; rw [← HU31.out]; exact und_marked t Hhb20.out
      have kf34 : (U31.k == 12) = false := beq_eq_false_iff_ne.2 kf33.out.2.1
      have kf35 : (U31.k != 12) = true := by rw [bne, kf34]; rfl
      have kf36 : Hid (U31.countB ≤ t.countB) := by show _ ≤ _; unfold Tm.countB; rw [if_pos kf33.out.1, if_pos Hhb20.out, ← HU31.out]; exact und_count t Hhb20.out
      have kf37 : decide ((U31.countB : Int) ≤ (t.countB : Int)) = true := decide_eq_true (Int.ofNat_le.2 kf36.out)
      have kf38 : decide (U31.countB ≤ t.countB) = true := decide_eq_true kf36.out
      have kvV0 : SeesN V0 V0.heap.size w23 := seesN_kept _ (kept_trans Kk11.out (kept_trans Kk17.out (kept_trans Kk22.out Kk32.out)))
      go_wp2_with (refine stop_store 25 (.tmp 3) (.tmp 13) rfl ?_)
      intro _
      refine wpList_store_part_n (by rfl) 25 (.tmp 3) (.tmp 13) rfl (w23.heap.size) 0 #[.int .i64 U31.k, .int .i64 U31.i, .int .i64 U31.j, .int .i64 U31.n, (.slice a28 U31.kids.length c29)] (by rfl) (by rfl) 25 size_term (row_ok rfl) ?_
      intro W39 hW39
      clear kvV0
      obtain ⟨k42, x41, z43⟩ := alloc1 hW39
      have Kk44 := Lib.hid k42
      clear k42
      have Hx41 := Lib.hid x41
      have Hz43 := Lib.hid z43
      clear x41 z43 hW39
      have HG45 : Hid (V0.heap.size ≤ w23.heap.size) := (Below.size (kept_trans Kk11.out (kept_trans Kk17.out (kept_trans Kk22.out Kk32.out))))
      have XL46 : Hid (XLt (w23.heap.size :: []) W39) := (xlt_more (xlt_nil _) Kk44.out (by have := Hz43.out; omega))
      refine ⟨_, #[.int .i64 U31.k, .int .i64 U31.i, .int .i64 U31.j, .int .i64 U31.n, (.slice a28 U31.kids.length c29)], Hx41.out, rfl, Nat.le_of_ble_eq_true rfl, ?_⟩
      intro W40 hW40
      have KB47 := Lib.hid (kept_set (kept_trans Kk4.out (kept_trans Kk11.out (kept_trans Kk17.out (kept_trans Kk22.out (kept_trans Kk32.out Kk44.out))))) hW40 (by have := HG45.out; have := Z0.out; omega))
      have KB48 := Lib.hid (kept_set (kept_trans Kk11.out (kept_trans Kk17.out (kept_trans Kk22.out (kept_trans Kk32.out Kk44.out)))) hW40 HG45.out)
      have HL49 : Hid (LiesQ W40 (Par w V0.heap.size (w23.heap.size :: []) P) t.kids _) := par_set (par_grow HLt.out (kept_trans Kk11.out (kept_trans Kk17.out (kept_trans Kk22.out (kept_trans Kk32.out Kk44.out)))) (List.forall_mem_cons.2 ⟨(Or.inr (Nat.le_trans (Below.size (kept_trans Kk11.out (kept_trans Kk17.out (kept_trans Kk22.out Kk32.out)))) (Nat.le_refl w23.heap.size))), (fun _ h => nomatch h)⟩)) hW40 (List.mem_cons_self ..) (by have := HG45.out; have := Z0.out; omega)
      have HL50 : Hid (LiesQ W40 (Par w V0.heap.size (w23.heap.size :: []) P) [t] _) := par_set (par_grow HR12.out (kept_trans Kk17.out (kept_trans Kk22.out (kept_trans Kk32.out Kk44.out))) (List.forall_mem_cons.2 ⟨(Or.inr (Nat.le_trans (Below.size (kept_trans Kk17.out (kept_trans Kk22.out Kk32.out))) (Nat.le_refl w23.heap.size))), (fun _ h => nomatch h)⟩)) hW40 (List.mem_cons_self ..) (by have := HG45.out; have := Z0.out; omega)
      have HL51 : Hid (LiesQ W40 (Par w V0.heap.size (w23.heap.size :: []) P) U31.kids _) := par_set (par_grow Hhl27.out Kk44.out (List.forall_mem_cons.2 ⟨(Or.inr (Nat.le_refl w23.heap.size)), (fun _ h => nomatch h)⟩)) hW40 (List.mem_cons_self ..) (by have := HG45.out; have := Z0.out; omega)
      have XL52 := Lib.hid (xlt_set XL46.out hW40)
      have HX53 := Lib.hid (blk_same Hx41.out hW40)
      clear hW40
      have ld54 := partN_cell (r := V0.heap.size) HX53.out trivial 0 (.int .i64 U31.k) rfl
      have kvV0 : SeesN V0 V0.heap.size W40 := seesN_kept _ KB48.out
      have kvW40 : SeesN W40 V0.heap.size W40 := seesN_kept _ (kept_refl _)
      go_wp2_with fail
      clear kvV0
      clear kvW40
      obtain ⟨W55, h56⟩ : ∃ x, World.drew W40 = x := ⟨_, rfl⟩
      have k57 : Kept W40 W55 := by rw [← h56]; exact kept_drew (kept_refl _)
      have Kk58 := Lib.hid k57
      clear k57
      refine wp_region_held_drew (S := SeesN W55 V0.heap.size) (by kernel_rfl) ?_ (fun hHeld => ?_)
      · (try dsimp only)
        rw [h56]
        exact seesN_kept _ (kept_refl _)
      rw [h56] at hHeld ⊢
      clear h56
      refine take_at 0 14 shapeHeadsNr4_0 (v := ?_) (Or.inl ⟨by rfl, ?_⟩) ?_
      rotate_left 1
      · ((intro w hSw; (try dsimp only at hSw); unfold shapeHeadsNr4_0; go_simp) <;> with_reducible rfl)
      (try simp only [Act.put, List.setIfInBounds_toArray, List.set_cons_zero, List.set_cons_succ])
      refine take_at 1 15 shapeHeadsNr4_1 (v := ?_) (Or.inl ⟨by rfl, ?_⟩) ?_
      rotate_left 1
      · ((intro w hSw; (try dsimp only at hSw); have qV0 := seesN_of (kept_trans KB48.out Kk58.out) hSw; have qW40 := seesN_of Kk58.out hSw; unfold shapeHeadsNr4_1; go_simp) <;> with_reducible rfl)
      (try simp only [Act.put, List.setIfInBounds_toArray, List.set_cons_zero, List.set_cons_succ])
      refine take_at 2 16 shapeHeadsNr4_2 (v := ?_) (Or.inl ⟨by rfl, ?_⟩) ?_
      rotate_left 1
      · ((intro w hSw; (try dsimp only at hSw); unfold shapeHeadsNr4_2; go_simp) <;> with_reducible rfl)
      (try simp only [Act.put, List.setIfInBounds_toArray, List.set_cons_zero, List.set_cons_succ])
      refine take_at 3 17 shapeHeadsNr4_3 (v := ?_) (Or.inl ⟨by rfl, ?_⟩) ?_
      rotate_left 1
      · ((intro w hSw; (try dsimp only at hSw); unfold shapeHeadsNr4_3; go_simp) <;> with_reducible rfl)
      (try simp only [Act.put, List.setIfInBounds_toArray, List.set_cons_zero, List.set_cons_succ])
      refine take_at 4 18 shapeHeadsNr4_4 (yields_part (w23.heap.size) 0 25 (.tmp 3) #[.int .i64 U31.k, .int .i64 U31.i, .int .i64 U31.j, .int .i64 U31.n, (.slice a28 U31.kids.length c29)] du (fun _ h => seesN_blk HX53.out trivial (seesN_of Kk58.out h)) (by rfl) rfl (by rfl) (by rfl) hu1 (by cases du <;> first | rfl | exact hu2) size_term) ?_
      (try simp only [Act.put, List.setIfInBounds_toArray, List.set_cons_zero, List.set_cons_succ])
      refine take_at 5 19 shapeHeadsNr4_5 (yields_part (w.heap.size) 0 25 (.tmp 1) #[.int .i64 t.k, .int .i64 t.i, .int .i64 t.j, .int .i64 t.n, (.slice a0t t.kids.length ct)] du (fun _ h => seesN_blk Hx1.out trivial (seesN_of (kept_trans KB48.out Kk58.out) h)) (by rfl) rfl (by rfl) (by rfl) hu1 (by cases du <;> first | rfl | exact hu2) size_term) ?_
      (try simp only [Act.put, List.setIfInBounds_toArray, List.set_cons_zero, List.set_cons_succ])
      refine wpAnyH_ready (rs := [6]) (by kernel_rfl) (by simp) ?_
      refine AllReadyH.cons (o := shapeHeadsNr4_6) rfl (fun K hK => ?_) ?_
      · unfold shapeHeadsNr4_6
        go_simp
        have hq61 := related_any U31 t _ ((.slice a28 U31.kids.length c29)) ((.slice a0t t.kids.length ct)) (HL51.out.later Kk58.out).lies (HL49.out.later Kk58.out).lies
        rw [show relatedB U31 t = true from by rw [← HU31.out]; exact und_related Hhb20.out] at hq61
        refine hq61.mono ?_
        clear hq61
        rintro e w59 ⟨rfl, k60⟩
        have Kk62 := Lib.hid k60
        clear k60
        clear hHeld
        refine hK.out _ _ (seesN_kept _ Kk62.out) (fun hHeld => ?_)
        clear hK K
        (try simp only [Act.put, List.setIfInBounds_toArray, List.set_cons_zero, List.set_cons_succ])
        refine take_at 7 21 shapeHeadsNr4_7 (v := ?_) (Or.inl ⟨by rfl, ?_⟩) ?_
        rotate_left 1
        · ((intro w hSw; (try dsimp only at hSw); unfold shapeHeadsNr4_7; go_simp) <;> with_reducible rfl)
        (try simp only [Act.put, List.setIfInBounds_toArray, List.set_cons_zero, List.set_cons_succ])
        refine take_at 8 22 shapeHeadsNr4_8 (v := ?_) (Or.inl ⟨by rfl, ?_⟩) ?_
        rotate_left 1
        · ((intro w hSw; (try dsimp only at hSw); unfold shapeHeadsNr4_8; go_simp) <;> with_reducible rfl)
        (try simp only [Act.put, List.setIfInBounds_toArray, List.set_cons_zero, List.set_cons_succ])
        refine take_at 9 23 shapeHeadsNr4_9 (yields_part (w23.heap.size) 0 25 (.tmp 3) #[.int .i64 U31.k, .int .i64 U31.i, .int .i64 U31.j, .int .i64 U31.n, (.slice a28 U31.kids.length c29)] du (fun _ h => seesN_blk HX53.out trivial (seesN_of Kk58.out h)) (by rfl) rfl (by rfl) (by rfl) hu1 (by cases du <;> first | rfl | exact hu2) size_term) ?_
        (try simp only [Act.put, List.setIfInBounds_toArray, List.set_cons_zero, List.set_cons_succ])
        refine take_at 11 25 shapeHeadsNr4_11 (yields_part (w.heap.size) 0 25 (.tmp 1) #[.int .i64 t.k, .int .i64 t.i, .int .i64 t.j, .int .i64 t.n, (.slice a0t t.kids.length ct)] du (fun _ h => seesN_blk Hx1.out trivial (seesN_of (kept_trans KB48.out Kk58.out) h)) (by rfl) rfl (by rfl) (by rfl) hu1 (by cases du <;> first | rfl | exact hu2) size_term) ?_
        (try simp only [Act.put, List.setIfInBounds_toArray, List.set_cons_zero, List.set_cons_succ])
        refine wpAnyH_ready (rs := [10]) (by kernel_rfl) (by simp) ?_
        refine AllReadyH.cons (o := shapeHeadsNr4_10) rfl (fun K hK => ?_) ?_
        · unfold shapeHeadsNr4_10
          go_simp
          refine (count_any U31 _ ((.slice a28 U31.kids.length c29)) (HL51.out.later (kept_trans Kk58.out Kk62.out)).lies (Nat.le_trans (Nat.le_trans kf33.out.2.2 (HIhg16.out.2 t (by simp))) (by decide))).mono ?_
          rintro e w63 ⟨rfl, k64⟩
          have Kk65 := Lib.hid k64
          clear k64
          clear hHeld
          refine hK.out _ _ (seesN_kept _ (kept_trans Kk62.out Kk65.out)) (fun hHeld => ?_)
          clear hK K
          (try simp only [Act.put, List.setIfInBounds_toArray, List.set_cons_zero, List.set_cons_succ])
          refine wpAnyH_ready (rs := [12]) (by kernel_rfl) (by simp) ?_
          refine AllReadyH.cons (o := shapeHeadsNr4_12) rfl (fun K hK => ?_) ?_
          · unfold shapeHeadsNr4_12
            go_simp
            refine (count_any t _ ((.slice a0t t.kids.length ct)) (HL49.out.later (kept_trans Kk58.out (kept_trans Kk62.out Kk65.out))).lies (Nat.le_trans (HIhg16.out.2 t (by simp)) (by decide))).mono ?_
            rintro e w66 ⟨rfl, k67⟩
            have Kk68 := Lib.hid k67
            clear k67
            clear hHeld
            refine hK.out _ _ (seesN_kept _ (kept_trans Kk62.out (kept_trans Kk65.out Kk68.out))) (fun hHeld => ?_)
            clear hK K
            (try simp only [Act.put, List.setIfInBounds_toArray, List.set_cons_zero, List.set_cons_succ])
            refine take_at 13 27 shapeHeadsNr4_13 (v := ?_) (Or.inl ⟨by rfl, ?_⟩) ?_
            rotate_left 1
            · ((intro w hSw; (try dsimp only at hSw); unfold shapeHeadsNr4_13; go_simp) <;> with_reducible rfl)
            (try simp only [Act.put, List.setIfInBounds_toArray, List.set_cons_zero, List.set_cons_succ])
            refine take_at 14 28 shapeHeadsNr4_14 (v := ?_) (Or.inl ⟨by rfl, ?_⟩) ?_
            rotate_left 1
            · ((intro w hSw; (try dsimp only at hSw); unfold shapeHeadsNr4_14; go_simp) <;> with_reducible rfl)
            (try simp only [Act.put, List.setIfInBounds_toArray, List.set_cons_zero, List.set_cons_succ])
            refine take_at 15 29 shapeHeadsNr4_15 (v := ?_) (Or.inl ⟨by rfl, ?_⟩) ?_
            rotate_left 1
            · ((intro w hSw; (try dsimp only at hSw); unfold shapeHeadsNr4_15; go_simp) <;> with_reducible rfl)
            (try simp only [Act.put, List.setIfInBounds_toArray, List.set_cons_zero, List.set_cons_succ])
            refine take_at 16 30 shapeHeadsNr4_16 (v := ?_) (Or.inl ⟨by rfl, ?_⟩) ?_
            rotate_left 1
            · ((intro w hSw; (try dsimp only at hSw); unfold shapeHeadsNr4_16; go_simp) <;> with_reducible rfl)
            (try simp only [Act.put, List.setIfInBounds_toArray, List.set_cons_zero, List.set_cons_succ])
            refine take_at 17 31 shapeHeadsNr4_17 (v := ?_) (Or.inl ⟨by rfl, ?_⟩) ?_
            rotate_left 1
            · ((intro w hSw; (try dsimp only at hSw); have qV0 := seesN_of (kept_trans KB48.out Kk58.out) hSw; have qW40 := seesN_of Kk58.out hSw; unfold shapeHeadsNr4_17; go_simp) <;> with_reducible rfl)
            (try simp only [Act.put, List.setIfInBounds_toArray, List.set_cons_zero, List.set_cons_succ])
            refine take_at 18 32 shapeHeadsNr4_18 (v := ?_) (Or.inl ⟨by rfl, ?_⟩) ?_
            rotate_left 1
            · ((intro w hSw; (try dsimp only at hSw); unfold shapeHeadsNr4_18; go_simp) <;> with_reducible rfl)
            (try simp only [Act.put, List.setIfInBounds_toArray, List.set_cons_zero, List.set_cons_succ])
            refine take_at 19 33 shapeHeadsNr4_19 (v := ?_) (Or.inl ⟨by rfl, ?_⟩) ?_
            rotate_left 1
            · ((intro w hSw; (try dsimp only at hSw); unfold shapeHeadsNr4_19; go_simp) <;> with_reducible rfl)
            (try simp only [Act.put, List.setIfInBounds_toArray, List.set_cons_zero, List.set_cons_succ])
            refine take_at 20 34 shapeHeadsNr4_20 (yields_part (w23.heap.size) 0 25 (.tmp 3) #[.int .i64 U31.k, .int .i64 U31.i, .int .i64 U31.j, .int .i64 U31.n, (.slice a28 U31.kids.length c29)] du (fun _ h => seesN_blk HX53.out trivial (seesN_of Kk58.out h)) (by rfl) rfl (by rfl) (by rfl) hu1 (by cases du <;> first | rfl | exact hu2) size_term) ?_
            (try simp only [Act.put, List.setIfInBounds_toArray, List.set_cons_zero, List.set_cons_succ])
            refine take_at 21 35 shapeHeadsNr4_21 (yields_part (w.heap.size) 0 25 (.tmp 1) #[.int .i64 t.k, .int .i64 t.i, .int .i64 t.j, .int .i64 t.n, (.slice a0t t.kids.length ct)] du (fun _ h => seesN_blk Hx1.out trivial (seesN_of (kept_trans KB48.out Kk58.out) h)) (by rfl) rfl (by rfl) (by rfl) hu1 (by cases du <;> first | rfl | exact hu2) size_term) ?_
            (try simp only [Act.put, List.setIfInBounds_toArray, List.set_cons_zero, List.set_cons_succ])
            refine wpAnyH_ready (rs := [22]) (by kernel_rfl) (by simp) ?_
            refine AllReadyH.cons (o := shapeHeadsNr4_22) rfl (fun K hK => ?_) ?_
            · unfold shapeHeadsNr4_22
              go_simp
              have hq71 := keepsame_any U31 t _ ((.slice a28 U31.kids.length c29)) ((.slice a0t t.kids.length ct)) (HL51.out.later (kept_trans Kk58.out (kept_trans Kk62.out (kept_trans Kk65.out Kk68.out)))).lies (HL49.out.later (kept_trans Kk58.out (kept_trans Kk62.out (kept_trans Kk65.out Kk68.out)))).lies
              rw [show sameB U31 t = true from by rw [← HU31.out, und_other HK.out]; exact sameB_self t] at hq71
              refine hq71.mono ?_
              clear hq71
              rintro e w69 ⟨rfl, k70⟩
              have Kk72 := Lib.hid k70
              clear k70
              clear hHeld
              refine hK.out _ _ (seesN_kept _ (kept_trans Kk62.out (kept_trans Kk65.out (kept_trans Kk68.out Kk72.out)))) (fun hHeld => ?_)
              clear hK K
              (try simp only [Act.put, List.setIfInBounds_toArray, List.set_cons_zero, List.set_cons_succ])
              refine take_at 23 37 shapeHeadsNr4_23 (v := ?_) (Or.inl ⟨by rfl, ?_⟩) ?_
              rotate_left 1
              · ((intro w hSw; (try dsimp only at hSw); unfold shapeHeadsNr4_23; go_simp) <;> with_reducible rfl)
              (try simp only [Act.put, List.setIfInBounds_toArray, List.set_cons_zero, List.set_cons_succ])
              refine take_at 24 38 shapeHeadsNr4_24 (v := ?_) (Or.inl ⟨by rfl, ?_⟩) ?_
              rotate_left 1
              · ((intro w hSw; (try dsimp only at hSw); unfold shapeHeadsNr4_24; go_simp) <;> with_reducible rfl)
              (try simp only [Act.put, List.setIfInBounds_toArray, List.set_cons_zero, List.set_cons_succ])
              refine take_at 25 39 shapeHeadsNr4_25 (v := ?_) (Or.inl ⟨by rfl, ?_⟩) ?_
              rotate_left 1
              · ((intro w hSw; (try dsimp only at hSw); unfold shapeHeadsNr4_25; go_simp) <;> with_reducible rfl)
              (try simp only [Act.put, List.setIfInBounds_toArray, List.set_cons_zero, List.set_cons_succ])
              refine wpAnyH_ready (rs := [26]) (by kernel_rfl) (by simp) ?_
              refine AllReadyH.cons (o := shapeHeadsNr4_26) rfl (fun K hK => ?_) ?_
              · unfold shapeHeadsNr4_26
                go_simp
                refine (wakes26_any _).mono ?_
                rintro e w73 ⟨rfl, k74⟩
                have Kk75 := Lib.hid k74
                clear k74
                clear hHeld
                refine hK.out _ _ (seesN_kept _ (kept_trans Kk62.out (kept_trans Kk65.out (kept_trans Kk68.out (kept_trans Kk72.out Kk75.out))))) (fun hHeld => ?_)
                clear hK K
                (try simp only [Act.put, List.setIfInBounds_toArray, List.set_cons_zero, List.set_cons_succ])
                refine take_at 27 41 shapeHeadsNr4_27 (v := ?_) (Or.inl ⟨by rfl, ?_⟩) ?_
                rotate_left 1
                · ((intro w hSw; (try dsimp only at hSw); unfold shapeHeadsNr4_27; go_simp) <;> with_reducible rfl)
                (try simp only [Act.put, List.setIfInBounds_toArray, List.set_cons_zero, List.set_cons_succ])
                refine take_at 28 2 shapeHeadsNr4_28 (v := ?_) (Or.inl ⟨by rfl, ?_⟩) ?_
                rotate_left 1
                · ((intro w hSw; (try dsimp only at hSw); unfold shapeHeadsNr4_28; go_simp) <;> with_reducible rfl)
                (try simp only [Act.put, List.setIfInBounds_toArray, List.set_cons_zero, List.set_cons_succ])
                refine wpAnyH_done (by kernel_rfl) ?_ _
                clear hHeld
                have kvV0 : SeesN V0 V0.heap.size w73 := seesN_kept _ (kept_trans KB48.out (kept_trans Kk58.out (kept_trans Kk62.out (kept_trans Kk65.out (kept_trans Kk68.out (kept_trans Kk72.out Kk75.out))))))
                have kvW40 : SeesN W40 V0.heap.size w73 := seesN_kept _ (kept_trans Kk58.out (kept_trans Kk62.out (kept_trans Kk65.out (kept_trans Kk68.out (kept_trans Kk72.out Kk75.out)))))
                go_wp2
                go_ret
                exact ⟨rfl, (kept_trans KB47.out (kept_trans Kk58.out (kept_trans Kk62.out (kept_trans Kk65.out (kept_trans Kk68.out (kept_trans Kk72.out Kk75.out))))))⟩
              exact AllReadyH.nil
            exact AllReadyH.nil
          exact AllReadyH.nil
        exact AllReadyH.nil
      exact AllReadyH.nil
  | true =>
    have kvV0 : SeesN V0 V0.heap.size w13 := seesN_kept _ (kept_trans Kk11.out Kk17.out)
    go_wp2
    go_ret
    exact ⟨rfl, (kept_trans Kk4.out (kept_trans Kk11.out Kk17.out))⟩

theorem shapeHeads_any (t : Tm) (P : Nat → Prop) (w : World) (st : Value) (hft : t.fine) (hlt : LiesQ w P t.kids st) : Calls Tryz.prog 4 #[tv t st] w fun e w' => e = .returned (.bool true) ∧ Kept w w' := by
  by_cases hk : t.k = 12
  · exact shapeHeadsT_any t P w st hft hlt hk
  · exact shapeHeadsN_any t P w st hft hlt hk
end Go.Proofs.YtgododpkbiaacaaGreat

namespace Go.Proofs.YtgododpkbiaacaaGreat
open Go.ChangeShapes Go.WideShapes Go.ChangeAt Go.RowKit

theorem own : ownKnob Tryz.prog.godebug = none := by kernel_rfl
theorem cells_int : Tryz.prog.cellsOf 3 = 1 := by kernel_rfl
theorem cells_kids : Tryz.prog.cellsOf 23 = 1 := by kernel_rfl
theorem cells_term : Tryz.prog.cellsOf 25 = 5 := by kernel_rfl
theorem laidOut : laidOutB Tryz.prog = true := by kernel_rfl

instance instOpenTm : Inhabited (Tm × Value) := ⟨(.mk 0 0 0 0 [], .nilIface)⟩

theorem list5 {α : Type} {l : List α} (h : l.length = 5) : ∃ a b c d e, l = [a, b, c, d, e] := by
  match l, h with
  | [a, b, c, d, e], _ => exact ⟨a, b, c, d, e, rfl⟩

theorem wf_I64 {x : Int} (h : (Lit.int .i64 x).wf = true) : I64 x := by
  simp [Lit.wf] at h
  have hm : IntKind.i64.min = -9223372036854775808 := by decide
  rw [hm] at h
  exact h

set_option maxRecDepth 100000 in
theorem open_term {H : Type} {enc : TypeId × Value → H} {w : World} {base : Nat} {sp : Nat → Bool} {hd : Bool} : ∀ (fuel : Nat) (cs : List Value) (x : DataW H × List MemPlace),
    DataW.trod enc Tryz.prog w base sp hd fuel 25 cs = some x → ∃ (t : Tm) (s : Value), cs = [.int .i64 t.k, .int .i64 t.i, .int .i64 t.j, .int .i64 t.n, s] ∧ t.fine ∧ Lies w t.kids s := by
  intro fuel
  induction fuel using Nat.strongRecOn with
  | _ fuel ih =>
    intro cs x h
    obtain ⟨xs, n, rfl, rfl, hl, hlen, hf⟩ := DataW.trod_struct Tryz.underlying25 h
    rw [cells_term] at hl
    obtain ⟨v0, v1, v2, v3, v4, rfl⟩ := list5 hl
    obtain ⟨y0, y1, y2, y3, y4, rfl⟩ := list5 hlen
    have g0 := hf 0 _ rfl
    have g1 := hf 1 _ rfl
    have g2 := hf 2 _ rfl
    have g3 := hf 3 _ rfl
    have g4 := hf 4 _ rfl
    simp [cells_int, cells_kids] at g0 g1 g2 g3 g4
    obtain ⟨k, e0, -, w0⟩ := DataW.trod_int Tryz.underlying3 g0
    obtain ⟨i, e1, -, w1⟩ := DataW.trod_int Tryz.underlying3 g1
    obtain ⟨j, e2, -, w2⟩ := DataW.trod_int Tryz.underlying3 g2
    obtain ⟨m, e3, -, w3⟩ := DataW.trod_int Tryz.underlying3 g3
    simp at e0 e1 e2 e3
    subst e0 e1 e2 e3
    rcases DataW.trod_slice Tryz.underlying23 g4 with ⟨e4, -⟩ | ⟨a, len, cap, elems, rest, n', rfl, e4, -, hb, hlc, hm, hlen', hel, -, -⟩
    · simp at e4
      subst e4
      exact ⟨.mk k i j m [], _, rfl, ⟨wf_I64 w0, wf_I64 w1, wf_I64 w2, wf_I64 w3⟩, .mk [] none 0 (fun _ => .nilIface) (Nat.le_refl _) (by decide) (fun _ h => by cases h) (fun _ h => by cases h) (fun _ h => by cases h)⟩
    · simp at e4
      subst e4
      have key : ∀ i, i < len → ∃ p : Tm × Value, p.1.fine ∧ Lies w p.1.kids p.2 ∧ ∃ b o, a = ⟨b, o, none⟩ ∧ Node w b (o + i * 5) p.1 p.2 := by
        intro i hi
        have h1 := hel i hi
        rw [cells_term, List.getElem?_eq_getElem (by omega)] at h1
        obtain ⟨cs', h2, h3⟩ := Option.bind_eq_some_iff.1 h1
        obtain ⟨t, s, rfl, hfine, hlies⟩ := ih n' (by omega) _ _ h3
        obtain ⟨-, -, hcell⟩ := World.cells?_some h2
        have hs0 : a.spot = none := by
          have h1 := hel 0 (by omega)
          rw [cells_term, List.getElem?_eq_getElem (by omega)] at h1
          obtain ⟨cs0, h2, -⟩ := Option.bind_eq_some_iff.1 h1
          obtain ⟨-, hl0, hc0⟩ := World.cells?_some h2
          have c0 := hc0 0 (by omega)
          rw [List.getElem?_eq_getElem (by omega)] at c0
          simpa [Addr.add] using World.cell?_spot c0
        obtain ⟨b, o, spot⟩ := a
        simp only at hs0
        subst hs0
        refine ⟨(t, s), hfine, hlies, b, o, rfl, ?_⟩
        have hc : ∀ q, q < 5 → w.cell? ⟨b, o + i * 5 + q, none⟩ = [Value.int .i64 t.k, .int .i64 t.i, .int .i64 t.j, .int .i64 t.n, s][q]? := fun q hq => by
          have := hcell q hq
          rwa [add_plain, add_plain] at this
        exact ⟨hc 0 (by omega), hc 1 (by omega), hc 2 (by omega), hc 3 (by omega), hc 4 (by omega)⟩
      obtain ⟨f, hf'⟩ := Go.Deep.choose_lt (α := Tm × Value) (p := fun i p => p.1.fine ∧ Lies w p.1.kids p.2 ∧ ∃ b o, a = ⟨b, o, none⟩ ∧ Node w b (o + i * 5) p.1 p.2) key
      have hl5 : ((List.range len).map fun i => (f i).1).length = len := by simp
      refine ⟨.mk k i j m ((List.range len).map fun i => (f i).1), _, rfl, ⟨wf_I64 w0, wf_I64 w1, wf_I64 w2, wf_I64 w3⟩, ?_⟩
      have := Lies.mk (w := w) ((List.range len).map fun i => (f i).1) (some a) cap (fun i => (f i).2) (by simpa using hlc) hm
        (fun x hx => by
          obtain ⟨i, hi, rfl⟩ := List.mem_map.1 hx
          exact (hf' i (List.mem_range.1 hi)).1)
        (fun i hi => by
          obtain ⟨b, o, ha, hn⟩ := (hf' i (by simpa using hi)).2.2
          exact ⟨b, o, by rw [ha], by simpa using hn⟩)
        (fun i hi => by simpa using (hf' i (by simpa using hi)).2.1)
      rwa [hl5] at this
end Go.Proofs.YtgododpkbiaacaaGreat

namespace Go.Proofs.YtgododpkbiaacaaGreat
open Go.ChangeShapes Go.WideShapes Go.ChangeAt Go.RowKit

instance instOpenEn : Inhabited (En × Value) := ⟨(⟨.mk 0 0 0 0 [], 0⟩, .nilIface)⟩
end Go.Proofs.YtgododpkbiaacaaGreat

namespace Go.Proofs.YtgododpkbiaacaaGreat
open Go.ChangeShapes Go.WideShapes Go.ChangeAt Go.RowKit

set_option maxRecDepth 100000 in
theorem open_argTF {H : Type} {enc : TypeId × Value → H} {W : World} {r : Reach} {b0 base : Nat} {sp : Nat → Bool} {hd : Bool} {v : Value} {d : DataW H} {p : List MemPlace} (hv : Value.okWide Tryz.prog W r b0 25 v)
    (h : DataW.Trod enc Tryz.prog W base sp hd 25 v d p) : ∃ (t : Tm) (s : Value), Lies W t.kids s ∧ t.fine ∧ v = tv t s := by
  obtain ⟨cs, rfl, hsz⟩ := okWide_struct Tryz.underlying25 hv
  obtain ⟨fuel, hf⟩ := h
  obtain ⟨t, s, hcs, hft, hl⟩ := open_term fuel _ _ hf
  refine ⟨t, s, hl, hft, ?_⟩
  have : cs.toList = [.int .i64 t.k, .int .i64 t.i, .int .i64 t.j, .int .i64 t.n, s] := by simpa [Value.cells] using hcs
  rw [show cs = #[.int .i64 t.k, .int .i64 t.i, .int .i64 t.j, .int .i64 t.n, s] from by cases cs; simp_all]
end Go.Proofs.YtgododpkbiaacaaGreat

namespace Go.Proofs.YtgododpkbiaacaaGreat
open Go.ChangeShapes Go.WideShapes

def code (l : List Nat) : List Char := l.map Char.ofNat
def joinN : List (List Nat) → List Nat
  | [] => []
  | [a] => a
  | a :: b :: r => a ++ 32 :: joinN (b :: r)

theorem words_one : ∀ a : List Nat, (a.all fun n => Char.ofNat n != Char.ofNat 32) = true → wordsSigns (code a) = [code a]
  | [], _ => rfl
  | n :: a, h => by
    simp only [List.all_cons, Bool.and_eq_true, bne_iff_ne] at h
    have ih := words_one a h.2
    show wordsSigns (Char.ofNat n :: code a) = _
    rw [wordsSigns]
    · rw [ih]; rfl
    · exact h.1
theorem words_more : ∀ (a : List Nat) (r : List Char), (a.all fun n => Char.ofNat n != Char.ofNat 32) = true → wordsSigns (code a ++ Char.ofNat 32 :: r) = code a :: wordsSigns r
  | [], r, _ => by
    show wordsSigns (Char.ofNat 32 :: r) = _
    rw [show Char.ofNat 32 = _ from rfl, wordsSigns]; rfl
  | n :: a, r, h => by
    simp only [List.all_cons, Bool.and_eq_true, bne_iff_ne] at h
    have ih := words_more a r h.2
    show wordsSigns (Char.ofNat n :: (code a ++ Char.ofNat 32 :: r)) = _
    rw [wordsSigns]
    · rw [ih]; rfl
    · exact h.1
theorem words_join : ∀ ws : List (List Nat), ws ≠ [] → (ws.all fun w => w.all fun n => Char.ofNat n != Char.ofNat 32) = true → wordsSigns (code (joinN ws)) = ws.map code
  | [], h, _ => absurd rfl h
  | [a], _, h => by simp only [List.all_cons, List.all_nil, Bool.and_true] at h; exact words_one a h
  | a :: b :: r, _, h => by
    have h' := h
    rw [List.all_cons, Bool.and_eq_true] at h'
    have ih := words_join (b :: r) (by simp) h'.2
    show wordsSigns (code (a ++ 32 :: joinN (b :: r))) = _
    rw [show code (a ++ 32 :: joinN (b :: r)) = code a ++ Char.ofNat 32 :: code (joinN (b :: r)) from by simp [code], words_more a _ h'.1, ih]; rfl

def cutWords : List (List Nat) := [[104, 97, 114, 110, 101, 115, 115],
  [99, 52, 101, 101, 53, 49, 99, 53, 56, 102, 101, 55, 53, 102, 50, 98, 53, 53, 98, 97, 54, 56, 97, 98, 99, 101, 55, 55, 56, 56, 102, 101, 100, 56, 55, 50, 49, 52, 57, 101, 99, 99, 51, 53, 51, 99, 100, 55, 55, 48, 56, 100, 54, 49, 48, 98, 97, 102, 48, 51, 53, 56, 99, 57],
  [99, 117, 116],
  [97, 116],
  [116, 114, 97, 110, 115, 104, 105, 112, 47, 116, 114, 97, 110, 115, 104, 105, 112, 108, 97, 119, 50, 54, 46, 83, 104, 97, 112, 101, 87, 97, 121, 115],
  [116, 114, 97, 110, 115, 104, 105, 112, 47, 116, 114, 97, 110, 115, 104, 105, 112, 108, 97, 119, 50, 54, 46, 83, 104, 97, 112, 101, 72, 101, 97, 100, 115]]

set_option maxRecDepth 100000 in
theorem cut_words : wordsSigns Tryz.prog.initOrder.toList = cutWords.map code := by
  have h : Tryz.prog.initOrder.toList = code (joinN cutWords) := by
    show (String.ofList (code (joinN cutWords))).toList = _
    exact String.toList_ofList
  rw [h]
  exact words_join cutWords (by simp [cutWords]) (by decide +kernel)

theorem cut_behind : behindMainWord (cutWords.map code) = code [99, 117, 116] :: cutWords.tail.tail.tail.map code := by kernel_rfl
theorem cut_lifts : stripLifts liftWords (code [99, 117, 116] :: cutWords.tail.tail.tail.map code) = ([], code [99, 117, 116] :: cutWords.tail.tail.tail.map code) := by kernel_rfl
theorem cut1 : (code [99, 117, 116] == "gc".toList) = false := by kernel_rfl
theorem cut2 : (code [99, 117, 116] == "spec".toList) = false := by kernel_rfl
theorem cut3 : (code [99, 117, 116] == "cut".toList) = true := by kernel_rfl
theorem cut_all : behindMainWord (wordsSigns Tryz.prog.initOrder.toList) = code [99, 117, 116] :: cutWords.tail.tail.tail.map code := by rw [cut_words, cut_behind]
theorem make_of (P : Program) {c : List Char} {rest : List (List Char)} (h : behindMainWord (wordsSigns P.initOrder.toList) = c :: rest) (h1 : (c == "gc".toList) = false) (h2 : (c == "spec".toList) = false) (h3 : (c == "cut".toList) = true) : P.make = some .cut := by
  unfold Program.make; rw [h]
  simp only [h1, h2, h3, Bool.or_self, Bool.false_eq_true, if_false, Bool.true_or, if_true]
theorem mayEnter_of (P : Program) {c : List Char} {rest : List (List Char)} (h : behindMainWord (wordsSigns P.initOrder.toList) = c :: rest) (h3 : ((stripLifts liftWords (c :: rest)).2.head? == some "cut".toList) = true)
    (h4 : (stripLifts liftWords (c :: rest)).1 = []) (h5 : P.laysLater = false) (h6 : P.bearsReflect = false) (h7 : P.doorFits [] = true) : P.mayEnter = true := by
  unfold Program.mayEnter; rw [h]
  refine Bool.or_eq_true_iff.2 (Or.inr ?_)
  rw [h3, h4, h5, h6, h7]; rfl
theorem row_make : Tryz.prog.make = some .cut := make_of Tryz.prog cut_all cut1 cut2 cut3
theorem row_mayEnter : Tryz.prog.mayEnter = true := mayEnter_of Tryz.prog cut_all (by rw [cut_lifts]; kernel_rfl) (by rw [cut_lifts]) (by kernel_rfl) (by kernel_rfl) (by kernel_rfl)
theorem row_lifts : Tryz.prog.liftsFinal = false := by unfold Program.liftsFinal Program.headLifts; rw [cut_all, cut_lifts]; kernel_rfl
end Go.Proofs.YtgododpkbiaacaaGreat

namespace Go.Proofs.YtgododpkbiaacaaGreat.lawShapeHeads
open Go.ChangeShapes Go.WideShapes Go.ChangeAt Go.RowKit

set_option maxRecDepth 100000 in
theorem lifted (os : Os) (started : os.Started) (H : Type) (enc : TypeId × Value → H) :
    ReturnsInHanded {} Tryz.checked os 4 .any (Rows.shapeHeadsSpec.pre6 enc Tryz.prog Tryz.f4 Rows.shapeHeadsRow.domain false) (Rows.shapeHeadsSpec.post enc Tryz.prog Tryz.f4 false true false false) := by
  refine returnsInHanded_of_change (C := Tryz.checked) own started (by kernel_rfl) Tryz.func4
    (ChangeSpec.witness6 (enc := enc) (C := Tryz.checked) false ⟨#[], #[.agg #[.int .i64 0, .int .i64 0, .int .i64 0, .int .i64 0, .slice none 0 0]], []⟩ 8 (by kernel_rfl) (by kernel_rfl) (by kernel_rfl) (by kernel_rfl)) ?_
  intro W base args ds gs before hval0 hW hcnd _
  have hval : ∀ (j : Nat) t v, Tryz.f4.params[j]? = some t → args[j]? = some v → Value.okWide Tryz.prog W .any base t v := hval0
  have hW' := hW
  obtain ⟨p, q, hA0, hV, rfl, hfz, hnd⟩ := hW
  have hA : DataW.TrodAll enc Tryz.prog W 0 (fun _ => true) true Tryz.f4.params.toList args.toList ds p := hA0
  rw [Tryz.params4] at hA hval
  obtain ⟨v0, vs0, d0, ds0, p0, q0, hargs0, rfl, rfl, h0, r0⟩ := trodAll_cons hA
  obtain ⟨rfl, rfl, rfl⟩ := trodAll_nil r0
  obtain rfl : args = #[v0] := by cases args; simp_all
  obtain ⟨rfl, rfl⟩ := trodVars_none hV
  have h0k := h0
  have hlt0 : ∀ x ∈ p0, x.block < W.heap.size := fun x hx => by have := hW'.lt x (by simp [hx]); simpa using this
  obtain ⟨t0, s0, hl0, hf0, hv0⟩ := open_argTF (hval 0 25 v0 rfl rfl) h0
  subst hv0
  clear hA0 hval0
  simp only [List.append_nil] at hW'
  refine (shapeHeads_any t0 (fun b => b < W.heap.size) W s0 hf0 hl0.q).mono fun e W' ⟨he, hb⟩ => ?_
  subst he
  exact ⟨_, rfl, _, _, _, [], _, [], hW', trodAll_cons_mk (shut_bool Tryz.underlying4 _) trodAll_mk0, (trodAll_cons_mk (Below.trod laidOut (by kernel_rfl) (of_decide_eq_true (by kernel_rfl)) h0k hb hlt0) trodAll_mk0), rfl, hb.frame _, fun h => by cases h⟩

theorem closed : joinedFacts Tryz.prog 4 Tryz.f4 Rows.shapeHeadsSpec Rows.shapeHeadsRow = true := by
  unfold joinedFacts
  rw [row_mayEnter, row_lifts, row_make]
  kernel_rfl

theorem proved : Rows.ShapeHeadsSaid :=
  OpenClaim.holds_of_wide 4 Tryz.f4 rfl rfl rfl rfl rfl rfl rfl ⟨rfl, rfl, rfl, rfl, rfl⟩ rfl rfl rfl rfl rfl (by kernel_rfl) Tryz.func4 closed
    (of_decide_eq_true (by kernel_rfl)) (by unfold Func.isWrapper; first | (rw [if_pos (by decide +kernel)]; kernel_rfl) | (rw [if_neg (by decide +kernel)]; exact ⟨rfl, rfl⟩))
    (fun os started H enc _ => lifted os started H enc)
#print axioms proved
end Go.Proofs.YtgododpkbiaacaaGreat.lawShapeHeads
