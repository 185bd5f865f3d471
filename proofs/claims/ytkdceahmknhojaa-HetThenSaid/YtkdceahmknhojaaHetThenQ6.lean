/-
  HetThen holds: for every input the call returns true, and the arguments read as before. No condition.
-/
import Derived.Test.YtkdceahmknhojaaRows
import Derived.WalkKit
import Derived.Lib.Hide
import Derived.KernelRfl
import Derived.Deep.RegionWith
import Derived.Deep.RegionHeld3
import Derived.Deep.AppendLies
import Derived.Laws.Rows
import Derived.Laws.IdiomCopy
import Derived.Deep.Slices
import Derived.Lib.QuietBelow
import Derived.StillTailTactics
import Derived.BigQuiet
import Derived.IntWalk
import Derived.OwnWalk
import Derived.Deep.RegionLaw
import Derived.Deep.QuietTactic
import Derived.Deep.LoopGhost
import Derived.Deep.DeepCutAuto
import Derived.Deep.MidRow
import Derived.OrdersHeld
import Derived.Laws.Tables
import Derived.Laws.CopyOwn
import Derived.Laws.CopyRow
import Derived.Deep.RegionHeld
import Derived.ProofKit
import Derived.OpenShut
import Derived.Carry
import Derived.ChangeSlices
import Derived.JoinedOf
import Derived.Test.YtkdceahmknhojaaHetThenQ5
namespace Go.Proofs.Ytkdceahmknhojaa
open Go.RowKit

def SeesN (V : World) (_ : Nat) (w' : World) : Prop := ∀ k, k < V.heap.size → w'.heap[k]? = V.heap[k]?
theorem seesN_kept {V W : World} (g : Nat) (h : Kept V W) : SeesN V g W := fun k hk => Below.block h k hk
theorem seesN_of {V W w' : World} {g : Nat} (h : Kept V W) (hs : SeesN W g w') : SeesN V g w' := fun k hk => (hs k (Nat.lt_of_lt_of_le hk (Below.size h))).trans (Below.block h k hk)
theorem partN_cell {V : World} {r g : Nat} {C : Array Value} {T : TypeId} {fr : Nat × Nat} (h : V.heap[g]? = some (.cells C T fr)) (_ : True) (o : Nat) (v : Value) (hv : C[o]? = some v) : ∀ w', SeesN V r w' → w'.cell? ⟨g, o, none⟩ = some v := fun w' hk => by
  have hb : w'.heap[g]? = some (.cells C T fr) := (hk g (block_lt h)).trans h
  rw [cell_of_row w' g o C T fr hb]; exact hv
theorem seesN_blk {V w' : World} {r g : Nat} {o : Obj} (h : V.heap[g]? = some o) (_ : True) (hs : SeesN V r w') : w'.heap[g]? = some o := (hs g (block_lt h)).trans h
theorem field_term0 (a b c d e : Value) (w : World) : (Instr.field 32 (.agg #[a, b, c, d, e]) 0).run Try.prog w = .ok a w := by kernel_rfl
theorem field_term3 (a b c d e : Value) (w : World) : (Instr.field 32 (.agg #[a, b, c, d, e]) 3).run Try.prog w = .ok d w := by kernel_rfl
end Go.Proofs.Ytkdceahmknhojaa

namespace Go.Proofs.Ytkdceahmknhojaa
open Go.RowKit

theorem var_plain {i : Int} (h : 0 ≤ i) (h2 : i ≤ 1000000) : (varT i).plainB = true := by
  rw [Tm.plainB_eq]; unfold varT
  simp [Tm.nodeB, mk_k, mk_i, mk_j, mk_n, mk_kids, kidsN, numbersN, plains, h]
  exact decide_eq_true (by omega)
theorem wk_r : heR2 0 [varT 0, varT 1] = true := by
  unfold heR2 plainL
  simp [var0_plain, var_plain (i := 1) (by decide) (by decide), levN]
theorem wk_self : heSelf 0 (varT 0) (varT 1) = (⟨0, varT 0, varT 0, varT 1, varT 1, nodeT 21 [pointsT 0, pointT 0 (varT 0) (varT 1)]⟩ : He) := by unfold heSelf; rw [if_pos wk_r]
theorem wk_plain : (nodeT 21 [pointsT 0, pointT 0 (varT 0) (varT 1)]).plainB = true := by
  have e1 : (pointsT 0).plainB = true := points_plain (by decide)
  have e2 : (pointT 0 (varT 0) (varT 1)).plainB = true := point_plain (by decide) var0_plain (var_plain (by decide) (by decide))
  rw [Tm.plainB_eq]; unfold nodeT
  simp [Tm.nodeB, mk_k, mk_i, mk_j, mk_n, mk_kids, kidsN, numbersN, plains, e1, e2]
theorem wk_type : heType (⟨0, varT 0, varT 0, varT 1, varT 1, nodeT 21 [pointsT 0, pointT 0 (varT 0) (varT 1)]⟩ : He) = useT 6 0 0 [varT 0, varT 0, varT 1, varT 1] := by
  unfold heType
  rw [if_pos]
  unfold heR heR2 plainL
  simp [var0_plain, var_plain (i := 1) (by decide) (by decide), levN, wk_plain]
theorem wk_p2 : pointsB 2 = pointsT 2 := by unfold pointsB heR2 plainL; rw [if_pos (by simp [levN])]
theorem wk_p999 : pointsB 999 = .zero := by unfold pointsB heR2 plainL; rw [if_neg (by simp [levN])]
theorem wk_fine : He.fine (⟨0, varT 0, varT 0, varT 1, varT 1, nodeT 21 [pointsT 0, pointT 0 (varT 0) (varT 1)]⟩ : He) := ⟨by unfold I64; decide, right_fine (plain_right var0_plain), right_fine (plain_right var0_plain), right_fine (plain_right (var_plain (by decide) (by decide))), right_fine (plain_right (var_plain (by decide) (by decide))), right_fine (plain_right wk_plain)⟩

set_option maxRecDepth 20000 in
set_option maxHeartbeats 4000000 in
theorem wakes23_any (w : World) : Calls Try.prog 35 #[] w fun e w' => e = .returned (.bool true) ∧ Kept w w' := by
  obtain ⟨dh, dh1, dh2⟩ := under_of 51 (by kernel_rfl)
  go_enter Try.func35, Try.ntmps35
  go_upto_region 1 with fail
  refine at_code (fun V0 hV0 => ?_)
  have k1 : Kept w V0 := by rw [← hV0]; exact kept_refl _
  have Z0 : Hid (V0.heap.size = w.heap.size + 0) := by show _ = _; rw [← hV0]; rfl
  clear hV0
  have Kk3 := Lib.hid k1
  clear k1
  have kvV0 : SeesN V0 V0.heap.size V0 := seesN_kept _ (kept_refl _)
  go_wp2_with fail
  clear kvV0
  refine (lv_any 0 (Par w V0.heap.size [] (fun _ => False)) _ (show I64 0 from by unfold I64; decide)).mono ?_
  obtain ⟨U11, hU11⟩ : ∃ qu, varT 0 = qu := ⟨_, rfl⟩
  rw [hU11]
  have HU11 := Lib.hid hU11
  clear hU11
  rintro e w4 ⟨s6, rfl, hl7, k5⟩
  obtain ⟨a8, c9, S10, rfl, -⟩ := hl7.out
  have Kk12 := Lib.hid k5
  clear k5
  have Hhl7 : Hid (LiesQ w4 (Par w V0.heap.size [] (fun _ => False)) U11.kids _) := par_give hl7 (Nat.le_refl _) (xlt_nil _)
  clear hl7
  have kvV0 : SeesN V0 V0.heap.size w4 := seesN_kept _ Kk12.out
  go_wp2_with fail
  clear kvV0
  refine (lv_any 1 (Par w V0.heap.size [] (fun _ => False)) _ (show I64 1 from by unfold I64; decide)).mono ?_
  obtain ⟨U20, hU20⟩ : ∃ qu, varT 1 = qu := ⟨_, rfl⟩
  rw [hU20]
  have HU20 := Lib.hid hU20
  clear hU20
  rintro e w13 ⟨s15, rfl, hl16, k14⟩
  obtain ⟨a17, c18, S19, rfl, -⟩ := hl16.out
  have Kk21 := Lib.hid k14
  clear k14
  have Hhl16 : Hid (LiesQ w13 (Par w V0.heap.size [] (fun _ => False)) U20.kids _) := par_give hl16 (Below.size Kk12.out) (xlt_nil _)
  clear hl16
  have kvV0 : SeesN V0 V0.heap.size w13 := seesN_kept _ (kept_trans Kk12.out Kk21.out)
  go_wp2_with fail
  clear kvV0
  have hq24 := hself_any 0 U11 U20 (Par w V0.heap.size [] (fun _ => False)) w13 (.slice a8 U11.kids.length c9) (.slice a17 U20.kids.length c18) (show I64 0 from by unfold I64; decide) (by rw [← HU11.out]; exact (var_fine (show I64 0 from by unfold I64; decide))) (Hhl7.out.later Kk21.out) (by rw [← HU20.out]; exact (var_fine (show I64 1 from by unfold I64; decide))) Hhl16.out
  rw [show heSelf 0 U11 U20 = (⟨0, varT 0, varT 0, varT 1, varT 1, nodeT 21 [pointsT 0, pointT 0 (varT 0) (varT 1)]⟩ : He) from by rw [← HU11.out, ← HU20.out]; exact wk_self] at hq24
  refine hq24.mono ?_
  clear hq24
  obtain ⟨U25, hU25⟩ : ∃ qu, (⟨0, varT 0, varT 0, varT 1, varT 1, nodeT 21 [pointsT 0, pointT 0 (varT 0) (varT 1)]⟩ : He) = qu := ⟨_, rfl⟩
  rw [hU25]
  have HU25 := Lib.hid hU25
  clear hU25
  rintro e w22 ⟨s26, s27, s28, s29, s30, rfl, ⟨hl31, hl32, hl33, hl34, hl35⟩, k23⟩
  obtain ⟨a36, c37, S38, rfl, -⟩ := hl31.out
  obtain ⟨a39, c40, S41, rfl, -⟩ := hl32.out
  obtain ⟨a42, c43, S44, rfl, -⟩ := hl33.out
  obtain ⟨a45, c46, S47, rfl, -⟩ := hl34.out
  obtain ⟨a48, c49, S50, rfl, -⟩ := hl35.out
  have Kk51 := Lib.hid k23
  clear k23
  have Hhl31 : Hid (LiesQ w22 (Par w V0.heap.size [] (fun _ => False)) U25.a.kids _) := par_give hl31 (Below.size (kept_trans Kk12.out Kk21.out)) (xlt_nil _)
  have Hhl32 : Hid (LiesQ w22 (Par w V0.heap.size [] (fun _ => False)) U25.b.kids _) := par_give hl32 (Below.size (kept_trans Kk12.out Kk21.out)) (xlt_nil _)
  have Hhl33 : Hid (LiesQ w22 (Par w V0.heap.size [] (fun _ => False)) U25.x.kids _) := par_give hl33 (Below.size (kept_trans Kk12.out Kk21.out)) (xlt_nil _)
  have Hhl34 : Hid (LiesQ w22 (Par w V0.heap.size [] (fun _ => False)) U25.y.kids _) := par_give hl34 (Below.size (kept_trans Kk12.out Kk21.out)) (xlt_nil _)
  have Hhl35 : Hid (LiesQ w22 (Par w V0.heap.size [] (fun _ => False)) U25.h.kids _) := par_give hl35 (Below.size (kept_trans Kk12.out Kk21.out)) (xlt_nil _)
  clear hl31 hl32 hl33 hl34 hl35
  have kf52 : (U25.h.k == 21) = true := by rw [← HU25.out]; first | rfl | decide
  have kvV0 : SeesN V0 V0.heap.size w22 := seesN_kept _ (kept_trans Kk12.out (kept_trans Kk21.out Kk51.out))
  go_wp2_with (refine stop_store 51 (.tmp 1) (.tmp 4) rfl ?_)
  intro _
  refine wpList_store_part_n (by rfl) 51 (.tmp 1) (.tmp 4) rfl (w22.heap.size) 0 #[.int .i64 U25.i, .int .i64 U25.a.k, .int .i64 U25.a.i, .int .i64 U25.a.j, .int .i64 U25.a.n, (.slice a36 U25.a.kids.length c37), .int .i64 U25.b.k, .int .i64 U25.b.i, .int .i64 U25.b.j, .int .i64 U25.b.n, (.slice a39 U25.b.kids.length c40), .int .i64 U25.x.k, .int .i64 U25.x.i, .int .i64 U25.x.j, .int .i64 U25.x.n, (.slice a42 U25.x.kids.length c43), .int .i64 U25.y.k, .int .i64 U25.y.i, .int .i64 U25.y.j, .int .i64 U25.y.n, (.slice a45 U25.y.kids.length c46), .int .i64 U25.h.k, .int .i64 U25.h.i, .int .i64 U25.h.j, .int .i64 U25.h.n, (.slice a48 U25.h.kids.length c49)] (by rfl) (by rfl) 51 (by kernel_rfl) (row_ok rfl) ?_
  intro W53 hW53
  clear kvV0
  obtain ⟨k56, x55, z57⟩ := alloc1 hW53
  have Kk58 := Lib.hid k56
  clear k56
  have Hx55 := Lib.hid x55
  have Hz57 := Lib.hid z57
  clear x55 z57 hW53
  have HG59 : Hid (V0.heap.size ≤ w22.heap.size) := (Below.size (kept_trans Kk12.out (kept_trans Kk21.out Kk51.out)))
  have XL60 := Lib.hid (xlt_more (xlt_nil _) Kk58.out (by have := Hz57.out; omega))
  have HL61 : Hid (LiesQ W53 (Par w V0.heap.size (w22.heap.size :: []) (fun _ => False)) U11.kids _) := (par_more (Hhl7.out.later (kept_trans Kk21.out Kk51.out))).later Kk58.out
  have HL62 : Hid (LiesQ W53 (Par w V0.heap.size (w22.heap.size :: []) (fun _ => False)) U20.kids _) := (par_more (Hhl16.out.later Kk51.out)).later Kk58.out
  have HL63 : Hid (LiesQ W53 (Par w V0.heap.size (w22.heap.size :: []) (fun _ => False)) U25.a.kids _) := (par_more Hhl31.out).later Kk58.out
  have HL64 : Hid (LiesQ W53 (Par w V0.heap.size (w22.heap.size :: []) (fun _ => False)) U25.b.kids _) := (par_more Hhl32.out).later Kk58.out
  have HL65 : Hid (LiesQ W53 (Par w V0.heap.size (w22.heap.size :: []) (fun _ => False)) U25.x.kids _) := (par_more Hhl33.out).later Kk58.out
  have HL66 : Hid (LiesQ W53 (Par w V0.heap.size (w22.heap.size :: []) (fun _ => False)) U25.y.kids _) := (par_more Hhl34.out).later Kk58.out
  have HL67 : Hid (LiesQ W53 (Par w V0.heap.size (w22.heap.size :: []) (fun _ => False)) U25.h.kids _) := (par_more Hhl35.out).later Kk58.out
  refine ⟨_, #[.int .i64 U25.i, .int .i64 U25.a.k, .int .i64 U25.a.i, .int .i64 U25.a.j, .int .i64 U25.a.n, (.slice a36 U25.a.kids.length c37), .int .i64 U25.b.k, .int .i64 U25.b.i, .int .i64 U25.b.j, .int .i64 U25.b.n, (.slice a39 U25.b.kids.length c40), .int .i64 U25.x.k, .int .i64 U25.x.i, .int .i64 U25.x.j, .int .i64 U25.x.n, (.slice a42 U25.x.kids.length c43), .int .i64 U25.y.k, .int .i64 U25.y.i, .int .i64 U25.y.j, .int .i64 U25.y.n, (.slice a45 U25.y.kids.length c46), .int .i64 U25.h.k, .int .i64 U25.h.i, .int .i64 U25.h.j, .int .i64 U25.h.n, (.slice a48 U25.h.kids.length c49)], Hx55.out, rfl, Nat.le_of_ble_eq_true rfl, ?_⟩
  intro W54 hW54
  have KB68 := Lib.hid (kept_set (kept_trans Kk3.out (kept_trans Kk12.out (kept_trans Kk21.out (kept_trans Kk51.out Kk58.out)))) hW54 (by have := HG59.out; have := Z0.out; omega))
  have KB69 := Lib.hid (kept_set (kept_trans Kk12.out (kept_trans Kk21.out (kept_trans Kk51.out Kk58.out))) hW54 HG59.out)
  have HL70 : Hid (LiesQ W54 (Par w V0.heap.size (w22.heap.size :: []) (fun _ => False)) U11.kids _) := par_set HL61.out hW54 (List.mem_cons_self ..) (by have := HG59.out; have := Z0.out; omega)
  have HL71 : Hid (LiesQ W54 (Par w V0.heap.size (w22.heap.size :: []) (fun _ => False)) U20.kids _) := par_set HL62.out hW54 (List.mem_cons_self ..) (by have := HG59.out; have := Z0.out; omega)
  have HL72 : Hid (LiesQ W54 (Par w V0.heap.size (w22.heap.size :: []) (fun _ => False)) U25.a.kids _) := par_set HL63.out hW54 (List.mem_cons_self ..) (by have := HG59.out; have := Z0.out; omega)
  have HL73 : Hid (LiesQ W54 (Par w V0.heap.size (w22.heap.size :: []) (fun _ => False)) U25.b.kids _) := par_set HL64.out hW54 (List.mem_cons_self ..) (by have := HG59.out; have := Z0.out; omega)
  have HL74 : Hid (LiesQ W54 (Par w V0.heap.size (w22.heap.size :: []) (fun _ => False)) U25.x.kids _) := par_set HL65.out hW54 (List.mem_cons_self ..) (by have := HG59.out; have := Z0.out; omega)
  have HL75 : Hid (LiesQ W54 (Par w V0.heap.size (w22.heap.size :: []) (fun _ => False)) U25.y.kids _) := par_set HL66.out hW54 (List.mem_cons_self ..) (by have := HG59.out; have := Z0.out; omega)
  have HL76 : Hid (LiesQ W54 (Par w V0.heap.size (w22.heap.size :: []) (fun _ => False)) U25.h.kids _) := par_set HL67.out hW54 (List.mem_cons_self ..) (by have := HG59.out; have := Z0.out; omega)
  have XL77 := Lib.hid (xlt_set XL60.out hW54)
  have HX78 := Lib.hid (blk_same Hx55.out hW54)
  clear hW54
  have ld79 := partN_cell (r := V0.heap.size) HX78.out trivial 21 (.int .i64 U25.h.k) rfl
  have kvV0 : SeesN V0 V0.heap.size W54 := seesN_kept _ KB69.out
  have kvW54 : SeesN W54 V0.heap.size W54 := seesN_kept _ (kept_refl _)
  go_wp2_with (refine stop_load 51 (.tmp 1) rfl ?_)
  intro _
  refine wpList_load_part (w22.heap.size) 0 51 (.tmp 1) #[.int .i64 U25.i, .int .i64 U25.a.k, .int .i64 U25.a.i, .int .i64 U25.a.j, .int .i64 U25.a.n, (.slice a36 U25.a.kids.length c37), .int .i64 U25.b.k, .int .i64 U25.b.i, .int .i64 U25.b.j, .int .i64 U25.b.n, (.slice a39 U25.b.kids.length c40), .int .i64 U25.x.k, .int .i64 U25.x.i, .int .i64 U25.x.j, .int .i64 U25.x.n, (.slice a42 U25.x.kids.length c43), .int .i64 U25.y.k, .int .i64 U25.y.i, .int .i64 U25.y.j, .int .i64 U25.y.n, (.slice a45 U25.y.kids.length c46), .int .i64 U25.h.k, .int .i64 U25.h.i, .int .i64 U25.h.j, .int .i64 U25.h.n, (.slice a48 U25.h.kids.length c49)] dh HX78.out (by rfl) rfl (by rfl) (by rfl) dh1 (by cases dh <;> first | rfl | exact dh2) (by kernel_rfl) ?_
  go_wp2_with fail
  clear kvV0
  clear kvW54
  have hq82 := htype_any U25 (Par w V0.heap.size (w22.heap.size :: []) (fun _ => False)) W54 (.slice a36 U25.a.kids.length c37) (.slice a39 U25.b.kids.length c40) (.slice a42 U25.x.kids.length c43) (.slice a45 U25.y.kids.length c46) (.slice a48 U25.h.kids.length c49) ⟨(by rw [← HU25.out]; exact (wk_fine).1), (by rw [← HU25.out]; exact (wk_fine).2.1), (by rw [← HU25.out]; exact (wk_fine).2.2.1), (by rw [← HU25.out]; exact (wk_fine).2.2.2.1), (by rw [← HU25.out]; exact (wk_fine).2.2.2.2.1), (by rw [← HU25.out]; exact (wk_fine).2.2.2.2.2)⟩ ⟨HL72.out, HL73.out, HL74.out, HL75.out, HL76.out⟩
  rw [show heType U25 = useT 6 0 0 [varT 0, varT 0, varT 1, varT 1] from by rw [← HU25.out]; exact wk_type] at hq82
  refine hq82.mono ?_
  clear hq82
  obtain ⟨U88, hU88⟩ : ∃ qu, useT 6 0 0 [varT 0, varT 0, varT 1, varT 1] = qu := ⟨_, rfl⟩
  rw [hU88]
  have HU88 := Lib.hid hU88
  clear hU88
  rintro e w80 ⟨s83, rfl, hl84, k81⟩
  obtain ⟨a85, c86, S87, rfl, -⟩ := hl84.out
  have Kk89 := Lib.hid k81
  clear k81
  have Hhl84 : Hid (LiesQ w80 (Par w V0.heap.size (w22.heap.size :: []) (fun _ => False)) U88.kids _) := par_give hl84 (Below.size KB69.out) XL77.out
  clear hl84
  (try unfold tv)
  have fd90 : ∀ w', (Instr.field 32 (.agg #[.int .i64 U88.k, .int .i64 U88.i, .int .i64 U88.j, .int .i64 U88.n, (.slice a85 U88.kids.length c86)]) 3).run Try.prog w' = .ok (.int .i64 U88.n) w' := fun w' => field_term3 (.int .i64 U88.k) (.int .i64 U88.i) (.int .i64 U88.j) (.int .i64 U88.n) (.slice a85 U88.kids.length c86) w'
  have kf91 : (U88.n == 6) = true := by rw [← HU88.out]; first | rfl | decide
  have kvV0 : SeesN V0 V0.heap.size w80 := seesN_kept _ (kept_trans KB69.out Kk89.out)
  have kvW54 : SeesN W54 V0.heap.size w80 := seesN_kept _ Kk89.out
  go_wp2_with fail
  clear kvV0
  clear kvW54
  have hq94 := hPoints_any 2 (Par w V0.heap.size (w22.heap.size :: []) (fun _ => False)) w80 (show I64 2 from by unfold I64; decide)
  rw [wk_p2] at hq94
  refine hq94.mono ?_
  clear hq94
  obtain ⟨U100, hU100⟩ : ∃ qu, pointsT 2 = qu := ⟨_, rfl⟩
  rw [hU100]
  have HU100 := Lib.hid hU100
  clear hU100
  rintro e w92 ⟨s95, rfl, hl96, k93⟩
  obtain ⟨a97, c98, S99, rfl, -⟩ := hl96.out
  have Kk101 := Lib.hid k93
  clear k93
  have Hhl96 : Hid (LiesQ w92 (Par w V0.heap.size (w22.heap.size :: []) (fun _ => False)) U100.kids _) := par_give hl96 (Below.size (kept_trans KB69.out Kk89.out)) (xlt_later XL77.out Kk89.out)
  clear hl96
  (try unfold tv)
  have fd102 : ∀ w', (Instr.field 32 (.agg #[.int .i64 U100.k, .int .i64 U100.i, .int .i64 U100.j, .int .i64 U100.n, (.slice a97 U100.kids.length c98)]) 0).run Try.prog w' = .ok (.int .i64 U100.k) w' := fun w' => field_term0 (.int .i64 U100.k) (.int .i64 U100.i) (.int .i64 U100.j) (.int .i64 U100.n) (.slice a97 U100.kids.length c98) w'
  have kf103 : (U100.k == 16) = true := by rw [← HU100.out]; first | rfl | decide
  have kvV0 : SeesN V0 V0.heap.size w92 := seesN_kept _ (kept_trans KB69.out (kept_trans Kk89.out Kk101.out))
  have kvW54 : SeesN W54 V0.heap.size w92 := seesN_kept _ (kept_trans Kk89.out Kk101.out)
  go_wp2_with fail
  clear kvV0
  clear kvW54
  have hq106 := hPoints_any 999 (Par w V0.heap.size (w22.heap.size :: []) (fun _ => False)) w92 (show I64 999 from by unfold I64; decide)
  rw [wk_p999] at hq106
  refine hq106.mono ?_
  clear hq106
  rintro e w104 ⟨s107, rfl, hl108, k105⟩
  obtain ⟨a109, c110, S111, rfl, -⟩ := hl108.out
  have Kk112 := Lib.hid k105
  clear k105
  have Hhl108 : Hid (LiesQ w104 (Par w V0.heap.size (w22.heap.size :: []) (fun _ => False)) Tm.zero.kids _) := par_give hl108 (Below.size (kept_trans KB69.out (kept_trans Kk89.out Kk101.out))) (xlt_later XL77.out (kept_trans Kk89.out Kk101.out))
  clear hl108
  (try unfold tv)
  have fd113 : ∀ w', (Instr.field 32 (.agg #[.int .i64 Tm.zero.k, .int .i64 Tm.zero.i, .int .i64 Tm.zero.j, .int .i64 Tm.zero.n, (.slice a109 Tm.zero.kids.length c110)]) 0).run Try.prog w' = .ok (.int .i64 Tm.zero.k) w' := fun w' => field_term0 (.int .i64 Tm.zero.k) (.int .i64 Tm.zero.i) (.int .i64 Tm.zero.j) (.int .i64 Tm.zero.n) (.slice a109 Tm.zero.kids.length c110) w'
  have kf114 : (Tm.zero.k == 0) = true := by first | rfl | decide
  have kvV0 : SeesN V0 V0.heap.size w104 := seesN_kept _ (kept_trans KB69.out (kept_trans Kk89.out (kept_trans Kk101.out Kk112.out)))
  have kvW54 : SeesN W54 V0.heap.size w104 := seesN_kept _ (kept_trans Kk89.out (kept_trans Kk101.out Kk112.out))
  go_wp2
  go_ret
  exact ⟨rfl, (kept_trans KB68.out (kept_trans Kk89.out (kept_trans Kk101.out Kk112.out)))⟩

end Go.Proofs.Ytkdceahmknhojaa

namespace Go.Proofs.Ytkdceahmknhojaa
open Go.RowKit

def hetThenr3_0 : Oper := { dst := some 11, op := Go.Op.load 45 (Go.Operand.tmp 2), type := 45, pos := "law.go:71", after := #[], guard := none }
def hetThenr3_1 : Oper := { dst := some 12, op := Go.Op.call { callee := Go.Callee.value (Go.Operand.func 33), args := #[Go.Operand.tmp 11], argTypes := #[45] }, type := 51, pos := "law.go:71", after := #[{ on := 0, ground := Go.Ground.data }], guard := none }
def hetThenr3_2 : Oper := { dst := some 13, op := Go.Op.load 45 (Go.Operand.tmp 3), type := 45, pos := "law.go:71", after := #[], guard := none }
def hetThenr3_3 : Oper := { dst := some 14, op := Go.Op.call { callee := Go.Callee.value (Go.Operand.func 33), args := #[Go.Operand.tmp 13], argTypes := #[45] }, type := 51, pos := "law.go:71", after := #[{ on := 2, ground := Go.Ground.data }, { on := 1, ground := Go.Ground.chain }], guard := none }
def hetThenr3_4 : Oper := { dst := some 15, op := Go.Op.call { callee := Go.Callee.value (Go.Operand.func 49), args := #[Go.Operand.tmp 12, Go.Operand.tmp 14], argTypes := #[51, 51] }, type := 51, pos := "law.go:71", after := #[{ on := 1, ground := Go.Ground.data }, { on := 3, ground := Go.Ground.data }, { on := 3, ground := Go.Ground.chain }], guard := none }
def hetThenr3_5 : Oper := { dst := some 16, op := Go.Op.load 45 (Go.Operand.tmp 2), type := 45, pos := "law.go:71", after := #[], guard := none }
def hetThenr3_6 : Oper := { dst := some 17, op := Go.Op.load 45 (Go.Operand.tmp 3), type := 45, pos := "law.go:71", after := #[], guard := none }
def hetThenr3_7 : Oper := { dst := some 18, op := Go.Op.call { callee := Go.Callee.value (Go.Operand.func 50), args := #[Go.Operand.tmp 16, Go.Operand.tmp 17], argTypes := #[45, 45] }, type := 45, pos := "law.go:71", after := #[{ on := 5, ground := Go.Ground.data }, { on := 6, ground := Go.Ground.data }, { on := 4, ground := Go.Ground.chain }], guard := none }
def hetThenr3_8 : Oper := { dst := some 19, op := Go.Op.call { callee := Go.Callee.value (Go.Operand.func 36), args := #[Go.Operand.tmp 15, Go.Operand.tmp 18], argTypes := #[51, 45] }, type := 4, pos := "law.go:71", after := #[{ on := 4, ground := Go.Ground.data }, { on := 7, ground := Go.Ground.data }, { on := 7, ground := Go.Ground.chain }], guard := none }
def hetThenr3_9 : Oper := { dst := some 20, op := Go.Op.move (Go.Operand.tmp 19), type := 4, pos := "law.go:71", after := #[{ on := 8, ground := Go.Ground.data }, { on := 8, ground := Go.Ground.chain }], guard := none }
def hetThenr3_10 : Oper := { dst := some 21, op := Go.Op.call { callee := Go.Callee.value (Go.Operand.func 35), args := #[], argTypes := #[] }, type := 4, pos := "law.go:71", after := #[{ on := 9, ground := Go.Ground.chain }, { on := 9, ground := Go.Ground.guard }], guard := some (9, true) }
def hetThenr3_11 : Oper := { dst := some 22, op := Go.Op.pick (Go.Operand.tmp 20) (Go.Operand.tmp 21) (Go.Operand.const (Go.Value.bool false)), type := 4, pos := "law.go:71", after := #[{ on := 9, ground := Go.Ground.data }, { on := 10, ground := Go.Ground.data }], guard := none }
def hetThenr3_12 : Oper := { dst := some 4, op := Go.Op.assign (Go.Operand.tmp 22), type := 4, pos := "law.go:71", after := #[{ on := 11, ground := Go.Ground.data }, { on := 10, ground := Go.Ground.chain }, { on := 0, ground := Go.Ground.phase }, { on := 1, ground := Go.Ground.phase }, { on := 2, ground := Go.Ground.phase }, { on := 3, ground := Go.Ground.phase }, { on := 4, ground := Go.Ground.phase }, { on := 5, ground := Go.Ground.phase }, { on := 6, ground := Go.Ground.phase }, { on := 7, ground := Go.Ground.phase }, { on := 8, ground := Go.Ground.phase }, { on := 9, ground := Go.Ground.phase }, { on := 10, ground := Go.Ground.phase }, { on := 11, ground := Go.Ground.phase }], guard := none }
set_option maxRecDepth 20000 in
set_option maxHeartbeats 4000000 in
theorem hetThen_any (g : He) (h : He) (P : Nat → Prop) (w : World) (sga : Value) (sgb : Value) (sgx : Value) (sgy : Value) (sgh : Value) (sha : Value) (shb : Value) (shx : Value) (shy : Value) (shh : Value) (hfg : g.fine) (hlg : HQ w P g sga sgb sgx sgy sgh) (hfh : h.fine) (hlh : HQ w P h sha shb shx shy shh) : Calls Try.prog 9 #[hv g sga sgb sgx sgy sgh, hv h sha shb shx shy shh] w fun e w' => e = .returned (.bool true) ∧ Kept w w' := by
  have Gg := Lib.hid hfg
  clear hfg
  obtain ⟨hlga, hlgb, hlgx, hlgy, hlgh⟩ := hlg
  obtain ⟨aga, cga, Sga, rfl, -⟩ := hlga.out
  obtain ⟨agb, cgb, Sgb, rfl, -⟩ := hlgb.out
  obtain ⟨agx, cgx, Sgx, rfl, -⟩ := hlgx.out
  obtain ⟨agy, cgy, Sgy, rfl, -⟩ := hlgy.out
  obtain ⟨agh, cgh, Sgh, rfl, -⟩ := hlgh.out
  have Gh := Lib.hid hfh
  clear hfh
  obtain ⟨hlha, hlhb, hlhx, hlhy, hlhh⟩ := hlh
  obtain ⟨aha, cha, Sha, rfl, -⟩ := hlha.out
  obtain ⟨ahb, chb, Shb, rfl, -⟩ := hlhb.out
  obtain ⟨ahx, chx, Shx, rfl, -⟩ := hlhx.out
  obtain ⟨ahy, chy, Shy, rfl, -⟩ := hlhy.out
  obtain ⟨ahh, chh, Shh, rfl, -⟩ := hlhh.out
  obtain ⟨dr, dr1, dr2⟩ := under_of 45 (by kernel_rfl)
  unfold hv
  go_enter Try.func9, Try.ntmps9
  go_upto_region 1 with fail
  refine at_code (fun V0 hV0 => ?_)
  obtain ⟨k3, x1, x2, z4⟩ := alloc2 hV0
  have Kk5 := Lib.hid k3
  clear k3
  have Hx1 := Lib.hid x1
  have Hx2 := Lib.hid x2
  have Z0 := Lib.hid z4
  clear z4 x1 x2 hV0
  have HLga : Hid (LiesQ V0 (Par w V0.heap.size [] P) g.a.kids _) := (par_in _ _ hlga).later Kk5.out
  clear hlga
  have HLgb : Hid (LiesQ V0 (Par w V0.heap.size [] P) g.b.kids _) := (par_in _ _ hlgb).later Kk5.out
  clear hlgb
  have HLgx : Hid (LiesQ V0 (Par w V0.heap.size [] P) g.x.kids _) := (par_in _ _ hlgx).later Kk5.out
  clear hlgx
  have HLgy : Hid (LiesQ V0 (Par w V0.heap.size [] P) g.y.kids _) := (par_in _ _ hlgy).later Kk5.out
  clear hlgy
  have HLgh : Hid (LiesQ V0 (Par w V0.heap.size [] P) g.h.kids _) := (par_in _ _ hlgh).later Kk5.out
  clear hlgh
  have HLha : Hid (LiesQ V0 (Par w V0.heap.size [] P) h.a.kids _) := (par_in _ _ hlha).later Kk5.out
  clear hlha
  have HLhb : Hid (LiesQ V0 (Par w V0.heap.size [] P) h.b.kids _) := (par_in _ _ hlhb).later Kk5.out
  clear hlhb
  have HLhx : Hid (LiesQ V0 (Par w V0.heap.size [] P) h.x.kids _) := (par_in _ _ hlhx).later Kk5.out
  clear hlhx
  have HLhy : Hid (LiesQ V0 (Par w V0.heap.size [] P) h.y.kids _) := (par_in _ _ hlhy).later Kk5.out
  clear hlhy
  have HLhh : Hid (LiesQ V0 (Par w V0.heap.size [] P) h.h.kids _) := (par_in _ _ hlhh).later Kk5.out
  clear hlhh
  have kvV0 : SeesN V0 V0.heap.size V0 := seesN_kept _ (kept_refl _)
  go_wp2_with (refine stop_load 45 (.tmp 2) rfl ?_)
  intro _
  refine wpList_load_part (w.heap.size) 0 45 (.tmp 2) #[.int .i64 g.i, .int .i64 g.a.k, .int .i64 g.a.i, .int .i64 g.a.j, .int .i64 g.a.n, (.slice aga g.a.kids.length cga), .int .i64 g.b.k, .int .i64 g.b.i, .int .i64 g.b.j, .int .i64 g.b.n, (.slice agb g.b.kids.length cgb), .int .i64 g.x.k, .int .i64 g.x.i, .int .i64 g.x.j, .int .i64 g.x.n, (.slice agx g.x.kids.length cgx), .int .i64 g.y.k, .int .i64 g.y.i, .int .i64 g.y.j, .int .i64 g.y.n, (.slice agy g.y.kids.length cgy), .int .i64 g.h.k, .int .i64 g.h.i, .int .i64 g.h.j, .int .i64 g.h.n, (.slice agh g.h.kids.length cgh)] dr Hx1.out (by rfl) rfl (by rfl) (by rfl) dr1 (by cases dr <;> first | rfl | exact dr2) (by kernel_rfl) ?_
  go_wp2_with fail
  clear kvV0
  refine (lheavy_any g (Par w V0.heap.size [] P) _ (.slice aga g.a.kids.length cga) (.slice agb g.b.kids.length cgb) (.slice agx g.x.kids.length cgx) (.slice agy g.y.kids.length cgy) (.slice agh g.h.kids.length cgh) ⟨Gg.out.1, Gg.out.2.1, Gg.out.2.2.1, Gg.out.2.2.2.1, Gg.out.2.2.2.2.1, Gg.out.2.2.2.2.2⟩ ⟨HLga.out, HLgb.out, HLgx.out, HLgy.out, HLgh.out⟩).mono ?_
  rintro e w6 ⟨gb8, rfl, hg9, k7⟩
  have Hhg9 := Lib.hid hg9
  clear hg9
  have Kk10 := Lib.hid k7
  clear k7
  cases gb8 with
  | false =>
    have HIhg9 := Lib.hid (Hhg9.out rfl)
    have kvV0 : SeesN V0 V0.heap.size w6 := seesN_kept _ Kk10.out
    go_wp2_with (refine stop_load 45 (.tmp 3) rfl ?_)
    intro _
    refine wpList_load_part (w.heap.size + 1) 0 45 (.tmp 3) #[.int .i64 h.i, .int .i64 h.a.k, .int .i64 h.a.i, .int .i64 h.a.j, .int .i64 h.a.n, (.slice aha h.a.kids.length cha), .int .i64 h.b.k, .int .i64 h.b.i, .int .i64 h.b.j, .int .i64 h.b.n, (.slice ahb h.b.kids.length chb), .int .i64 h.x.k, .int .i64 h.x.i, .int .i64 h.x.j, .int .i64 h.x.n, (.slice ahx h.x.kids.length chx), .int .i64 h.y.k, .int .i64 h.y.i, .int .i64 h.y.j, .int .i64 h.y.n, (.slice ahy h.y.kids.length chy), .int .i64 h.h.k, .int .i64 h.h.i, .int .i64 h.h.j, .int .i64 h.h.n, (.slice ahh h.h.kids.length chh)] dr (blk_at Hx2.out Kk10.out) (by rfl) rfl (by rfl) (by rfl) dr1 (by cases dr <;> first | rfl | exact dr2) (by kernel_rfl) ?_
    go_wp2_with fail
    clear kvV0
    refine (lheavy_any h (Par w V0.heap.size [] P) _ (.slice aha h.a.kids.length cha) (.slice ahb h.b.kids.length chb) (.slice ahx h.x.kids.length chx) (.slice ahy h.y.kids.length chy) (.slice ahh h.h.kids.length chh) ⟨Gh.out.1, Gh.out.2.1, Gh.out.2.2.1, Gh.out.2.2.2.1, Gh.out.2.2.2.2.1, Gh.out.2.2.2.2.2⟩ ⟨(HLha.out.later Kk10.out), (HLhb.out.later Kk10.out), (HLhx.out.later Kk10.out), (HLhy.out.later Kk10.out), (HLhh.out.later Kk10.out)⟩).mono ?_
    rintro e w11 ⟨gb13, rfl, hg14, k12⟩
    have Hhg14 := Lib.hid hg14
    clear hg14
    have Kk15 := Lib.hid k12
    clear k12
    cases gb13 with
    | false =>
      have HIhg14 := Lib.hid (Hhg14.out rfl)
      have kvV0 : SeesN V0 V0.heap.size w11 := seesN_kept _ (kept_trans Kk10.out Kk15.out)
      go_wp2_with fail
      clear kvV0
      obtain ⟨W16, h17⟩ : ∃ x, World.drew w11 = x := ⟨_, rfl⟩
      have k18 : Kept w11 W16 := by rw [← h17]; exact kept_drew (kept_refl _)
      have Kk19 := Lib.hid k18
      clear k18
      refine wp_region_held_drew (S := SeesN W16 V0.heap.size) (by kernel_rfl) ?_ (fun hHeld => ?_)
      · (try dsimp only)
        rw [h17]
        exact seesN_kept _ (kept_refl _)
      rw [h17] at hHeld ⊢
      clear h17
      refine take_at 0 11 hetThenr3_0 (yields_part (w.heap.size) 0 45 (.tmp 2) #[.int .i64 g.i, .int .i64 g.a.k, .int .i64 g.a.i, .int .i64 g.a.j, .int .i64 g.a.n, (.slice aga g.a.kids.length cga), .int .i64 g.b.k, .int .i64 g.b.i, .int .i64 g.b.j, .int .i64 g.b.n, (.slice agb g.b.kids.length cgb), .int .i64 g.x.k, .int .i64 g.x.i, .int .i64 g.x.j, .int .i64 g.x.n, (.slice agx g.x.kids.length cgx), .int .i64 g.y.k, .int .i64 g.y.i, .int .i64 g.y.j, .int .i64 g.y.n, (.slice agy g.y.kids.length cgy), .int .i64 g.h.k, .int .i64 g.h.i, .int .i64 g.h.j, .int .i64 g.h.n, (.slice agh g.h.kids.length cgh)] dr (fun _ h => seesN_blk Hx1.out trivial (seesN_of (kept_trans Kk10.out (kept_trans Kk15.out Kk19.out)) h)) (by rfl) rfl (by rfl) (by rfl) dr1 (by cases dr <;> first | rfl | exact dr2) (by kernel_rfl)) ?_
      (try simp only [Act.put, List.setIfInBounds_toArray, List.set_cons_zero, List.set_cons_succ])
      refine take_at 2 13 hetThenr3_2 (yields_part (w.heap.size + 1) 0 45 (.tmp 3) #[.int .i64 h.i, .int .i64 h.a.k, .int .i64 h.a.i, .int .i64 h.a.j, .int .i64 h.a.n, (.slice aha h.a.kids.length cha), .int .i64 h.b.k, .int .i64 h.b.i, .int .i64 h.b.j, .int .i64 h.b.n, (.slice ahb h.b.kids.length chb), .int .i64 h.x.k, .int .i64 h.x.i, .int .i64 h.x.j, .int .i64 h.x.n, (.slice ahx h.x.kids.length chx), .int .i64 h.y.k, .int .i64 h.y.i, .int .i64 h.y.j, .int .i64 h.y.n, (.slice ahy h.y.kids.length chy), .int .i64 h.h.k, .int .i64 h.h.i, .int .i64 h.h.j, .int .i64 h.h.n, (.slice ahh h.h.kids.length chh)] dr (fun _ h => seesN_blk Hx2.out trivial (seesN_of (kept_trans Kk10.out (kept_trans Kk15.out Kk19.out)) h)) (by rfl) rfl (by rfl) (by rfl) dr1 (by cases dr <;> first | rfl | exact dr2) (by kernel_rfl)) ?_
      (try simp only [Act.put, List.setIfInBounds_toArray, List.set_cons_zero, List.set_cons_succ])
      refine take_at 5 16 hetThenr3_5 (yields_part (w.heap.size) 0 45 (.tmp 2) #[.int .i64 g.i, .int .i64 g.a.k, .int .i64 g.a.i, .int .i64 g.a.j, .int .i64 g.a.n, (.slice aga g.a.kids.length cga), .int .i64 g.b.k, .int .i64 g.b.i, .int .i64 g.b.j, .int .i64 g.b.n, (.slice agb g.b.kids.length cgb), .int .i64 g.x.k, .int .i64 g.x.i, .int .i64 g.x.j, .int .i64 g.x.n, (.slice agx g.x.kids.length cgx), .int .i64 g.y.k, .int .i64 g.y.i, .int .i64 g.y.j, .int .i64 g.y.n, (.slice agy g.y.kids.length cgy), .int .i64 g.h.k, .int .i64 g.h.i, .int .i64 g.h.j, .int .i64 g.h.n, (.slice agh g.h.kids.length cgh)] dr (fun _ h => seesN_blk Hx1.out trivial (seesN_of (kept_trans Kk10.out (kept_trans Kk15.out Kk19.out)) h)) (by rfl) rfl (by rfl) (by rfl) dr1 (by cases dr <;> first | rfl | exact dr2) (by kernel_rfl)) ?_
      (try simp only [Act.put, List.setIfInBounds_toArray, List.set_cons_zero, List.set_cons_succ])
      refine take_at 6 17 hetThenr3_6 (yields_part (w.heap.size + 1) 0 45 (.tmp 3) #[.int .i64 h.i, .int .i64 h.a.k, .int .i64 h.a.i, .int .i64 h.a.j, .int .i64 h.a.n, (.slice aha h.a.kids.length cha), .int .i64 h.b.k, .int .i64 h.b.i, .int .i64 h.b.j, .int .i64 h.b.n, (.slice ahb h.b.kids.length chb), .int .i64 h.x.k, .int .i64 h.x.i, .int .i64 h.x.j, .int .i64 h.x.n, (.slice ahx h.x.kids.length chx), .int .i64 h.y.k, .int .i64 h.y.i, .int .i64 h.y.j, .int .i64 h.y.n, (.slice ahy h.y.kids.length chy), .int .i64 h.h.k, .int .i64 h.h.i, .int .i64 h.h.j, .int .i64 h.h.n, (.slice ahh h.h.kids.length chh)] dr (fun _ h => seesN_blk Hx2.out trivial (seesN_of (kept_trans Kk10.out (kept_trans Kk15.out Kk19.out)) h)) (by rfl) rfl (by rfl) (by rfl) dr1 (by cases dr <;> first | rfl | exact dr2) (by kernel_rfl)) ?_
      (try simp only [Act.put, List.setIfInBounds_toArray, List.set_cons_zero, List.set_cons_succ])
      refine wpAnyH_ready (rs := [1]) (by kernel_rfl) (by simp) ?_
      refine AllReadyH.cons (o := hetThenr3_1) rfl (fun K hK => ?_) ?_
      · unfold hetThenr3_1
        go_simp
        refine (lours_any g (Par w V0.heap.size [] P) _ (.slice aga g.a.kids.length cga) (.slice agb g.b.kids.length cgb) (.slice agx g.x.kids.length cgx) (.slice agy g.y.kids.length cgy) (.slice agh g.h.kids.length cgh) ⟨Gg.out.1, Gg.out.2.1, Gg.out.2.2.1, Gg.out.2.2.2.1, Gg.out.2.2.2.2.1, Gg.out.2.2.2.2.2⟩ ⟨(HLga.out.later (kept_trans Kk10.out (kept_trans Kk15.out Kk19.out))), (HLgb.out.later (kept_trans Kk10.out (kept_trans Kk15.out Kk19.out))), (HLgx.out.later (kept_trans Kk10.out (kept_trans Kk15.out Kk19.out))), (HLgy.out.later (kept_trans Kk10.out (kept_trans Kk15.out Kk19.out))), (HLgh.out.later (kept_trans Kk10.out (kept_trans Kk15.out Kk19.out)))⟩).mono ?_
        rintro e w20 ⟨s22, s23, s24, s25, s26, rfl, ⟨hl27, hl28, hl29, hl30, hl31⟩, k21⟩
        obtain ⟨a32, c33, S34, rfl, -⟩ := hl27.out
        obtain ⟨a35, c36, S37, rfl, -⟩ := hl28.out
        obtain ⟨a38, c39, S40, rfl, -⟩ := hl29.out
        obtain ⟨a41, c42, S43, rfl, -⟩ := hl30.out
        obtain ⟨a44, c45, S46, rfl, -⟩ := hl31.out
        have Kk47 := Lib.hid k21
        clear k21
        have Hhl27 : Hid (LiesQ w20 (Par w V0.heap.size [] P) g.a.kids _) := par_give hl27 (Below.size (kept_trans Kk10.out (kept_trans Kk15.out Kk19.out))) (xlt_nil _)
        have Hhl28 : Hid (LiesQ w20 (Par w V0.heap.size [] P) g.b.kids _) := par_give hl28 (Below.size (kept_trans Kk10.out (kept_trans Kk15.out Kk19.out))) (xlt_nil _)
        have Hhl29 : Hid (LiesQ w20 (Par w V0.heap.size [] P) g.x.kids _) := par_give hl29 (Below.size (kept_trans Kk10.out (kept_trans Kk15.out Kk19.out))) (xlt_nil _)
        have Hhl30 : Hid (LiesQ w20 (Par w V0.heap.size [] P) g.y.kids _) := par_give hl30 (Below.size (kept_trans Kk10.out (kept_trans Kk15.out Kk19.out))) (xlt_nil _)
        have Hhl31 : Hid (LiesQ w20 (Par w V0.heap.size [] P) g.h.kids _) := par_give hl31 (Below.size (kept_trans Kk10.out (kept_trans Kk15.out Kk19.out))) (xlt_nil _)
        clear hl27 hl28 hl29 hl30 hl31
        clear hHeld
        refine hK.out _ _ ?_ (fun hHeld => ?_)
        · (try dsimp only)
          exact seesN_kept _ Kk47.out
        clear hK K
        (try simp only [Act.put, List.setIfInBounds_toArray, List.set_cons_zero, List.set_cons_succ])
        refine wpAnyH_ready (rs := [3]) (by kernel_rfl) (by simp) ?_
        refine AllReadyH.cons (o := hetThenr3_3) rfl (fun K hK => ?_) ?_
        · unfold hetThenr3_3
          go_simp
          refine (lours_any h (Par w V0.heap.size [] P) _ (.slice aha h.a.kids.length cha) (.slice ahb h.b.kids.length chb) (.slice ahx h.x.kids.length chx) (.slice ahy h.y.kids.length chy) (.slice ahh h.h.kids.length chh) ⟨Gh.out.1, Gh.out.2.1, Gh.out.2.2.1, Gh.out.2.2.2.1, Gh.out.2.2.2.2.1, Gh.out.2.2.2.2.2⟩ ⟨(HLha.out.later (kept_trans Kk10.out (kept_trans Kk15.out (kept_trans Kk19.out Kk47.out)))), (HLhb.out.later (kept_trans Kk10.out (kept_trans Kk15.out (kept_trans Kk19.out Kk47.out)))), (HLhx.out.later (kept_trans Kk10.out (kept_trans Kk15.out (kept_trans Kk19.out Kk47.out)))), (HLhy.out.later (kept_trans Kk10.out (kept_trans Kk15.out (kept_trans Kk19.out Kk47.out)))), (HLhh.out.later (kept_trans Kk10.out (kept_trans Kk15.out (kept_trans Kk19.out Kk47.out))))⟩).mono ?_
          rintro e w48 ⟨s50, s51, s52, s53, s54, rfl, ⟨hl55, hl56, hl57, hl58, hl59⟩, k49⟩
          obtain ⟨a60, c61, S62, rfl, -⟩ := hl55.out
          obtain ⟨a63, c64, S65, rfl, -⟩ := hl56.out
          obtain ⟨a66, c67, S68, rfl, -⟩ := hl57.out
          obtain ⟨a69, c70, S71, rfl, -⟩ := hl58.out
          obtain ⟨a72, c73, S74, rfl, -⟩ := hl59.out
          have Kk75 := Lib.hid k49
          clear k49
          have Hhl55 : Hid (LiesQ w48 (Par w V0.heap.size [] P) h.a.kids _) := par_give hl55 (Below.size (kept_trans Kk10.out (kept_trans Kk15.out (kept_trans Kk19.out Kk47.out)))) (xlt_nil _)
          have Hhl56 : Hid (LiesQ w48 (Par w V0.heap.size [] P) h.b.kids _) := par_give hl56 (Below.size (kept_trans Kk10.out (kept_trans Kk15.out (kept_trans Kk19.out Kk47.out)))) (xlt_nil _)
          have Hhl57 : Hid (LiesQ w48 (Par w V0.heap.size [] P) h.x.kids _) := par_give hl57 (Below.size (kept_trans Kk10.out (kept_trans Kk15.out (kept_trans Kk19.out Kk47.out)))) (xlt_nil _)
          have Hhl58 : Hid (LiesQ w48 (Par w V0.heap.size [] P) h.y.kids _) := par_give hl58 (Below.size (kept_trans Kk10.out (kept_trans Kk15.out (kept_trans Kk19.out Kk47.out)))) (xlt_nil _)
          have Hhl59 : Hid (LiesQ w48 (Par w V0.heap.size [] P) h.h.kids _) := par_give hl59 (Below.size (kept_trans Kk10.out (kept_trans Kk15.out (kept_trans Kk19.out Kk47.out)))) (xlt_nil _)
          clear hl55 hl56 hl57 hl58 hl59
          clear hHeld
          refine hK.out _ _ ?_ (fun hHeld => ?_)
          · (try dsimp only)
            exact seesN_kept _ (kept_trans Kk47.out Kk75.out)
          clear hK K
          (try simp only [Act.put, List.setIfInBounds_toArray, List.set_cons_zero, List.set_cons_succ])
          refine wpAnyH_ready (rs := [4]) (by kernel_rfl) (by simp) ?_
          refine AllReadyH.cons (o := hetThenr3_4) rfl (fun K hK => ?_) ?_
          · unfold hetThenr3_4
            go_simp
            refine (hthen_any g h (Par w V0.heap.size [] P) _ (.slice a32 g.a.kids.length c33) (.slice a35 g.b.kids.length c36) (.slice a38 g.x.kids.length c39) (.slice a41 g.y.kids.length c42) (.slice a44 g.h.kids.length c45) (.slice a60 h.a.kids.length c61) (.slice a63 h.b.kids.length c64) (.slice a66 h.x.kids.length c67) (.slice a69 h.y.kids.length c70) (.slice a72 h.h.kids.length c73) ⟨((show He.fine g from ⟨Gg.out.1, Gg.out.2.1, Gg.out.2.2.1, Gg.out.2.2.2.1, Gg.out.2.2.2.2.1, Gg.out.2.2.2.2.2⟩)).1, ((show He.fine g from ⟨Gg.out.1, Gg.out.2.1, Gg.out.2.2.1, Gg.out.2.2.2.1, Gg.out.2.2.2.2.1, Gg.out.2.2.2.2.2⟩)).2.1, ((show He.fine g from ⟨Gg.out.1, Gg.out.2.1, Gg.out.2.2.1, Gg.out.2.2.2.1, Gg.out.2.2.2.2.1, Gg.out.2.2.2.2.2⟩)).2.2.1, ((show He.fine g from ⟨Gg.out.1, Gg.out.2.1, Gg.out.2.2.1, Gg.out.2.2.2.1, Gg.out.2.2.2.2.1, Gg.out.2.2.2.2.2⟩)).2.2.2.1, ((show He.fine g from ⟨Gg.out.1, Gg.out.2.1, Gg.out.2.2.1, Gg.out.2.2.2.1, Gg.out.2.2.2.2.1, Gg.out.2.2.2.2.2⟩)).2.2.2.2.1, ((show He.fine g from ⟨Gg.out.1, Gg.out.2.1, Gg.out.2.2.1, Gg.out.2.2.2.1, Gg.out.2.2.2.2.1, Gg.out.2.2.2.2.2⟩)).2.2.2.2.2⟩ ⟨(Hhl27.out.later Kk75.out), (Hhl28.out.later Kk75.out), (Hhl29.out.later Kk75.out), (Hhl30.out.later Kk75.out), (Hhl31.out.later Kk75.out)⟩ ⟨((show He.fine h from ⟨Gh.out.1, Gh.out.2.1, Gh.out.2.2.1, Gh.out.2.2.2.1, Gh.out.2.2.2.2.1, Gh.out.2.2.2.2.2⟩)).1, ((show He.fine h from ⟨Gh.out.1, Gh.out.2.1, Gh.out.2.2.1, Gh.out.2.2.2.1, Gh.out.2.2.2.2.1, Gh.out.2.2.2.2.2⟩)).2.1, ((show He.fine h from ⟨Gh.out.1, Gh.out.2.1, Gh.out.2.2.1, Gh.out.2.2.2.1, Gh.out.2.2.2.2.1, Gh.out.2.2.2.2.2⟩)).2.2.1, ((show He.fine h from ⟨Gh.out.1, Gh.out.2.1, Gh.out.2.2.1, Gh.out.2.2.2.1, Gh.out.2.2.2.2.1, Gh.out.2.2.2.2.2⟩)).2.2.2.1, ((show He.fine h from ⟨Gh.out.1, Gh.out.2.1, Gh.out.2.2.1, Gh.out.2.2.2.1, Gh.out.2.2.2.2.1, Gh.out.2.2.2.2.2⟩)).2.2.2.2.1, ((show He.fine h from ⟨Gh.out.1, Gh.out.2.1, Gh.out.2.2.1, Gh.out.2.2.2.1, Gh.out.2.2.2.2.1, Gh.out.2.2.2.2.2⟩)).2.2.2.2.2⟩ ⟨Hhl55.out, Hhl56.out, Hhl57.out, Hhl58.out, Hhl59.out⟩).mono ?_
            obtain ⟨U78, hU78⟩ : ∃ qu, heThen g h = qu := ⟨_, rfl⟩
            rw [hU78]
            have HU78 := Lib.hid hU78
            clear hU78
            rintro e w76 ⟨s79, s80, s81, s82, s83, rfl, ⟨hl84, hl85, hl86, hl87, hl88⟩, k77⟩
            obtain ⟨a89, c90, S91, rfl, -⟩ := hl84.out
            obtain ⟨a92, c93, S94, rfl, -⟩ := hl85.out
            obtain ⟨a95, c96, S97, rfl, -⟩ := hl86.out
            obtain ⟨a98, c99, S100, rfl, -⟩ := hl87.out
            obtain ⟨a101, c102, S103, rfl, -⟩ := hl88.out
            have Kk104 := Lib.hid k77
            clear k77
            have Hhl84 : Hid (LiesQ w76 (Par w V0.heap.size [] P) U78.a.kids _) := par_give hl84 (Below.size (kept_trans Kk10.out (kept_trans Kk15.out (kept_trans Kk19.out (kept_trans Kk47.out Kk75.out))))) (xlt_nil _)
            have Hhl85 : Hid (LiesQ w76 (Par w V0.heap.size [] P) U78.b.kids _) := par_give hl85 (Below.size (kept_trans Kk10.out (kept_trans Kk15.out (kept_trans Kk19.out (kept_trans Kk47.out Kk75.out))))) (xlt_nil _)
            have Hhl86 : Hid (LiesQ w76 (Par w V0.heap.size [] P) U78.x.kids _) := par_give hl86 (Below.size (kept_trans Kk10.out (kept_trans Kk15.out (kept_trans Kk19.out (kept_trans Kk47.out Kk75.out))))) (xlt_nil _)
            have Hhl87 : Hid (LiesQ w76 (Par w V0.heap.size [] P) U78.y.kids _) := par_give hl87 (Below.size (kept_trans Kk10.out (kept_trans Kk15.out (kept_trans Kk19.out (kept_trans Kk47.out Kk75.out))))) (xlt_nil _)
            have Hhl88 : Hid (LiesQ w76 (Par w V0.heap.size [] P) U78.h.kids _) := par_give hl88 (Below.size (kept_trans Kk10.out (kept_trans Kk15.out (kept_trans Kk19.out (kept_trans Kk47.out Kk75.out))))) (xlt_nil _)
            clear hl84 hl85 hl86 hl87 hl88
            clear hHeld
            refine hK.out _ _ ?_ (fun hHeld => ?_)
            · (try dsimp only)
              exact seesN_kept _ (kept_trans Kk47.out (kept_trans Kk75.out Kk104.out))
            clear hK K
            (try simp only [Act.put, List.setIfInBounds_toArray, List.set_cons_zero, List.set_cons_succ])
            refine wpAnyH_ready (rs := [7]) (by kernel_rfl) (by simp) ?_
            refine AllReadyH.cons (o := hetThenr3_7) rfl (fun K hK => ?_) ?_
            · unfold hetThenr3_7
              go_simp
              refine (rThen_any g h (Par w V0.heap.size [] P) _ (.slice aga g.a.kids.length cga) (.slice agb g.b.kids.length cgb) (.slice agx g.x.kids.length cgx) (.slice agy g.y.kids.length cgy) (.slice agh g.h.kids.length cgh) (.slice aha h.a.kids.length cha) (.slice ahb h.b.kids.length chb) (.slice ahx h.x.kids.length chx) (.slice ahy h.y.kids.length chy) (.slice ahh h.h.kids.length chh) ⟨Gg.out.1, Gg.out.2.1, Gg.out.2.2.1, Gg.out.2.2.2.1, Gg.out.2.2.2.2.1, Gg.out.2.2.2.2.2⟩ ⟨(HLga.out.later (kept_trans Kk10.out (kept_trans Kk15.out (kept_trans Kk19.out (kept_trans Kk47.out (kept_trans Kk75.out Kk104.out)))))), (HLgb.out.later (kept_trans Kk10.out (kept_trans Kk15.out (kept_trans Kk19.out (kept_trans Kk47.out (kept_trans Kk75.out Kk104.out)))))), (HLgx.out.later (kept_trans Kk10.out (kept_trans Kk15.out (kept_trans Kk19.out (kept_trans Kk47.out (kept_trans Kk75.out Kk104.out)))))), (HLgy.out.later (kept_trans Kk10.out (kept_trans Kk15.out (kept_trans Kk19.out (kept_trans Kk47.out (kept_trans Kk75.out Kk104.out)))))), (HLgh.out.later (kept_trans Kk10.out (kept_trans Kk15.out (kept_trans Kk19.out (kept_trans Kk47.out (kept_trans Kk75.out Kk104.out))))))⟩ ⟨Gh.out.1, Gh.out.2.1, Gh.out.2.2.1, Gh.out.2.2.2.1, Gh.out.2.2.2.2.1, Gh.out.2.2.2.2.2⟩ ⟨(HLha.out.later (kept_trans Kk10.out (kept_trans Kk15.out (kept_trans Kk19.out (kept_trans Kk47.out (kept_trans Kk75.out Kk104.out)))))), (HLhb.out.later (kept_trans Kk10.out (kept_trans Kk15.out (kept_trans Kk19.out (kept_trans Kk47.out (kept_trans Kk75.out Kk104.out)))))), (HLhx.out.later (kept_trans Kk10.out (kept_trans Kk15.out (kept_trans Kk19.out (kept_trans Kk47.out (kept_trans Kk75.out Kk104.out)))))), (HLhy.out.later (kept_trans Kk10.out (kept_trans Kk15.out (kept_trans Kk19.out (kept_trans Kk47.out (kept_trans Kk75.out Kk104.out)))))), (HLhh.out.later (kept_trans Kk10.out (kept_trans Kk15.out (kept_trans Kk19.out (kept_trans Kk47.out (kept_trans Kk75.out Kk104.out))))))⟩).mono ?_
              rw [HU78.out]
              rintro e w105 ⟨s107, s108, s109, s110, s111, rfl, ⟨hl112, hl113, hl114, hl115, hl116⟩, k106⟩
              obtain ⟨a117, c118, S119, rfl, -⟩ := hl112.out
              obtain ⟨a120, c121, S122, rfl, -⟩ := hl113.out
              obtain ⟨a123, c124, S125, rfl, -⟩ := hl114.out
              obtain ⟨a126, c127, S128, rfl, -⟩ := hl115.out
              obtain ⟨a129, c130, S131, rfl, -⟩ := hl116.out
              have Kk132 := Lib.hid k106
              clear k106
              have Hhl112 : Hid (LiesQ w105 (Par w V0.heap.size [] P) U78.a.kids _) := par_give hl112 (Below.size (kept_trans Kk10.out (kept_trans Kk15.out (kept_trans Kk19.out (kept_trans Kk47.out (kept_trans Kk75.out Kk104.out)))))) (xlt_nil _)
              have Hhl113 : Hid (LiesQ w105 (Par w V0.heap.size [] P) U78.b.kids _) := par_give hl113 (Below.size (kept_trans Kk10.out (kept_trans Kk15.out (kept_trans Kk19.out (kept_trans Kk47.out (kept_trans Kk75.out Kk104.out)))))) (xlt_nil _)
              have Hhl114 : Hid (LiesQ w105 (Par w V0.heap.size [] P) U78.x.kids _) := par_give hl114 (Below.size (kept_trans Kk10.out (kept_trans Kk15.out (kept_trans Kk19.out (kept_trans Kk47.out (kept_trans Kk75.out Kk104.out)))))) (xlt_nil _)
              have Hhl115 : Hid (LiesQ w105 (Par w V0.heap.size [] P) U78.y.kids _) := par_give hl115 (Below.size (kept_trans Kk10.out (kept_trans Kk15.out (kept_trans Kk19.out (kept_trans Kk47.out (kept_trans Kk75.out Kk104.out)))))) (xlt_nil _)
              have Hhl116 : Hid (LiesQ w105 (Par w V0.heap.size [] P) U78.h.kids _) := par_give hl116 (Below.size (kept_trans Kk10.out (kept_trans Kk15.out (kept_trans Kk19.out (kept_trans Kk47.out (kept_trans Kk75.out Kk104.out)))))) (xlt_nil _)
              clear hl112 hl113 hl114 hl115 hl116
              clear hHeld
              refine hK.out _ _ ?_ (fun hHeld => ?_)
              · (try dsimp only)
                exact seesN_kept _ (kept_trans Kk47.out (kept_trans Kk75.out (kept_trans Kk104.out Kk132.out)))
              clear hK K
              (try simp only [Act.put, List.setIfInBounds_toArray, List.set_cons_zero, List.set_cons_succ])
              refine wpAnyH_ready (rs := [8]) (by kernel_rfl) (by simp) ?_
              refine AllReadyH.cons (o := hetThenr3_8) rfl (fun K hK => ?_) ?_
              · unfold hetThenr3_8
                go_simp
                refine (lsame_any U78 (Par w V0.heap.size [] P) _ (.slice a89 U78.a.kids.length c90) (.slice a92 U78.b.kids.length c93) (.slice a95 U78.x.kids.length c96) (.slice a98 U78.y.kids.length c99) (.slice a101 U78.h.kids.length c102) (.slice a117 U78.a.kids.length c118) (.slice a120 U78.b.kids.length c121) (.slice a123 U78.x.kids.length c124) (.slice a126 U78.y.kids.length c127) (.slice a129 U78.h.kids.length c130) ⟨(Hhl84.out.later Kk132.out), (Hhl85.out.later Kk132.out), (Hhl86.out.later Kk132.out), (Hhl87.out.later Kk132.out), (Hhl88.out.later Kk132.out)⟩ ⟨Hhl112.out, Hhl113.out, Hhl114.out, Hhl115.out, Hhl116.out⟩).mono ?_
                rintro e w133 ⟨rfl, k134⟩
                have Kk135 := Lib.hid k134
                clear k134
                clear hHeld
                refine hK.out _ _ ?_ (fun hHeld => ?_)
                · (try dsimp only)
                  exact seesN_kept _ (kept_trans Kk47.out (kept_trans Kk75.out (kept_trans Kk104.out (kept_trans Kk132.out Kk135.out))))
                clear hK K
                (try simp only [Act.put, List.setIfInBounds_toArray, List.set_cons_zero, List.set_cons_succ])
                refine take_at 9 20 hetThenr3_9 (v := ?_) (Or.inl ⟨by rfl, ?_⟩) ?_
                rotate_left 1
                · ((intro w hSw; (try dsimp only at hSw); unfold hetThenr3_9; go_simp) <;> with_reducible rfl)
                (try simp only [Act.put, List.setIfInBounds_toArray, List.set_cons_zero, List.set_cons_succ])
                refine wpAnyH_ready (rs := [10]) (by kernel_rfl) (by simp) ?_
                refine AllReadyH.cons (o := hetThenr3_10) rfl (fun K hK => ?_) ?_
                · unfold hetThenr3_10
                  go_simp
                  refine (wakes23_any _).mono ?_
                  rintro e w136 ⟨rfl, k137⟩
                  have Kk138 := Lib.hid k137
                  clear k137
                  clear hHeld
                  refine hK.out _ _ ?_ (fun hHeld => ?_)
                  · (try dsimp only)
                    exact seesN_kept _ (kept_trans Kk47.out (kept_trans Kk75.out (kept_trans Kk104.out (kept_trans Kk132.out (kept_trans Kk135.out Kk138.out)))))
                  clear hK K
                  (try simp only [Act.put, List.setIfInBounds_toArray, List.set_cons_zero, List.set_cons_succ])
                  refine take_at 11 22 hetThenr3_11 (v := ?_) (Or.inl ⟨by rfl, ?_⟩) ?_
                  rotate_left 1
                  · ((intro w hSw; (try dsimp only at hSw); unfold hetThenr3_11; go_simp) <;> with_reducible rfl)
                  (try simp only [Act.put, List.setIfInBounds_toArray, List.set_cons_zero, List.set_cons_succ])
                  refine take_at 12 4 hetThenr3_12 (v := ?_) (Or.inl ⟨by rfl, ?_⟩) ?_
                  rotate_left 1
                  · ((intro w hSw; (try dsimp only at hSw); unfold hetThenr3_12; go_simp) <;> with_reducible rfl)
                  (try simp only [Act.put, List.setIfInBounds_toArray, List.set_cons_zero, List.set_cons_succ])
                  refine wpAnyH_done (by kernel_rfl) ?_ _
                  clear hHeld
                  have kvV0 : SeesN V0 V0.heap.size w136 := seesN_kept _ (kept_trans Kk10.out (kept_trans Kk15.out (kept_trans Kk19.out (kept_trans Kk47.out (kept_trans Kk75.out (kept_trans Kk104.out (kept_trans Kk132.out (kept_trans Kk135.out Kk138.out))))))))
                  go_wp2
                  go_ret
                  exact ⟨rfl, (kept_trans Kk5.out (kept_trans Kk10.out (kept_trans Kk15.out (kept_trans Kk19.out (kept_trans Kk47.out (kept_trans Kk75.out (kept_trans Kk104.out (kept_trans Kk132.out (kept_trans Kk135.out Kk138.out)))))))))⟩
                exact AllReadyH.nil
              exact AllReadyH.nil
            exact AllReadyH.nil
          exact AllReadyH.nil
        exact AllReadyH.nil
      exact AllReadyH.nil
    | true =>
      have kvV0 : SeesN V0 V0.heap.size w11 := seesN_kept _ (kept_trans Kk10.out Kk15.out)
      go_wp2
      go_ret
      exact ⟨rfl, (kept_trans Kk5.out (kept_trans Kk10.out Kk15.out))⟩
  | true =>
    have kvV0 : SeesN V0 V0.heap.size w6 := seesN_kept _ Kk10.out
    go_wp2
    go_ret
    exact ⟨rfl, (kept_trans Kk5.out Kk10.out)⟩

end Go.Proofs.Ytkdceahmknhojaa

namespace Go.Proofs.Ytkdceahmknhojaa
open Go.ChangeShapes Go.WideShapes Go.ChangeAt Go.RowKit

theorem own : ownKnob Try.prog.godebug = none := by kernel_rfl
theorem cells_int : Try.prog.cellsOf 3 = 1 := by kernel_rfl
theorem cells_kids : Try.prog.cellsOf 30 = 1 := by kernel_rfl
theorem cells_term : Try.prog.cellsOf 32 = 5 := by kernel_rfl
theorem laidOut : laidOutB Try.prog = true := by kernel_rfl

instance instOpenTm : Inhabited (Tm × Value) := ⟨(.mk 0 0 0 0 [], .nilIface)⟩

theorem list5 {α : Type} {l : List α} (h : l.length = 5) : ∃ a b c d e, l = [a, b, c, d, e] := by
  match l, h with
  | [a, b, c, d, e], _ => exact ⟨a, b, c, d, e, rfl⟩

theorem wf_I64 {x : Int} (h : (Lit.int .i64 x).wf = true) : I64 x := by
  simp [Lit.wf] at h
  have hm : IntKind.i64.min = -9223372036854775808 := by decide
  rw [hm] at h
  exact h

set_option maxRecDepth 100000 in
theorem open_term {H : Type} {enc : TypeId × Value → H} {w : World} {base : Nat} {sp : Nat → Bool} {hd : Bool} : ∀ (fuel : Nat) (cs : List Value) (x : DataW H × List MemPlace),
    DataW.trod enc Try.prog w base sp hd fuel 32 cs = some x → ∃ (t : Tm) (s : Value), cs = [.int .i64 t.k, .int .i64 t.i, .int .i64 t.j, .int .i64 t.n, s] ∧ t.fine ∧ Lies w t.kids s := by
  intro fuel
  induction fuel using Nat.strongRecOn with
  | _ fuel ih =>
    intro cs x h
    obtain ⟨xs, n, rfl, rfl, hl, hlen, hf⟩ := DataW.trod_struct Try.underlying32 h
    rw [cells_term] at hl
    obtain ⟨v0, v1, v2, v3, v4, rfl⟩ := list5 hl
    obtain ⟨y0, y1, y2, y3, y4, rfl⟩ := list5 hlen
    have g0 := hf 0 _ rfl
    have g1 := hf 1 _ rfl
    have g2 := hf 2 _ rfl
    have g3 := hf 3 _ rfl
    have g4 := hf 4 _ rfl
    simp [cells_int, cells_kids] at g0 g1 g2 g3 g4
    obtain ⟨k, e0, -, w0⟩ := DataW.trod_int Try.underlying3 g0
    obtain ⟨i, e1, -, w1⟩ := DataW.trod_int Try.underlying3 g1
    obtain ⟨j, e2, -, w2⟩ := DataW.trod_int Try.underlying3 g2
    obtain ⟨m, e3, -, w3⟩ := DataW.trod_int Try.underlying3 g3
    simp at e0 e1 e2 e3
    subst e0 e1 e2 e3
    rcases DataW.trod_slice Try.underlying30 g4 with ⟨e4, -⟩ | ⟨a, len, cap, elems, rest, n', rfl, e4, -, hb, hlc, hm, hlen', hel, -, -⟩
    · simp at e4
      subst e4
      exact ⟨.mk k i j m [], _, rfl, ⟨wf_I64 w0, wf_I64 w1, wf_I64 w2, wf_I64 w3⟩, .mk [] none 0 (fun _ => .nilIface) (Nat.le_refl _) (by decide) (fun _ h => by cases h) (fun _ h => by cases h) (fun _ h => by cases h)⟩
    · simp at e4
      subst e4
      have key : ∀ i, i < len → ∃ p : Tm × Value, p.1.fine ∧ Lies w p.1.kids p.2 ∧ ∃ b o, a = ⟨b, o, none⟩ ∧ Node w b (o + i * 5) p.1 p.2 := by
        intro i hi
        have h1 := hel i hi
        rw [cells_term, List.getElem?_eq_getElem (by omega)] at h1
        obtain ⟨cs', h2, h3⟩ := Option.bind_eq_some_iff.1 h1
        obtain ⟨t, s, rfl, hfine, hlies⟩ := ih n' (by omega) _ _ h3
        obtain ⟨-, -, hcell⟩ := World.cells?_some h2
        have hs0 : a.spot = none := by
          have h1 := hel 0 (by omega)
          rw [cells_term, List.getElem?_eq_getElem (by omega)] at h1
          obtain ⟨cs0, h2, -⟩ := Option.bind_eq_some_iff.1 h1
          obtain ⟨-, hl0, hc0⟩ := World.cells?_some h2
          have c0 := hc0 0 (by omega)
          rw [List.getElem?_eq_getElem (by omega)] at c0
          simpa [Addr.add] using World.cell?_spot c0
        obtain ⟨b, o, spot⟩ := a
        simp only at hs0
        subst hs0
        refine ⟨(t, s), hfine, hlies, b, o, rfl, ?_⟩
        have hc : ∀ q, q < 5 → w.cell? ⟨b, o + i * 5 + q, none⟩ = [Value.int .i64 t.k, .int .i64 t.i, .int .i64 t.j, .int .i64 t.n, s][q]? := fun q hq => by
          have := hcell q hq
          rwa [add_plain, add_plain] at this
        exact ⟨hc 0 (by omega), hc 1 (by omega), hc 2 (by omega), hc 3 (by omega), hc 4 (by omega)⟩
      obtain ⟨f, hf'⟩ := Go.Deep.choose_lt (α := Tm × Value) (p := fun i p => p.1.fine ∧ Lies w p.1.kids p.2 ∧ ∃ b o, a = ⟨b, o, none⟩ ∧ Node w b (o + i * 5) p.1 p.2) key
      have hl5 : ((List.range len).map fun i => (f i).1).length = len := by simp
      refine ⟨.mk k i j m ((List.range len).map fun i => (f i).1), _, rfl, ⟨wf_I64 w0, wf_I64 w1, wf_I64 w2, wf_I64 w3⟩, ?_⟩
      have := Lies.mk (w := w) ((List.range len).map fun i => (f i).1) (some a) cap (fun i => (f i).2) (by simpa using hlc) hm
        (fun x hx => by
          obtain ⟨i, hi, rfl⟩ := List.mem_map.1 hx
          exact (hf' i (List.mem_range.1 hi)).1)
        (fun i hi => by
          obtain ⟨b, o, ha, hn⟩ := (hf' i (by simpa using hi)).2.2
          exact ⟨b, o, by rw [ha], by simpa using hn⟩)
        (fun i hi => by simpa using (hf' i (by simpa using hi)).2.1)
      rwa [hl5] at this
end Go.Proofs.Ytkdceahmknhojaa

namespace Go.Proofs.Ytkdceahmknhojaa
open Go.ChangeShapes Go.WideShapes Go.ChangeAt Go.RowKit

instance instOpenEn : Inhabited (En × Value) := ⟨(⟨.mk 0 0 0 0 [], 0⟩, .nilIface)⟩
end Go.Proofs.Ytkdceahmknhojaa

namespace Go.Proofs.Ytkdceahmknhojaa
open Go.ChangeShapes Go.WideShapes Go.ChangeAt Go.RowKit

theorem cells_het : Try.prog.cellsOf 45 = 26 := by kernel_rfl
theorem list26 {α : Type} {l : List α} (h : l.length = 26) : ∃ v0 v1 v2 v3 v4 v5 v6 v7 v8 v9 v10 v11 v12 v13 v14 v15 v16 v17 v18 v19 v20 v21 v22 v23 v24 v25, l = [v0, v1, v2, v3, v4, v5, v6, v7, v8, v9, v10, v11, v12, v13, v14, v15, v16, v17, v18, v19, v20, v21, v22, v23, v24, v25] := by
  match l, h with
  | [v0, v1, v2, v3, v4, v5, v6, v7, v8, v9, v10, v11, v12, v13, v14, v15, v16, v17, v18, v19, v20, v21, v22, v23, v24, v25], _ => exact ⟨v0, v1, v2, v3, v4, v5, v6, v7, v8, v9, v10, v11, v12, v13, v14, v15, v16, v17, v18, v19, v20, v21, v22, v23, v24, v25, rfl⟩
theorem flds6 {α : Type} {l : List α} (h : l.length = 6) : ∃ y0 y1 y2 y3 y4 y5, l = [y0, y1, y2, y3, y4, y5] := by
  match l, h with
  | [y0, y1, y2, y3, y4, y5], _ => exact ⟨y0, y1, y2, y3, y4, y5, rfl⟩
set_option maxRecDepth 100000 in
theorem open_het {H : Type} {enc : TypeId × Value → H} {w : World} {base : Nat} {sp : Nat → Bool} {hd : Bool} (fuel : Nat) (cs : List Value) (x : DataW H × List MemPlace)
    (h : DataW.trod enc Try.prog w base sp hd fuel 45 cs = some x) : ∃ (j : He) (sa sb sx sy sh : Value), cs = [.int .i64 j.i, .int .i64 j.a.k, .int .i64 j.a.i, .int .i64 j.a.j, .int .i64 j.a.n, sa, .int .i64 j.b.k, .int .i64 j.b.i, .int .i64 j.b.j, .int .i64 j.b.n, sb, .int .i64 j.x.k, .int .i64 j.x.i, .int .i64 j.x.j, .int .i64 j.x.n, sx, .int .i64 j.y.k, .int .i64 j.y.i, .int .i64 j.y.j, .int .i64 j.y.n, sy, .int .i64 j.h.k, .int .i64 j.h.i, .int .i64 j.h.j, .int .i64 j.h.n, sh] ∧ j.fine ∧ HLies w j sa sb sx sy sh := by
  obtain ⟨xs, n, rfl, rfl, hl, hlen, hf⟩ := DataW.trod_struct Try.underlying45 h
  rw [cells_het] at hl
  obtain ⟨v0, v1, v2, v3, v4, v5, v6, v7, v8, v9, v10, v11, v12, v13, v14, v15, v16, v17, v18, v19, v20, v21, v22, v23, v24, v25, rfl⟩ := list26 hl
  obtain ⟨y0, y1, y2, y3, y4, y5, rfl⟩ := flds6 hlen
  have g0 := hf 0 _ rfl
  have g1 := hf 1 _ rfl
  have g2 := hf 2 _ rfl
  have g3 := hf 3 _ rfl
  have g4 := hf 4 _ rfl
  have g5 := hf 5 _ rfl
  simp [cells_int, cells_term] at g0 g1 g2 g3 g4 g5
  obtain ⟨ii, ei, -, wi⟩ := DataW.trod_int Try.underlying3 g0
  simp at ei
  subst ei
  obtain ⟨ta, sa, hca, hfa, hla⟩ := open_term n _ _ g1
  simp at hca
  obtain ⟨rfl, rfl, rfl, rfl, rfl⟩ := hca
  obtain ⟨tb, sb, hcb, hfb, hlb⟩ := open_term n _ _ g2
  simp at hcb
  obtain ⟨rfl, rfl, rfl, rfl, rfl⟩ := hcb
  obtain ⟨tx, sx, hcx, hfx, hlx⟩ := open_term n _ _ g3
  simp at hcx
  obtain ⟨rfl, rfl, rfl, rfl, rfl⟩ := hcx
  obtain ⟨ty, sy, hcy, hfy, hly⟩ := open_term n _ _ g4
  simp at hcy
  obtain ⟨rfl, rfl, rfl, rfl, rfl⟩ := hcy
  obtain ⟨th, sh, hch, hfh, hlh⟩ := open_term n _ _ g5
  simp at hch
  obtain ⟨rfl, rfl, rfl, rfl, rfl⟩ := hch
  exact ⟨⟨ii, ta, tb, tx, ty, th⟩, _, _, _, _, _, rfl, ⟨wf_I64 wi, hfa, hfb, hfx, hfy, hfh⟩, hla, hlb, hlx, hly, hlh⟩
set_option maxRecDepth 100000 in
theorem open_argH {H : Type} {enc : TypeId × Value → H} {W : World} {r : Reach} {b0 base : Nat} {sp : Nat → Bool} {hd : Bool} {v : Value} {d : DataW H} {p : List MemPlace} (hv' : Value.okWide Try.prog W r b0 45 v)
    (h : DataW.Trod enc Try.prog W base sp hd 45 v d p) : ∃ (j : He) (sa sb sx sy sh : Value), HLies W j sa sb sx sy sh ∧ j.fine ∧ v = hv j sa sb sx sy sh := by
  obtain ⟨cs, rfl, hsz⟩ := okWide_struct Try.underlying45 hv'
  obtain ⟨fuel, hf⟩ := h
  obtain ⟨j, sa, sb, sx, sy, sh, hcs, hfj, hl⟩ := open_het fuel _ _ hf
  refine ⟨j, sa, sb, sx, sy, sh, hl, hfj, ?_⟩
  have : cs.toList = [.int .i64 j.i, .int .i64 j.a.k, .int .i64 j.a.i, .int .i64 j.a.j, .int .i64 j.a.n, sa, .int .i64 j.b.k, .int .i64 j.b.i, .int .i64 j.b.j, .int .i64 j.b.n, sb, .int .i64 j.x.k, .int .i64 j.x.i, .int .i64 j.x.j, .int .i64 j.x.n, sx, .int .i64 j.y.k, .int .i64 j.y.i, .int .i64 j.y.j, .int .i64 j.y.n, sy, .int .i64 j.h.k, .int .i64 j.h.i, .int .i64 j.h.j, .int .i64 j.h.n, sh] := by simpa [Value.cells] using hcs
  rw [show cs = #[.int .i64 j.i, .int .i64 j.a.k, .int .i64 j.a.i, .int .i64 j.a.j, .int .i64 j.a.n, sa, .int .i64 j.b.k, .int .i64 j.b.i, .int .i64 j.b.j, .int .i64 j.b.n, sb, .int .i64 j.x.k, .int .i64 j.x.i, .int .i64 j.x.j, .int .i64 j.x.n, sx, .int .i64 j.y.k, .int .i64 j.y.i, .int .i64 j.y.j, .int .i64 j.y.n, sy, .int .i64 j.h.k, .int .i64 j.h.i, .int .i64 j.h.j, .int .i64 j.h.n, sh] from by cases cs; simp_all]
end Go.Proofs.Ytkdceahmknhojaa

namespace Go.Proofs.Ytkdceahmknhojaa
open Go.ChangeShapes Go.WideShapes

def code (l : List Nat) : List Char := l.map Char.ofNat
def joinN : List (List Nat) → List Nat
  | [] => []
  | [a] => a
  | a :: b :: r => a ++ 32 :: joinN (b :: r)

theorem words_one : ∀ a : List Nat, (a.all fun n => Char.ofNat n != Char.ofNat 32) = true → wordsSigns (code a) = [code a]
  | [], _ => rfl
  | n :: a, h => by
    simp only [List.all_cons, Bool.and_eq_true, bne_iff_ne] at h
    have ih := words_one a h.2
    show wordsSigns (Char.ofNat n :: code a) = _
    rw [wordsSigns]
    · rw [ih]; rfl
    · exact h.1
theorem words_more : ∀ (a : List Nat) (r : List Char), (a.all fun n => Char.ofNat n != Char.ofNat 32) = true → wordsSigns (code a ++ Char.ofNat 32 :: r) = code a :: wordsSigns r
  | [], r, _ => by
    show wordsSigns (Char.ofNat 32 :: r) = _
    rw [show Char.ofNat 32 = _ from rfl, wordsSigns]; rfl
  | n :: a, r, h => by
    simp only [List.all_cons, Bool.and_eq_true, bne_iff_ne] at h
    have ih := words_more a r h.2
    show wordsSigns (Char.ofNat n :: (code a ++ Char.ofNat 32 :: r)) = _
    rw [wordsSigns]
    · rw [ih]; rfl
    · exact h.1
theorem words_join : ∀ ws : List (List Nat), ws ≠ [] → (ws.all fun w => w.all fun n => Char.ofNat n != Char.ofNat 32) = true → wordsSigns (code (joinN ws)) = ws.map code
  | [], h, _ => absurd rfl h
  | [a], _, h => by simp only [List.all_cons, List.all_nil, Bool.and_true] at h; exact words_one a h
  | a :: b :: r, _, h => by
    have h' := h
    rw [List.all_cons, Bool.and_eq_true] at h'
    have ih := words_join (b :: r) (by simp) h'.2
    show wordsSigns (code (a ++ 32 :: joinN (b :: r))) = _
    rw [show code (a ++ 32 :: joinN (b :: r)) = code a ++ Char.ofNat 32 :: code (joinN (b :: r)) from by simp [code], words_more a _ h'.1, ih]; rfl

def cutWords : List (List Nat) := [[104, 97, 114, 110, 101, 115, 115],
  [102, 52, 56, 51, 100, 56, 99, 49, 49, 97, 51, 102, 55, 56, 101, 50, 99, 54, 102, 50, 51, 49, 56, 54, 48, 102, 51, 98, 99, 101, 97, 56, 98, 48, 97, 101, 97, 49, 51, 98, 100, 54, 53, 52, 99, 48, 102, 54, 97, 101, 50, 57, 100, 97, 48, 97, 50, 55, 55, 50, 52, 56, 55, 49],
  [99, 117, 116],
  [97, 116],
  [116, 114, 97, 110, 115, 104, 105, 112, 47, 116, 114, 97, 110, 115, 104, 105, 112, 108, 97, 119, 49, 53, 46, 80, 114, 101, 109, 105, 115, 101, 69, 120, 97, 99, 116],
  [116, 114, 97, 110, 115, 104, 105, 112, 47, 116, 114, 97, 110, 115, 104, 105, 112, 108, 97, 119, 49, 53, 46, 82, 117, 108, 101, 82, 105, 103, 104, 116],
  [116, 114, 97, 110, 115, 104, 105, 112, 47, 116, 114, 97, 110, 115, 104, 105, 112, 108, 97, 119, 49, 53, 46, 82, 117, 108, 101, 84, 117, 114, 110, 101, 100],
  [116, 114, 97, 110, 115, 104, 105, 112, 47, 116, 114, 97, 110, 115, 104, 105, 112, 108, 97, 119, 49, 53, 46, 82, 117, 108, 101, 76, 101, 118, 101, 108, 115],
  [116, 114, 97, 110, 115, 104, 105, 112, 47, 116, 114, 97, 110, 115, 104, 105, 112, 108, 97, 119, 50, 51, 46, 72, 101, 116, 80, 111, 105, 110, 116, 115],
  [116, 114, 97, 110, 115, 104, 105, 112, 47, 116, 114, 97, 110, 115, 104, 105, 112, 108, 97, 119, 50, 51, 46, 72, 101, 116, 77, 97, 107, 101, 115],
  [116, 114, 97, 110, 115, 104, 105, 112, 47, 116, 114, 97, 110, 115, 104, 105, 112, 108, 97, 119, 50, 51, 46, 72, 101, 116, 84, 104, 101, 110],
  [116, 114, 97, 110, 115, 104, 105, 112, 47, 116, 114, 97, 110, 115, 104, 105, 112, 108, 97, 119, 50, 51, 46, 72, 101, 116, 69, 110, 100, 115],
  [116, 114, 97, 110, 115, 104, 105, 112, 47, 116, 114, 97, 110, 115, 104, 105, 112, 108, 97, 119, 50, 52, 46, 67, 111, 110, 103, 84, 121, 112, 101, 115],
  [116, 114, 97, 110, 115, 104, 105, 112, 47, 116, 114, 97, 110, 115, 104, 105, 112, 108, 97, 119, 50, 52, 46, 67, 111, 110, 103, 67, 97, 108, 108, 115],
  [116, 114, 97, 110, 115, 104, 105, 112, 47, 116, 114, 97, 110, 115, 104, 105, 112, 108, 97, 119, 50, 52, 46, 67, 111, 110, 103, 69, 113, 115]]

set_option maxRecDepth 100000 in
theorem cut_words : wordsSigns Try.prog.initOrder.toList = cutWords.map code := by
  have h : Try.prog.initOrder.toList = code (joinN cutWords) := by
    show (String.ofList (code (joinN cutWords))).toList = _
    exact String.toList_ofList
  rw [h]
  exact words_join cutWords (by simp [cutWords]) (by decide +kernel)

theorem cut_behind : behindMainWord (cutWords.map code) = code [99, 117, 116] :: cutWords.tail.tail.tail.map code := by kernel_rfl
theorem cut_lifts : stripLifts liftWords (code [99, 117, 116] :: cutWords.tail.tail.tail.map code) = ([], code [99, 117, 116] :: cutWords.tail.tail.tail.map code) := by kernel_rfl
theorem cut1 : (code [99, 117, 116] == "gc".toList) = false := by kernel_rfl
theorem cut2 : (code [99, 117, 116] == "spec".toList) = false := by kernel_rfl
theorem cut3 : (code [99, 117, 116] == "cut".toList) = true := by kernel_rfl
theorem cut_all : behindMainWord (wordsSigns Try.prog.initOrder.toList) = code [99, 117, 116] :: cutWords.tail.tail.tail.map code := by rw [cut_words, cut_behind]
theorem make_of (P : Program) {c : List Char} {rest : List (List Char)} (h : behindMainWord (wordsSigns P.initOrder.toList) = c :: rest) (h1 : (c == "gc".toList) = false) (h2 : (c == "spec".toList) = false) (h3 : (c == "cut".toList) = true) : P.make = some .cut := by
  unfold Program.make; rw [h]
  simp only [h1, h2, h3, Bool.or_self, Bool.false_eq_true, if_false, Bool.true_or, if_true]
theorem mayEnter_of (P : Program) {c : List Char} {rest : List (List Char)} (h : behindMainWord (wordsSigns P.initOrder.toList) = c :: rest) (h3 : ((stripLifts liftWords (c :: rest)).2.head? == some "cut".toList) = true)
    (h4 : (stripLifts liftWords (c :: rest)).1 = []) (h5 : P.laysLater = false) (h6 : P.bearsReflect = false) (h7 : P.doorFits [] = true) : P.mayEnter = true := by
  unfold Program.mayEnter; rw [h]
  refine Bool.or_eq_true_iff.2 (Or.inr ?_)
  rw [h3, h4, h5, h6, h7]; rfl
theorem row_make : Try.prog.make = some .cut := make_of Try.prog cut_all cut1 cut2 cut3
theorem row_mayEnter : Try.prog.mayEnter = true := mayEnter_of Try.prog cut_all (by rw [cut_lifts]; kernel_rfl) (by rw [cut_lifts]) (by kernel_rfl) (by kernel_rfl) (by kernel_rfl)
theorem row_lifts : Try.prog.liftsFinal = false := by unfold Program.liftsFinal Program.headLifts; rw [cut_all, cut_lifts]; kernel_rfl
end Go.Proofs.Ytkdceahmknhojaa

namespace Go.Proofs.Ytkdceahmknhojaa.lawHetThen
open Go.ChangeShapes Go.WideShapes Go.ChangeAt Go.RowKit

set_option maxRecDepth 100000 in
theorem lifted (os : Os) (started : os.Started) (H : Type) (enc : TypeId × Value → H) :
    ReturnsInHanded {} Try.checked os 9 .any (Rows.hetThenSpec.pre6 enc Try.prog Try.f9 Rows.hetThenRow.domain false) (Rows.hetThenSpec.post enc Try.prog Try.f9 false true false false) := by
  refine returnsInHanded_of_change (C := Try.checked) own started (by kernel_rfl) Try.func9
    (ChangeSpec.witness6 (enc := enc) (C := Try.checked) false ⟨#[], #[.agg #[.int .i64 0, .int .i64 0, .int .i64 0, .int .i64 0, .int .i64 0, .slice none 0 0, .int .i64 0, .int .i64 0, .int .i64 0, .int .i64 0, .slice none 0 0, .int .i64 0, .int .i64 0, .int .i64 0, .int .i64 0, .slice none 0 0, .int .i64 0, .int .i64 0, .int .i64 0, .int .i64 0, .slice none 0 0, .int .i64 0, .int .i64 0, .int .i64 0, .int .i64 0, .slice none 0 0], .agg #[.int .i64 0, .int .i64 0, .int .i64 0, .int .i64 0, .int .i64 0, .slice none 0 0, .int .i64 0, .int .i64 0, .int .i64 0, .int .i64 0, .slice none 0 0, .int .i64 0, .int .i64 0, .int .i64 0, .int .i64 0, .slice none 0 0, .int .i64 0, .int .i64 0, .int .i64 0, .int .i64 0, .slice none 0 0, .int .i64 0, .int .i64 0, .int .i64 0, .int .i64 0, .slice none 0 0]], []⟩ 8 (by kernel_rfl) (by kernel_rfl) (by kernel_rfl) (by kernel_rfl)) ?_
  intro W base args ds gs before hval0 hW hcnd _
  have hval : ∀ (j : Nat) t v, Try.f9.params[j]? = some t → args[j]? = some v → Value.okWide Try.prog W .any base t v := hval0
  have hW' := hW
  obtain ⟨p, q, hA0, hV, rfl, hfz, hnd⟩ := hW
  have hA : DataW.TrodAll enc Try.prog W 0 (fun _ => true) true Try.f9.params.toList args.toList ds p := hA0
  rw [Try.params9] at hA hval
  obtain ⟨v0, vs0, d0, ds0, p0, q0, hargs0, rfl, rfl, h0, r0⟩ := trodAll_cons hA
  obtain ⟨v1, vs1, d1, ds1, p1, q1, hargs1, rfl, rfl, h1, r1⟩ := trodAll_cons r0
  obtain ⟨rfl, rfl, rfl⟩ := trodAll_nil r1
  obtain rfl : args = #[v0, v1] := by cases args; simp_all
  obtain ⟨rfl, rfl⟩ := trodVars_none hV
  have h0k := h0
  have hlt0 : ∀ x ∈ p0, x.block < W.heap.size := fun x hx => by have := hW'.lt x (by simp [hx]); simpa using this
  obtain ⟨t0, sa0, sb0, sx0, sy0, sh0, hl0, hf0, hv0⟩ := open_argH (hval 0 45 v0 rfl rfl) h0
  subst hv0
  have h1k := h1
  have hlt1 : ∀ x ∈ p1, x.block < W.heap.size := fun x hx => by have := hW'.lt x (by simp [hx]); simpa using this
  obtain ⟨t1, sa1, sb1, sx1, sy1, sh1, hl1, hf1, hv1⟩ := open_argH (hval 1 45 v1 rfl rfl) h1
  subst hv1
  clear hA0 hval0
  simp only [List.append_nil] at hW'
  refine (hetThen_any   t0 t1 (fun b => b < W.heap.size) W sa0 sb0 sx0 sy0 sh0 sa1 sb1 sx1 sy1 sh1 hf0 hl0.q hf1 hl1.q).mono fun e W' ⟨he, hb⟩ => ?_
  subst he
  exact ⟨_, rfl, _, _, _, [], _, [], hW', trodAll_cons_mk (shut_bool Try.underlying4 _) trodAll_mk0, (trodAll_cons_mk (Below.trod laidOut (by kernel_rfl) (of_decide_eq_true (by kernel_rfl)) h0k hb hlt0) (trodAll_cons_mk (Below.trod laidOut (by kernel_rfl) (of_decide_eq_true (by kernel_rfl)) h1k hb hlt1) trodAll_mk0)), rfl, hb.frame _, fun h => by cases h⟩

theorem closed : joinedFacts Try.prog 9 Try.f9 Rows.hetThenSpec Rows.hetThenRow = true := by
  unfold joinedFacts
  rw [row_mayEnter, row_lifts, row_make]
  kernel_rfl

theorem proved : Rows.HetThenSaid :=
  OpenClaim.holds_of_wide 9 Try.f9 rfl rfl rfl rfl rfl rfl rfl ⟨rfl, rfl, rfl, rfl, rfl⟩ rfl rfl rfl rfl rfl (by kernel_rfl) Try.func9 closed
    (of_decide_eq_true (by kernel_rfl)) (by unfold Func.isWrapper; first | (rw [if_pos (by decide +kernel)]; kernel_rfl) | (rw [if_neg (by decide +kernel)]; exact ⟨rfl, rfl⟩))
    (fun os started H enc _ => lifted os started H enc)
#print axioms proved
end Go.Proofs.Ytkdceahmknhojaa.lawHetThen
