/-
  Facts and contracts that the proof of HetEnds uses.
-/
import Derived.Test.YtkdceahmknhojaaRows
import Derived.WalkKit
import Derived.Lib.Hide
import Derived.KernelRfl
import Derived.Deep.RegionWith
import Derived.Deep.RegionHeld3
import Derived.Deep.AppendLies
import Derived.Laws.Rows
import Derived.Laws.IdiomCopy
import Derived.Deep.Slices
import Derived.Lib.QuietBelow
import Derived.StillTailTactics
import Derived.BigQuiet
import Derived.IntWalk
import Derived.OwnWalk
import Derived.Deep.RegionLaw
import Derived.Deep.QuietTactic
import Derived.Deep.LoopGhost
import Derived.Deep.DeepCutAuto
import Derived.Deep.MidRow
import Derived.OrdersHeld
import Derived.Laws.Tables
import Derived.Laws.CopyOwn
import Derived.Laws.CopyRow
import Derived.Deep.RegionHeld
import Derived.ProofKit
import Derived.OpenShut
import Derived.Carry
import Derived.ChangeSlices
import Derived.JoinedOf
import Derived.Test.YtkdceahmknhojaaHetEndsQ5
namespace Go.Proofs.Ytkdceahmknhojaa
open Go.RowKit

end Go.Proofs.Ytkdceahmknhojaa

namespace Go.Proofs.Ytkdceahmknhojaa
open Go.RowKit

def SeesN (V : World) (_ : Nat) (w' : World) : Prop := ∀ k, k < V.heap.size → w'.heap[k]? = V.heap[k]?
theorem seesN_kept {V W : World} (g : Nat) (h : Kept V W) : SeesN V g W := fun k hk => Below.block h k hk
theorem seesN_of {V W w' : World} {g : Nat} (h : Kept V W) (hs : SeesN W g w') : SeesN V g w' := fun k hk => (hs k (Nat.lt_of_lt_of_le hk (Below.size h))).trans (Below.block h k hk)
theorem partN_cell {V : World} {r g : Nat} {C : Array Value} {T : TypeId} {fr : Nat × Nat} (h : V.heap[g]? = some (.cells C T fr)) (_ : True) (o : Nat) (v : Value) (hv : C[o]? = some v) : ∀ w', SeesN V r w' → w'.cell? ⟨g, o, none⟩ = some v := fun w' hk => by
  have hb : w'.heap[g]? = some (.cells C T fr) := (hk g (block_lt h)).trans h
  rw [cell_of_row w' g o C T fr hb]; exact hv
theorem seesN_blk {V w' : World} {r g : Nat} {o : Obj} (h : V.heap[g]? = some o) (_ : True) (hs : SeesN V r w') : w'.heap[g]? = some o := (hs g (block_lt h)).trans h
theorem field_term0 (a b c d e : Value) (w : World) : (Instr.field 32 (.agg #[a, b, c, d, e]) 0).run Try.prog w = .ok a w := by kernel_rfl
theorem field_term3 (a b c d e : Value) (w : World) : (Instr.field 32 (.agg #[a, b, c, d, e]) 3).run Try.prog w = .ok d w := by kernel_rfl
theorem xlt_x {X X' : List Nat} {W : World} (h : XLt X W) (hx : ∀ x, x ∈ X' → x ∈ X) : XLt X' W := fun x h' => h x (hx x h')
theorem par_grow {w V W : World} {n : Nat} {X X' : List Nat} {P : Nat → Prop} {l : List Tm} {s : Value} (h : LiesQ V (Par w n X P) l s) (hk : Kept V W) (hx : ∀ x, x ∈ X' → x ∈ X ∨ V.heap.size ≤ x) : LiesQ W (Par w n X' P) l s :=
  h.keep (fun b _ hlt => Below.block hk b hlt) (fun b hb hlt => hb.imp id (fun hb => ⟨hb.1, fun hm => (hx b hm).elim hb.2 (fun h => absurd hlt (Nat.not_lt.2 h))⟩))
end Go.Proofs.Ytkdceahmknhojaa

namespace Go.Proofs.Ytkdceahmknhojaa
open Go.RowKit

theorem var_plain {i : Int} (h : 0 ≤ i) (h2 : i ≤ 1000000) : (varT i).plainB = true := by
  rw [Tm.plainB_eq]; unfold varT
  simp [Tm.nodeB, mk_k, mk_i, mk_j, mk_n, mk_kids, kidsN, numbersN, plains, h]
  exact decide_eq_true (by omega)
theorem wk_r : heR2 0 [varT 0, varT 1] = true := by
  unfold heR2 plainL
  simp [var0_plain, var_plain (i := 1) (by decide) (by decide), levN]
theorem wk_self : heSelf 0 (varT 0) (varT 1) = (⟨0, varT 0, varT 0, varT 1, varT 1, nodeT 21 [pointsT 0, pointT 0 (varT 0) (varT 1)]⟩ : He) := by unfold heSelf; rw [if_pos wk_r]
theorem wk_plain : (nodeT 21 [pointsT 0, pointT 0 (varT 0) (varT 1)]).plainB = true := by
  have e1 : (pointsT 0).plainB = true := points_plain (by decide)
  have e2 : (pointT 0 (varT 0) (varT 1)).plainB = true := point_plain (by decide) var0_plain (var_plain (by decide) (by decide))
  rw [Tm.plainB_eq]; unfold nodeT
  simp [Tm.nodeB, mk_k, mk_i, mk_j, mk_n, mk_kids, kidsN, numbersN, plains, e1, e2]
theorem wk_type : heType (⟨0, varT 0, varT 0, varT 1, varT 1, nodeT 21 [pointsT 0, pointT 0 (varT 0) (varT 1)]⟩ : He) = useT 6 0 0 [varT 0, varT 0, varT 1, varT 1] := by
  unfold heType
  rw [if_pos]
  unfold heR heR2 plainL
  simp [var0_plain, var_plain (i := 1) (by decide) (by decide), levN, wk_plain]
theorem wk_p2 : pointsB 2 = pointsT 2 := by unfold pointsB heR2 plainL; rw [if_pos (by simp [levN])]
theorem wk_p999 : pointsB 999 = .zero := by unfold pointsB heR2 plainL; rw [if_neg (by simp [levN])]
theorem wk_fine : He.fine (⟨0, varT 0, varT 0, varT 1, varT 1, nodeT 21 [pointsT 0, pointT 0 (varT 0) (varT 1)]⟩ : He) := ⟨by unfold I64; decide, right_fine (plain_right var0_plain), right_fine (plain_right var0_plain), right_fine (plain_right (var_plain (by decide) (by decide))), right_fine (plain_right (var_plain (by decide) (by decide))), right_fine (plain_right wk_plain)⟩

set_option maxRecDepth 20000 in
set_option maxHeartbeats 4000000 in
theorem wakes23_any (w : World) : Calls Try.prog 35 #[] w fun e w' => e = .returned (.bool true) ∧ Kept w w' := by
  obtain ⟨dh, dh1, dh2⟩ := under_of 51 (by kernel_rfl)
  go_enter Try.func35, Try.ntmps35
  go_upto_region 1 with fail
  refine at_code (fun V0 hV0 => ?_)
  have k1 : Kept w V0 := by rw [← hV0]; exact kept_refl _
  have Z0 : Hid (V0.heap.size = w.heap.size + 0) := by show _ = _; rw [← hV0]; rfl
  clear hV0
  have Kk3 := Lib.hid k1
  clear k1
  have kvV0 : SeesN V0 V0.heap.size V0 := seesN_kept _ (kept_refl _)
  go_wp2_with fail
  clear kvV0
  refine (lv_any 0 (Par w V0.heap.size [] (fun _ => False)) _ (show I64 0 from by unfold I64; decide)).mono ?_
  obtain ⟨U11, hU11⟩ : ∃ qu, varT 0 = qu := ⟨_, rfl⟩
  rw [hU11]
  have HU11 := Lib.hid hU11
  clear hU11
  rintro e w4 ⟨s6, rfl, hl7, k5⟩
  obtain ⟨a8, c9, S10, rfl, -⟩ := hl7.out
  have Kk12 := Lib.hid k5
  clear k5
  have Hhl7 : Hid (LiesQ w4 (Par w V0.heap.size [] (fun _ => False)) U11.kids _) := par_give hl7 (Nat.le_refl _) (xlt_nil _)
  clear hl7
  have kvV0 : SeesN V0 V0.heap.size w4 := seesN_kept _ Kk12.out
  go_wp2_with fail
  clear kvV0
  refine (lv_any 1 (Par w V0.heap.size [] (fun _ => False)) _ (show I64 1 from by unfold I64; decide)).mono ?_
  obtain ⟨U20, hU20⟩ : ∃ qu, varT 1 = qu := ⟨_, rfl⟩
  rw [hU20]
  have HU20 := Lib.hid hU20
  clear hU20
  rintro e w13 ⟨s15, rfl, hl16, k14⟩
  obtain ⟨a17, c18, S19, rfl, -⟩ := hl16.out
  have Kk21 := Lib.hid k14
  clear k14
  have Hhl16 : Hid (LiesQ w13 (Par w V0.heap.size [] (fun _ => False)) U20.kids _) := par_give hl16 (Below.size Kk12.out) (xlt_nil _)
  clear hl16
  have kvV0 : SeesN V0 V0.heap.size w13 := seesN_kept _ (kept_trans Kk12.out Kk21.out)
  go_wp2_with fail
  clear kvV0
  have hq24 := hself_any 0 U11 U20 (Par w V0.heap.size [] (fun _ => False)) w13 (.slice a8 U11.kids.length c9) (.slice a17 U20.kids.length c18) (show I64 0 from by unfold I64; decide) (by rw [← HU11.out]; exact (var_fine (show I64 0 from by unfold I64; decide))) (Hhl7.out.later Kk21.out) (by rw [← HU20.out]; exact (var_fine (show I64 1 from by unfold I64; decide))) Hhl16.out
  rw [show heSelf 0 U11 U20 = (⟨0, varT 0, varT 0, varT 1, varT 1, nodeT 21 [pointsT 0, pointT 0 (varT 0) (varT 1)]⟩ : He) from by rw [← HU11.out, ← HU20.out]; exact wk_self] at hq24
  refine hq24.mono ?_
  clear hq24
  obtain ⟨U25, hU25⟩ : ∃ qu, (⟨0, varT 0, varT 0, varT 1, varT 1, nodeT 21 [pointsT 0, pointT 0 (varT 0) (varT 1)]⟩ : He) = qu := ⟨_, rfl⟩
  rw [hU25]
  have HU25 := Lib.hid hU25
  clear hU25
  rintro e w22 ⟨s26, s27, s28, s29, s30, rfl, ⟨hl31, hl32, hl33, hl34, hl35⟩, k23⟩
  obtain ⟨a36, c37, S38, rfl, -⟩ := hl31.out
  obtain ⟨a39, c40, S41, rfl, -⟩ := hl32.out
  obtain ⟨a42, c43, S44, rfl, -⟩ := hl33.out
  obtain ⟨a45, c46, S47, rfl, -⟩ := hl34.out
  obtain ⟨a48, c49, S50, rfl, -⟩ := hl35.out
  have Kk51 := Lib.hid k23
  clear k23
  have Hhl31 : Hid (LiesQ w22 (Par w V0.heap.size [] (fun _ => False)) U25.a.kids _) := par_give hl31 (Below.size (kept_trans Kk12.out Kk21.out)) (xlt_nil _)
  have Hhl32 : Hid (LiesQ w22 (Par w V0.heap.size [] (fun _ => False)) U25.b.kids _) := par_give hl32 (Below.size (kept_trans Kk12.out Kk21.out)) (xlt_nil _)
  have Hhl33 : Hid (LiesQ w22 (Par w V0.heap.size [] (fun _ => False)) U25.x.kids _) := par_give hl33 (Below.size (kept_trans Kk12.out Kk21.out)) (xlt_nil _)
  have Hhl34 : Hid (LiesQ w22 (Par w V0.heap.size [] (fun _ => False)) U25.y.kids _) := par_give hl34 (Below.size (kept_trans Kk12.out Kk21.out)) (xlt_nil _)
  have Hhl35 : Hid (LiesQ w22 (Par w V0.heap.size [] (fun _ => False)) U25.h.kids _) := par_give hl35 (Below.size (kept_trans Kk12.out Kk21.out)) (xlt_nil _)
  clear hl31 hl32 hl33 hl34 hl35
  have kf52 : (U25.h.k == 21) = true := by rw [← HU25.out]; first | rfl | decide
  have kvV0 : SeesN V0 V0.heap.size w22 := seesN_kept _ (kept_trans Kk12.out (kept_trans Kk21.out Kk51.out))
  go_wp2_with (refine stop_store 51 (.tmp 1) (.tmp 4) rfl ?_)
  intro _
  refine wpList_store_part_n (by rfl) 51 (.tmp 1) (.tmp 4) rfl (w22.heap.size) 0 #[.int .i64 U25.i, .int .i64 U25.a.k, .int .i64 U25.a.i, .int .i64 U25.a.j, .int .i64 U25.a.n, (.slice a36 U25.a.kids.length c37), .int .i64 U25.b.k, .int .i64 U25.b.i, .int .i64 U25.b.j, .int .i64 U25.b.n, (.slice a39 U25.b.kids.length c40), .int .i64 U25.x.k, .int .i64 U25.x.i, .int .i64 U25.x.j, .int .i64 U25.x.n, (.slice a42 U25.x.kids.length c43), .int .i64 U25.y.k, .int .i64 U25.y.i, .int .i64 U25.y.j, .int .i64 U25.y.n, (.slice a45 U25.y.kids.length c46), .int .i64 U25.h.k, .int .i64 U25.h.i, .int .i64 U25.h.j, .int .i64 U25.h.n, (.slice a48 U25.h.kids.length c49)] (by rfl) (by rfl) 51 (by kernel_rfl) (row_ok rfl) ?_
  intro W53 hW53
  clear kvV0
  obtain ⟨k56, x55, z57⟩ := alloc1 hW53
  have Kk58 := Lib.hid k56
  clear k56
  have Hx55 := Lib.hid x55
  have Hz57 := Lib.hid z57
  clear x55 z57 hW53
  have HG59 : Hid (V0.heap.size ≤ w22.heap.size) := (Below.size (kept_trans Kk12.out (kept_trans Kk21.out Kk51.out)))
  have XL60 := Lib.hid (xlt_more (xlt_nil _) Kk58.out (by have := Hz57.out; omega))
  have HL61 : Hid (LiesQ W53 (Par w V0.heap.size (w22.heap.size :: []) (fun _ => False)) U11.kids _) := (par_more (Hhl7.out.later (kept_trans Kk21.out Kk51.out))).later Kk58.out
  have HL62 : Hid (LiesQ W53 (Par w V0.heap.size (w22.heap.size :: []) (fun _ => False)) U20.kids _) := (par_more (Hhl16.out.later Kk51.out)).later Kk58.out
  have HL63 : Hid (LiesQ W53 (Par w V0.heap.size (w22.heap.size :: []) (fun _ => False)) U25.a.kids _) := (par_more Hhl31.out).later Kk58.out
  have HL64 : Hid (LiesQ W53 (Par w V0.heap.size (w22.heap.size :: []) (fun _ => False)) U25.b.kids _) := (par_more Hhl32.out).later Kk58.out
  have HL65 : Hid (LiesQ W53 (Par w V0.heap.size (w22.heap.size :: []) (fun _ => False)) U25.x.kids _) := (par_more Hhl33.out).later Kk58.out
  have HL66 : Hid (LiesQ W53 (Par w V0.heap.size (w22.heap.size :: []) (fun _ => False)) U25.y.kids _) := (par_more Hhl34.out).later Kk58.out
  have HL67 : Hid (LiesQ W53 (Par w V0.heap.size (w22.heap.size :: []) (fun _ => False)) U25.h.kids _) := (par_more Hhl35.out).later Kk58.out
  refine ⟨_, #[.int .i64 U25.i, .int .i64 U25.a.k, .int .i64 U25.a.i, .int .i64 U25.a.j, .int .i64 U25.a.n, (.slice a36 U25.a.kids.length c37), .int .i64 U25.b.k, .int .i64 U25.b.i, .int .i64 U25.b.j, .int .i64 U25.b.n, (.slice a39 U25.b.kids.length c40), .int .i64 U25.x.k, .int .i64 U25.x.i, .int .i64 U25.x.j, .int .i64 U25.x.n, (.slice a42 U25.x.kids.length c43), .int .i64 U25.y.k, .int .i64 U25.y.i, .int .i64 U25.y.j, .int .i64 U25.y.n, (.slice a45 U25.y.kids.length c46), .int .i64 U25.h.k, .int .i64 U25.h.i, .int .i64 U25.h.j, .int .i64 U25.h.n, (.slice a48 U25.h.kids.length c49)], Hx55.out, rfl, Nat.le_of_ble_eq_true rfl, ?_⟩
  intro W54 hW54
  have KB68 := Lib.hid (kept_set (kept_trans Kk3.out (kept_trans Kk12.out (kept_trans Kk21.out (kept_trans Kk51.out Kk58.out)))) hW54 (by have := HG59.out; have := Z0.out; omega))
  have KB69 := Lib.hid (kept_set (kept_trans Kk12.out (kept_trans Kk21.out (kept_trans Kk51.out Kk58.out))) hW54 HG59.out)
  have HL70 : Hid (LiesQ W54 (Par w V0.heap.size (w22.heap.size :: []) (fun _ => False)) U11.kids _) := par_set HL61.out hW54 (List.mem_cons_self ..) (by have := HG59.out; have := Z0.out; omega)
  have HL71 : Hid (LiesQ W54 (Par w V0.heap.size (w22.heap.size :: []) (fun _ => False)) U20.kids _) := par_set HL62.out hW54 (List.mem_cons_self ..) (by have := HG59.out; have := Z0.out; omega)
  have HL72 : Hid (LiesQ W54 (Par w V0.heap.size (w22.heap.size :: []) (fun _ => False)) U25.a.kids _) := par_set HL63.out hW54 (List.mem_cons_self ..) (by have := HG59.out; have := Z0.out; omega)
  have HL73 : Hid (LiesQ W54 (Par w V0.heap.size (w22.heap.size :: []) (fun _ => False)) U25.b.kids _) := par_set HL64.out hW54 (List.mem_cons_self ..) (by have := HG59.out; have := Z0.out; omega)
  have HL74 : Hid (LiesQ W54 (Par w V0.heap.size (w22.heap.size :: []) (fun _ => False)) U25.x.kids _) := par_set HL65.out hW54 (List.mem_cons_self ..) (by have := HG59.out; have := Z0.out; omega)
  have HL75 : Hid (LiesQ W54 (Par w V0.heap.size (w22.heap.size :: []) (fun _ => False)) U25.y.kids _) := par_set HL66.out hW54 (List.mem_cons_self ..) (by have := HG59.out; have := Z0.out; omega)
  have HL76 : Hid (LiesQ W54 (Par w V0.heap.size (w22.heap.size :: []) (fun _ => False)) U25.h.kids _) := par_set HL67.out hW54 (List.mem_cons_self ..) (by have := HG59.out; have := Z0.out; omega)
  have XL77 := Lib.hid (xlt_set XL60.out hW54)
  have HX78 := Lib.hid (blk_same Hx55.out hW54)
  clear hW54
  have ld79 := partN_cell (r := V0.heap.size) HX78.out trivial 21 (.int .i64 U25.h.k) rfl
  have kvV0 : SeesN V0 V0.heap.size W54 := seesN_kept _ KB69.out
  have kvW54 : SeesN W54 V0.heap.size W54 := seesN_kept _ (kept_refl _)
  go_wp2_with (refine stop_load 51 (.tmp 1) rfl ?_)
  intro _
  refine wpList_load_part (w22.heap.size) 0 51 (.tmp 1) #[.int .i64 U25.i, .int .i64 U25.a.k, .int .i64 U25.a.i, .int .i64 U25.a.j, .int .i64 U25.a.n, (.slice a36 U25.a.kids.length c37), .int .i64 U25.b.k, .int .i64 U25.b.i, .int .i64 U25.b.j, .int .i64 U25.b.n, (.slice a39 U25.b.kids.length c40), .int .i64 U25.x.k, .int .i64 U25.x.i, .int .i64 U25.x.j, .int .i64 U25.x.n, (.slice a42 U25.x.kids.length c43), .int .i64 U25.y.k, .int .i64 U25.y.i, .int .i64 U25.y.j, .int .i64 U25.y.n, (.slice a45 U25.y.kids.length c46), .int .i64 U25.h.k, .int .i64 U25.h.i, .int .i64 U25.h.j, .int .i64 U25.h.n, (.slice a48 U25.h.kids.length c49)] dh HX78.out (by rfl) rfl (by rfl) (by rfl) dh1 (by cases dh <;> first | rfl | exact dh2) (by kernel_rfl) ?_
  go_wp2_with fail
  clear kvV0
  clear kvW54
  have hq82 := htype_any U25 (Par w V0.heap.size (w22.heap.size :: []) (fun _ => False)) W54 (.slice a36 U25.a.kids.length c37) (.slice a39 U25.b.kids.length c40) (.slice a42 U25.x.kids.length c43) (.slice a45 U25.y.kids.length c46) (.slice a48 U25.h.kids.length c49) ⟨(by rw [← HU25.out]; exact (wk_fine).1), (by rw [← HU25.out]; exact (wk_fine).2.1), (by rw [← HU25.out]; exact (wk_fine).2.2.1), (by rw [← HU25.out]; exact (wk_fine).2.2.2.1), (by rw [← HU25.out]; exact (wk_fine).2.2.2.2.1), (by rw [← HU25.out]; exact (wk_fine).2.2.2.2.2)⟩ ⟨HL72.out, HL73.out, HL74.out, HL75.out, HL76.out⟩
  rw [show heType U25 = useT 6 0 0 [varT 0, varT 0, varT 1, varT 1] from by rw [← HU25.out]; exact wk_type] at hq82
  refine hq82.mono ?_
  clear hq82
  obtain ⟨U88, hU88⟩ : ∃ qu, useT 6 0 0 [varT 0, varT 0, varT 1, varT 1] = qu := ⟨_, rfl⟩
  rw [hU88]
  have HU88 := Lib.hid hU88
  clear hU88
  rintro e w80 ⟨s83, rfl, hl84, k81⟩
  obtain ⟨a85, c86, S87, rfl, -⟩ := hl84.out
  have Kk89 := Lib.hid k81
  clear k81
  have Hhl84 : Hid (LiesQ w80 (Par w V0.heap.size (w22.heap.size :: []) (fun _ => False)) U88.kids _) := par_give hl84 (Below.size KB69.out) XL77.out
  clear hl84
  (try unfold tv)
  have fd90 : ∀ w', (Instr.field 32 (.agg #[.int .i64 U88.k, .int .i64 U88.i, .int .i64 U88.j, .int .i64 U88.n, (.slice a85 U88.kids.length c86)]) 3).run Try.prog w' = .ok (.int .i64 U88.n) w' := fun w' => field_term3 (.int .i64 U88.k) (.int .i64 U88.i) (.int .i64 U88.j) (.int .i64 U88.n) (.slice a85 U88.kids.length c86) w'
  have kf91 : (U88.n == 6) = true := by rw [← HU88.out]; first | rfl | decide
  have kvV0 : SeesN V0 V0.heap.size w80 := seesN_kept _ (kept_trans KB69.out Kk89.out)
  have kvW54 : SeesN W54 V0.heap.size w80 := seesN_kept _ Kk89.out
  go_wp2_with fail
  clear kvV0
  clear kvW54
  have hq94 := hPoints_any 2 (Par w V0.heap.size (w22.heap.size :: []) (fun _ => False)) w80 (show I64 2 from by unfold I64; decide)
  rw [wk_p2] at hq94
  refine hq94.mono ?_
  clear hq94
  obtain ⟨U100, hU100⟩ : ∃ qu, pointsT 2 = qu := ⟨_, rfl⟩
  rw [hU100]
  have HU100 := Lib.hid hU100
  clear hU100
  rintro e w92 ⟨s95, rfl, hl96, k93⟩
  obtain ⟨a97, c98, S99, rfl, -⟩ := hl96.out
  have Kk101 := Lib.hid k93
  clear k93
  have Hhl96 : Hid (LiesQ w92 (Par w V0.heap.size (w22.heap.size :: []) (fun _ => False)) U100.kids _) := par_give hl96 (Below.size (kept_trans KB69.out Kk89.out)) (xlt_later XL77.out Kk89.out)
  clear hl96
  (try unfold tv)
  have fd102 : ∀ w', (Instr.field 32 (.agg #[.int .i64 U100.k, .int .i64 U100.i, .int .i64 U100.j, .int .i64 U100.n, (.slice a97 U100.kids.length c98)]) 0).run Try.prog w' = .ok (.int .i64 U100.k) w' := fun w' => field_term0 (.int .i64 U100.k) (.int .i64 U100.i) (.int .i64 U100.j) (.int .i64 U100.n) (.slice a97 U100.kids.length c98) w'
  have kf103 : (U100.k == 16) = true := by rw [← HU100.out]; first | rfl | decide
  have kvV0 : SeesN V0 V0.heap.size w92 := seesN_kept _ (kept_trans KB69.out (kept_trans Kk89.out Kk101.out))
  have kvW54 : SeesN W54 V0.heap.size w92 := seesN_kept _ (kept_trans Kk89.out Kk101.out)
  go_wp2_with fail
  clear kvV0
  clear kvW54
  have hq106 := hPoints_any 999 (Par w V0.heap.size (w22.heap.size :: []) (fun _ => False)) w92 (show I64 999 from by unfold I64; decide)
  rw [wk_p999] at hq106
  refine hq106.mono ?_
  clear hq106
  rintro e w104 ⟨s107, rfl, hl108, k105⟩
  obtain ⟨a109, c110, S111, rfl, -⟩ := hl108.out
  have Kk112 := Lib.hid k105
  clear k105
  have Hhl108 : Hid (LiesQ w104 (Par w V0.heap.size (w22.heap.size :: []) (fun _ => False)) Tm.zero.kids _) := par_give hl108 (Below.size (kept_trans KB69.out (kept_trans Kk89.out Kk101.out))) (xlt_later XL77.out (kept_trans Kk89.out Kk101.out))
  clear hl108
  (try unfold tv)
  have fd113 : ∀ w', (Instr.field 32 (.agg #[.int .i64 Tm.zero.k, .int .i64 Tm.zero.i, .int .i64 Tm.zero.j, .int .i64 Tm.zero.n, (.slice a109 Tm.zero.kids.length c110)]) 0).run Try.prog w' = .ok (.int .i64 Tm.zero.k) w' := fun w' => field_term0 (.int .i64 Tm.zero.k) (.int .i64 Tm.zero.i) (.int .i64 Tm.zero.j) (.int .i64 Tm.zero.n) (.slice a109 Tm.zero.kids.length c110) w'
  have kf114 : (Tm.zero.k == 0) = true := by first | rfl | decide
  have kvV0 : SeesN V0 V0.heap.size w104 := seesN_kept _ (kept_trans KB69.out (kept_trans Kk89.out (kept_trans Kk101.out Kk112.out)))
  have kvW54 : SeesN W54 V0.heap.size w104 := seesN_kept _ (kept_trans Kk89.out (kept_trans Kk101.out Kk112.out))
  go_wp2
  go_ret
  exact ⟨rfl, (kept_trans KB68.out (kept_trans Kk89.out (kept_trans Kk101.out Kk112.out)))⟩

end Go.Proofs.Ytkdceahmknhojaa

namespace Go.Proofs.Ytkdceahmknhojaa
open Go.RowKit
theorem via_joinACACACACACC {J K : World → Option Addr → Nat → Option Addr → Nat → Option Addr → Nat → Option Addr → Nat → Option Addr → Nat → Nat → Prop} {A : Prop} (h1 : (∀ x0 x1 x2 x3 x4 x5 x6 x7 x8 x9 x10 x11, K x0 x1 x2 x3 x4 x5 x6 x7 x8 x9 x10 x11 → J x0 x1 x2 x3 x4 x5 x6 x7 x8 x9 x10 x11) → A) (h2 : ∀ x0 x1 x2 x3 x4 x5 x6 x7 x8 x9 x10 x11, K x0 x1 x2 x3 x4 x5 x6 x7 x8 x9 x10 x11 → J x0 x1 x2 x3 x4 x5 x6 x7 x8 x9 x10 x11) : A := h1 h2
theorem via_joinACACACACACCC {J K : World → Option Addr → Nat → Option Addr → Nat → Option Addr → Nat → Option Addr → Nat → Option Addr → Nat → Nat → Nat → Prop} {A : Prop} (h1 : (∀ x0 x1 x2 x3 x4 x5 x6 x7 x8 x9 x10 x11 x12, K x0 x1 x2 x3 x4 x5 x6 x7 x8 x9 x10 x11 x12 → J x0 x1 x2 x3 x4 x5 x6 x7 x8 x9 x10 x11 x12) → A) (h2 : ∀ x0 x1 x2 x3 x4 x5 x6 x7 x8 x9 x10 x11 x12, K x0 x1 x2 x3 x4 x5 x6 x7 x8 x9 x10 x11 x12 → J x0 x1 x2 x3 x4 x5 x6 x7 x8 x9 x10 x11 x12) : A := h1 h2
theorem via_joinACACACACACHACACACACACACACACACACACACACACACC {J K : World → Option Addr → Nat → Option Addr → Nat → Option Addr → Nat → Option Addr → Nat → Option Addr → Nat → He → Option Addr → Nat → Option Addr → Nat → Option Addr → Nat → Option Addr → Nat → Option Addr → Nat → Option Addr → Nat → Option Addr → Nat → Option Addr → Nat → Option Addr → Nat → Option Addr → Nat → Option Addr → Nat → Option Addr → Nat → Option Addr → Nat → Option Addr → Nat → Option Addr → Nat → Nat → Prop} {A : Prop} (h1 : (∀ x0 x1 x2 x3 x4 x5 x6 x7 x8 x9 x10 x11 x12 x13 x14 x15 x16 x17 x18 x19 x20 x21 x22 x23 x24 x25 x26 x27 x28 x29 x30 x31 x32 x33 x34 x35 x36 x37 x38 x39 x40 x41 x42, K x0 x1 x2 x3 x4 x5 x6 x7 x8 x9 x10 x11 x12 x13 x14 x15 x16 x17 x18 x19 x20 x21 x22 x23 x24 x25 x26 x27 x28 x29 x30 x31 x32 x33 x34 x35 x36 x37 x38 x39 x40 x41 x42 → J x0 x1 x2 x3 x4 x5 x6 x7 x8 x9 x10 x11 x12 x13 x14 x15 x16 x17 x18 x19 x20 x21 x22 x23 x24 x25 x26 x27 x28 x29 x30 x31 x32 x33 x34 x35 x36 x37 x38 x39 x40 x41 x42) → A) (h2 : ∀ x0 x1 x2 x3 x4 x5 x6 x7 x8 x9 x10 x11 x12 x13 x14 x15 x16 x17 x18 x19 x20 x21 x22 x23 x24 x25 x26 x27 x28 x29 x30 x31 x32 x33 x34 x35 x36 x37 x38 x39 x40 x41 x42, K x0 x1 x2 x3 x4 x5 x6 x7 x8 x9 x10 x11 x12 x13 x14 x15 x16 x17 x18 x19 x20 x21 x22 x23 x24 x25 x26 x27 x28 x29 x30 x31 x32 x33 x34 x35 x36 x37 x38 x39 x40 x41 x42 → J x0 x1 x2 x3 x4 x5 x6 x7 x8 x9 x10 x11 x12 x13 x14 x15 x16 x17 x18 x19 x20 x21 x22 x23 x24 x25 x26 x27 x28 x29 x30 x31 x32 x33 x34 x35 x36 x37 x38 x39 x40 x41 x42) : A := h1 h2
theorem via_joinACACACACACHACACACACACACACACACACACACACACACCC {J K : World → Option Addr → Nat → Option Addr → Nat → Option Addr → Nat → Option Addr → Nat → Option Addr → Nat → He → Option Addr → Nat → Option Addr → Nat → Option Addr → Nat → Option Addr → Nat → Option Addr → Nat → Option Addr → Nat → Option Addr → Nat → Option Addr → Nat → Option Addr → Nat → Option Addr → Nat → Option Addr → Nat → Option Addr → Nat → Option Addr → Nat → Option Addr → Nat → Option Addr → Nat → Nat → Nat → Prop} {A : Prop} (h1 : (∀ x0 x1 x2 x3 x4 x5 x6 x7 x8 x9 x10 x11 x12 x13 x14 x15 x16 x17 x18 x19 x20 x21 x22 x23 x24 x25 x26 x27 x28 x29 x30 x31 x32 x33 x34 x35 x36 x37 x38 x39 x40 x41 x42 x43, K x0 x1 x2 x3 x4 x5 x6 x7 x8 x9 x10 x11 x12 x13 x14 x15 x16 x17 x18 x19 x20 x21 x22 x23 x24 x25 x26 x27 x28 x29 x30 x31 x32 x33 x34 x35 x36 x37 x38 x39 x40 x41 x42 x43 → J x0 x1 x2 x3 x4 x5 x6 x7 x8 x9 x10 x11 x12 x13 x14 x15 x16 x17 x18 x19 x20 x21 x22 x23 x24 x25 x26 x27 x28 x29 x30 x31 x32 x33 x34 x35 x36 x37 x38 x39 x40 x41 x42 x43) → A) (h2 : ∀ x0 x1 x2 x3 x4 x5 x6 x7 x8 x9 x10 x11 x12 x13 x14 x15 x16 x17 x18 x19 x20 x21 x22 x23 x24 x25 x26 x27 x28 x29 x30 x31 x32 x33 x34 x35 x36 x37 x38 x39 x40 x41 x42 x43, K x0 x1 x2 x3 x4 x5 x6 x7 x8 x9 x10 x11 x12 x13 x14 x15 x16 x17 x18 x19 x20 x21 x22 x23 x24 x25 x26 x27 x28 x29 x30 x31 x32 x33 x34 x35 x36 x37 x38 x39 x40 x41 x42 x43 → J x0 x1 x2 x3 x4 x5 x6 x7 x8 x9 x10 x11 x12 x13 x14 x15 x16 x17 x18 x19 x20 x21 x22 x23 x24 x25 x26 x27 x28 x29 x30 x31 x32 x33 x34 x35 x36 x37 x38 x39 x40 x41 x42 x43) : A := h1 h2
theorem via_joinACACACACACHACACACACACACACACACACACACACACACHACACACACACC {J K : World → Option Addr → Nat → Option Addr → Nat → Option Addr → Nat → Option Addr → Nat → Option Addr → Nat → He → Option Addr → Nat → Option Addr → Nat → Option Addr → Nat → Option Addr → Nat → Option Addr → Nat → Option Addr → Nat → Option Addr → Nat → Option Addr → Nat → Option Addr → Nat → Option Addr → Nat → Option Addr → Nat → Option Addr → Nat → Option Addr → Nat → Option Addr → Nat → Option Addr → Nat → He → Option Addr → Nat → Option Addr → Nat → Option Addr → Nat → Option Addr → Nat → Option Addr → Nat → Nat → Prop} {A : Prop} (h1 : (∀ x0 x1 x2 x3 x4 x5 x6 x7 x8 x9 x10 x11 x12 x13 x14 x15 x16 x17 x18 x19 x20 x21 x22 x23 x24 x25 x26 x27 x28 x29 x30 x31 x32 x33 x34 x35 x36 x37 x38 x39 x40 x41 x42 x43 x44 x45 x46 x47 x48 x49 x50 x51 x52 x53, K x0 x1 x2 x3 x4 x5 x6 x7 x8 x9 x10 x11 x12 x13 x14 x15 x16 x17 x18 x19 x20 x21 x22 x23 x24 x25 x26 x27 x28 x29 x30 x31 x32 x33 x34 x35 x36 x37 x38 x39 x40 x41 x42 x43 x44 x45 x46 x47 x48 x49 x50 x51 x52 x53 → J x0 x1 x2 x3 x4 x5 x6 x7 x8 x9 x10 x11 x12 x13 x14 x15 x16 x17 x18 x19 x20 x21 x22 x23 x24 x25 x26 x27 x28 x29 x30 x31 x32 x33 x34 x35 x36 x37 x38 x39 x40 x41 x42 x43 x44 x45 x46 x47 x48 x49 x50 x51 x52 x53) → A) (h2 : ∀ x0 x1 x2 x3 x4 x5 x6 x7 x8 x9 x10 x11 x12 x13 x14 x15 x16 x17 x18 x19 x20 x21 x22 x23 x24 x25 x26 x27 x28 x29 x30 x31 x32 x33 x34 x35 x36 x37 x38 x39 x40 x41 x42 x43 x44 x45 x46 x47 x48 x49 x50 x51 x52 x53, K x0 x1 x2 x3 x4 x5 x6 x7 x8 x9 x10 x11 x12 x13 x14 x15 x16 x17 x18 x19 x20 x21 x22 x23 x24 x25 x26 x27 x28 x29 x30 x31 x32 x33 x34 x35 x36 x37 x38 x39 x40 x41 x42 x43 x44 x45 x46 x47 x48 x49 x50 x51 x52 x53 → J x0 x1 x2 x3 x4 x5 x6 x7 x8 x9 x10 x11 x12 x13 x14 x15 x16 x17 x18 x19 x20 x21 x22 x23 x24 x25 x26 x27 x28 x29 x30 x31 x32 x33 x34 x35 x36 x37 x38 x39 x40 x41 x42 x43 x44 x45 x46 x47 x48 x49 x50 x51 x52 x53) : A := h1 h2
theorem via_joinACACACACACHACACACACACACACACACACACACACACACHACACACACACCC {J K : World → Option Addr → Nat → Option Addr → Nat → Option Addr → Nat → Option Addr → Nat → Option Addr → Nat → He → Option Addr → Nat → Option Addr → Nat → Option Addr → Nat → Option Addr → Nat → Option Addr → Nat → Option Addr → Nat → Option Addr → Nat → Option Addr → Nat → Option Addr → Nat → Option Addr → Nat → Option Addr → Nat → Option Addr → Nat → Option Addr → Nat → Option Addr → Nat → Option Addr → Nat → He → Option Addr → Nat → Option Addr → Nat → Option Addr → Nat → Option Addr → Nat → Option Addr → Nat → Nat → Nat → Prop} {A : Prop} (h1 : (∀ x0 x1 x2 x3 x4 x5 x6 x7 x8 x9 x10 x11 x12 x13 x14 x15 x16 x17 x18 x19 x20 x21 x22 x23 x24 x25 x26 x27 x28 x29 x30 x31 x32 x33 x34 x35 x36 x37 x38 x39 x40 x41 x42 x43 x44 x45 x46 x47 x48 x49 x50 x51 x52 x53 x54, K x0 x1 x2 x3 x4 x5 x6 x7 x8 x9 x10 x11 x12 x13 x14 x15 x16 x17 x18 x19 x20 x21 x22 x23 x24 x25 x26 x27 x28 x29 x30 x31 x32 x33 x34 x35 x36 x37 x38 x39 x40 x41 x42 x43 x44 x45 x46 x47 x48 x49 x50 x51 x52 x53 x54 → J x0 x1 x2 x3 x4 x5 x6 x7 x8 x9 x10 x11 x12 x13 x14 x15 x16 x17 x18 x19 x20 x21 x22 x23 x24 x25 x26 x27 x28 x29 x30 x31 x32 x33 x34 x35 x36 x37 x38 x39 x40 x41 x42 x43 x44 x45 x46 x47 x48 x49 x50 x51 x52 x53 x54) → A) (h2 : ∀ x0 x1 x2 x3 x4 x5 x6 x7 x8 x9 x10 x11 x12 x13 x14 x15 x16 x17 x18 x19 x20 x21 x22 x23 x24 x25 x26 x27 x28 x29 x30 x31 x32 x33 x34 x35 x36 x37 x38 x39 x40 x41 x42 x43 x44 x45 x46 x47 x48 x49 x50 x51 x52 x53 x54, K x0 x1 x2 x3 x4 x5 x6 x7 x8 x9 x10 x11 x12 x13 x14 x15 x16 x17 x18 x19 x20 x21 x22 x23 x24 x25 x26 x27 x28 x29 x30 x31 x32 x33 x34 x35 x36 x37 x38 x39 x40 x41 x42 x43 x44 x45 x46 x47 x48 x49 x50 x51 x52 x53 x54 → J x0 x1 x2 x3 x4 x5 x6 x7 x8 x9 x10 x11 x12 x13 x14 x15 x16 x17 x18 x19 x20 x21 x22 x23 x24 x25 x26 x27 x28 x29 x30 x31 x32 x33 x34 x35 x36 x37 x38 x39 x40 x41 x42 x43 x44 x45 x46 x47 x48 x49 x50 x51 x52 x53 x54) : A := h1 h2
theorem via_joinACACACACACHACACACACACACACACACACC {J K : World → Option Addr → Nat → Option Addr → Nat → Option Addr → Nat → Option Addr → Nat → Option Addr → Nat → He → Option Addr → Nat → Option Addr → Nat → Option Addr → Nat → Option Addr → Nat → Option Addr → Nat → Option Addr → Nat → Option Addr → Nat → Option Addr → Nat → Option Addr → Nat → Option Addr → Nat → Nat → Prop} {A : Prop} (h1 : (∀ x0 x1 x2 x3 x4 x5 x6 x7 x8 x9 x10 x11 x12 x13 x14 x15 x16 x17 x18 x19 x20 x21 x22 x23 x24 x25 x26 x27 x28 x29 x30 x31 x32, K x0 x1 x2 x3 x4 x5 x6 x7 x8 x9 x10 x11 x12 x13 x14 x15 x16 x17 x18 x19 x20 x21 x22 x23 x24 x25 x26 x27 x28 x29 x30 x31 x32 → J x0 x1 x2 x3 x4 x5 x6 x7 x8 x9 x10 x11 x12 x13 x14 x15 x16 x17 x18 x19 x20 x21 x22 x23 x24 x25 x26 x27 x28 x29 x30 x31 x32) → A) (h2 : ∀ x0 x1 x2 x3 x4 x5 x6 x7 x8 x9 x10 x11 x12 x13 x14 x15 x16 x17 x18 x19 x20 x21 x22 x23 x24 x25 x26 x27 x28 x29 x30 x31 x32, K x0 x1 x2 x3 x4 x5 x6 x7 x8 x9 x10 x11 x12 x13 x14 x15 x16 x17 x18 x19 x20 x21 x22 x23 x24 x25 x26 x27 x28 x29 x30 x31 x32 → J x0 x1 x2 x3 x4 x5 x6 x7 x8 x9 x10 x11 x12 x13 x14 x15 x16 x17 x18 x19 x20 x21 x22 x23 x24 x25 x26 x27 x28 x29 x30 x31 x32) : A := h1 h2
theorem via_joinACACACACACHACACACACACACACACACACCC {J K : World → Option Addr → Nat → Option Addr → Nat → Option Addr → Nat → Option Addr → Nat → Option Addr → Nat → He → Option Addr → Nat → Option Addr → Nat → Option Addr → Nat → Option Addr → Nat → Option Addr → Nat → Option Addr → Nat → Option Addr → Nat → Option Addr → Nat → Option Addr → Nat → Option Addr → Nat → Nat → Nat → Prop} {A : Prop} (h1 : (∀ x0 x1 x2 x3 x4 x5 x6 x7 x8 x9 x10 x11 x12 x13 x14 x15 x16 x17 x18 x19 x20 x21 x22 x23 x24 x25 x26 x27 x28 x29 x30 x31 x32 x33, K x0 x1 x2 x3 x4 x5 x6 x7 x8 x9 x10 x11 x12 x13 x14 x15 x16 x17 x18 x19 x20 x21 x22 x23 x24 x25 x26 x27 x28 x29 x30 x31 x32 x33 → J x0 x1 x2 x3 x4 x5 x6 x7 x8 x9 x10 x11 x12 x13 x14 x15 x16 x17 x18 x19 x20 x21 x22 x23 x24 x25 x26 x27 x28 x29 x30 x31 x32 x33) → A) (h2 : ∀ x0 x1 x2 x3 x4 x5 x6 x7 x8 x9 x10 x11 x12 x13 x14 x15 x16 x17 x18 x19 x20 x21 x22 x23 x24 x25 x26 x27 x28 x29 x30 x31 x32 x33, K x0 x1 x2 x3 x4 x5 x6 x7 x8 x9 x10 x11 x12 x13 x14 x15 x16 x17 x18 x19 x20 x21 x22 x23 x24 x25 x26 x27 x28 x29 x30 x31 x32 x33 → J x0 x1 x2 x3 x4 x5 x6 x7 x8 x9 x10 x11 x12 x13 x14 x15 x16 x17 x18 x19 x20 x21 x22 x23 x24 x25 x26 x27 x28 x29 x30 x31 x32 x33) : A := h1 h2
theorem via_joinACACACACACHACACACACACC {J K : World → Option Addr → Nat → Option Addr → Nat → Option Addr → Nat → Option Addr → Nat → Option Addr → Nat → He → Option Addr → Nat → Option Addr → Nat → Option Addr → Nat → Option Addr → Nat → Option Addr → Nat → Nat → Prop} {A : Prop} (h1 : (∀ x0 x1 x2 x3 x4 x5 x6 x7 x8 x9 x10 x11 x12 x13 x14 x15 x16 x17 x18 x19 x20 x21 x22, K x0 x1 x2 x3 x4 x5 x6 x7 x8 x9 x10 x11 x12 x13 x14 x15 x16 x17 x18 x19 x20 x21 x22 → J x0 x1 x2 x3 x4 x5 x6 x7 x8 x9 x10 x11 x12 x13 x14 x15 x16 x17 x18 x19 x20 x21 x22) → A) (h2 : ∀ x0 x1 x2 x3 x4 x5 x6 x7 x8 x9 x10 x11 x12 x13 x14 x15 x16 x17 x18 x19 x20 x21 x22, K x0 x1 x2 x3 x4 x5 x6 x7 x8 x9 x10 x11 x12 x13 x14 x15 x16 x17 x18 x19 x20 x21 x22 → J x0 x1 x2 x3 x4 x5 x6 x7 x8 x9 x10 x11 x12 x13 x14 x15 x16 x17 x18 x19 x20 x21 x22) : A := h1 h2
theorem via_joinACACACACACHACACACACACCC {J K : World → Option Addr → Nat → Option Addr → Nat → Option Addr → Nat → Option Addr → Nat → Option Addr → Nat → He → Option Addr → Nat → Option Addr → Nat → Option Addr → Nat → Option Addr → Nat → Option Addr → Nat → Nat → Nat → Prop} {A : Prop} (h1 : (∀ x0 x1 x2 x3 x4 x5 x6 x7 x8 x9 x10 x11 x12 x13 x14 x15 x16 x17 x18 x19 x20 x21 x22 x23, K x0 x1 x2 x3 x4 x5 x6 x7 x8 x9 x10 x11 x12 x13 x14 x15 x16 x17 x18 x19 x20 x21 x22 x23 → J x0 x1 x2 x3 x4 x5 x6 x7 x8 x9 x10 x11 x12 x13 x14 x15 x16 x17 x18 x19 x20 x21 x22 x23) → A) (h2 : ∀ x0 x1 x2 x3 x4 x5 x6 x7 x8 x9 x10 x11 x12 x13 x14 x15 x16 x17 x18 x19 x20 x21 x22 x23, K x0 x1 x2 x3 x4 x5 x6 x7 x8 x9 x10 x11 x12 x13 x14 x15 x16 x17 x18 x19 x20 x21 x22 x23 → J x0 x1 x2 x3 x4 x5 x6 x7 x8 x9 x10 x11 x12 x13 x14 x15 x16 x17 x18 x19 x20 x21 x22 x23) : A := h1 h2
theorem via_joinCC {J K : World → Nat → Nat → Prop} {A : Prop} (h1 : (∀ x0 x1 x2, K x0 x1 x2 → J x0 x1 x2) → A) (h2 : ∀ x0 x1 x2, K x0 x1 x2 → J x0 x1 x2) : A := h1 h2
end Go.Proofs.Ytkdceahmknhojaa

namespace Go.Proofs.Ytkdceahmknhojaa
open Go.RowKit

abbrev turned (g : He) : He := ⟨g.i, g.b, g.a, g.y, g.x, useT 3 (g.i + 1) 0 [pointsT g.i, pointT g.i g.a g.x, pointT g.i g.b g.y, g.h]⟩
abbrev chained (g h : He) : He := ⟨g.i, g.a, h.b, g.x, h.y, useT 4 (g.i + 1) 0 [pointsT g.i, pointT g.i g.a g.x, pointT g.i g.b g.y, pointT g.i h.b h.y, g.h, h.h]⟩
theorem turn_good {g : He} (h : heR g = true) : heTurn g = turned g := by unfold heTurn; rw [if_pos h]
theorem then_good {g h : He} (hg : heR g = true) (hh : heR h = true) (e : g.i = h.i) : heThen g h = chained g h := by unfold heThen; rw [if_pos (by simp [hg, hh, e])]
theorem turned_right {g : He} (h : heR g = true) : heR (turned g) = true := by
  have hl := heR_lev h
  have hp := heR_pl h
  have hu : (useT 3 (g.i + 1) 0 [pointsT g.i, pointT g.i g.a g.x, pointT g.i g.b g.y, g.h]).plainB = true := by
    refine use_plain (by rfl) ?_ (by rfl) (fun x hx => ?_)
    · have := levN_true hl; unfold levelB; simp; omega
    · simp only [List.mem_cons, List.not_mem_nil, or_false] at hx
      rcases hx with rfl | rfl | rfl | rfl
      · exact points_plain hl
      · exact point_plain hl (hp _ (by simp)) (hp _ (by simp))
      · exact point_plain hl (hp _ (by simp)) (hp _ (by simp))
      · exact hp _ (by simp)
  unfold heR heR2 plainL
  simp [hl, hu, hp g.a (by simp), hp g.b (by simp), hp g.x (by simp), hp g.y (by simp)]
theorem turned_fine {g : He} (hf : g.fine) (h : heR g = true) : (turned g).fine := by rw [← turn_good h]; exact heTurn_fine hf

def hetEndsr3_0 : Oper := { dst := some 31, op := Go.Op.load 45 (Go.Operand.tmp 2), type := 45, pos := "law.go:79", after := #[], guard := none }
def hetEndsr3_1 : Oper := { dst := some 32, op := Go.Op.call { callee := Go.Callee.value (Go.Operand.func 33), args := #[Go.Operand.tmp 31], argTypes := #[45] }, type := 51, pos := "law.go:79", after := #[{ on := 0, ground := Go.Ground.data }], guard := none }
def hetEndsr3_2 : Oper := { dst := some 33, op := Go.Op.call { callee := Go.Callee.value (Go.Operand.func 37), args := #[Go.Operand.tmp 32], argTypes := #[51] }, type := 51, pos := "law.go:79", after := #[{ on := 1, ground := Go.Ground.data }, { on := 1, ground := Go.Ground.chain }], guard := none }
def hetEndsr3_3 : Oper := { dst := some 34, op := Go.Op.load 45 (Go.Operand.tmp 2), type := 45, pos := "law.go:79", after := #[], guard := none }
def hetEndsr3_4 : Oper := { dst := some 35, op := Go.Op.call { callee := Go.Callee.value (Go.Operand.func 33), args := #[Go.Operand.tmp 34], argTypes := #[45] }, type := 51, pos := "law.go:79", after := #[{ on := 3, ground := Go.Ground.data }, { on := 2, ground := Go.Ground.chain }], guard := none }
def hetEndsr3_5 : Oper := { dst := some 36, op := Go.Op.load 45 (Go.Operand.tmp 3), type := 45, pos := "law.go:79", after := #[], guard := none }
def hetEndsr3_6 : Oper := { dst := some 37, op := Go.Op.call { callee := Go.Callee.value (Go.Operand.func 33), args := #[Go.Operand.tmp 36], argTypes := #[45] }, type := 51, pos := "law.go:79", after := #[{ on := 5, ground := Go.Ground.data }, { on := 4, ground := Go.Ground.chain }], guard := none }
def hetEndsr3_7 : Oper := { dst := some 38, op := Go.Op.call { callee := Go.Callee.value (Go.Operand.func 49), args := #[Go.Operand.tmp 35, Go.Operand.tmp 37], argTypes := #[51, 51] }, type := 51, pos := "law.go:79", after := #[{ on := 4, ground := Go.Ground.data }, { on := 6, ground := Go.Ground.data }, { on := 6, ground := Go.Ground.chain }], guard := none }
def hetEndsr3_8 : Oper := { dst := some 5, op := Go.Op.alloc 51, type := 0, pos := "law.go:79", after := #[], guard := none }
def hetEndsr3_9 : Oper := { dst := some 6, op := Go.Op.alloc 51, type := 0, pos := "law.go:79", after := #[], guard := none }
def hetEndsr3_10 : Oper := { dst := none, op := Go.Op.store 51 (Go.Operand.tmp 5) (Go.Operand.tmp 33), type := 0, pos := "law.go:79", after := #[{ on := 8, ground := Go.Ground.data }, { on := 2, ground := Go.Ground.data }, { on := 7, ground := Go.Ground.chain }, { on := 0, ground := Go.Ground.phase }, { on := 1, ground := Go.Ground.phase }, { on := 2, ground := Go.Ground.phase }, { on := 3, ground := Go.Ground.textOnly Go.Departure.lateStores }, { on := 4, ground := Go.Ground.textOnly Go.Departure.lateStoresUnsure }, { on := 5, ground := Go.Ground.textOnly Go.Departure.lateStores }, { on := 6, ground := Go.Ground.textOnly Go.Departure.lateStoresUnsure }, { on := 7, ground := Go.Ground.textOnly Go.Departure.lateStoresUnsure }, { on := 8, ground := Go.Ground.phase }, { on := 9, ground := Go.Ground.phase }], guard := none }
def hetEndsr3_11 : Oper := { dst := none, op := Go.Op.store 51 (Go.Operand.tmp 6) (Go.Operand.tmp 38), type := 0, pos := "law.go:79", after := #[{ on := 9, ground := Go.Ground.data }, { on := 7, ground := Go.Ground.data }, { on := 10, ground := Go.Ground.chain }, { on := 0, ground := Go.Ground.phase }, { on := 1, ground := Go.Ground.phase }, { on := 2, ground := Go.Ground.phase }, { on := 3, ground := Go.Ground.phase }, { on := 4, ground := Go.Ground.phase }, { on := 5, ground := Go.Ground.phase }, { on := 6, ground := Go.Ground.phase }, { on := 7, ground := Go.Ground.phase }, { on := 8, ground := Go.Ground.phase }, { on := 9, ground := Go.Ground.phase }, { on := 10, ground := Go.Ground.phase }], guard := none }
end Go.Proofs.Ytkdceahmknhojaa
