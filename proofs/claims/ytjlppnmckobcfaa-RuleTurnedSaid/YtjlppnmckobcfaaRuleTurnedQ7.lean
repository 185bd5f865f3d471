/-
  RuleTurned holds: for every input the call returns true, and the arguments read as before. No condition.
-/
import Derived.Test.YtjlppnmckobcfaaRows
import Derived.WalkKit
import Derived.Lib.Hide
import Derived.KernelRfl
import Derived.Deep.RegionWith
import Derived.Deep.RegionHeld3
import Derived.Deep.AppendLies
import Derived.Laws.Rows
import Derived.Laws.IdiomCopy
import Derived.Deep.Slices
import Derived.Deep.QuietTactic
import Derived.BigQuiet
import Derived.Lib.QuietBelow
import Derived.StillTailTactics
import Derived.IntWalk
import Derived.OwnWalk
import Derived.OrdersHeld
import Derived.Deep.DeepCutAuto
import Derived.Deep.RegionLaw
import Derived.Deep.LoopGhost
import Derived.Deep.MidRow
import Derived.Laws.Tables
import Derived.Laws.CopyOwn
import Derived.Laws.CopyRow
import Derived.Deep.RegionHeld
import Derived.ProofKit
import Derived.OpenShut
import Derived.Carry
import Derived.ChangeSlices
import Derived.JoinedOf
import Derived.Test.YtjlppnmckobcfaaRuleTurnedQ6
namespace Go.Proofs.Ytjlppnmckobcfaa
open Go.RowKit

theorem liesJ_row1 {w : World} {g : Nat} {j : Jd} {su sv sa : Value} {T : TypeId} {fr : Nat × Nat} (h : w.heap[g]? = some (.cells #[.bool j.eq, .int .i64 j.u.k, .int .i64 j.u.i, .int .i64 j.u.j, .int .i64 j.u.n, su, .int .i64 j.v.k, .int .i64 j.v.i, .int .i64 j.v.j, .int .i64 j.v.n, sv, .int .i64 j.a.k, .int .i64 j.a.i, .int .i64 j.a.j, .int .i64 j.a.n, sa, .int .i64 j.i] T fr)) (hf : j.fine) (hl : JLies w j su sv sa) : LiesJ w [j] (.slice (some ⟨g, 0, none⟩) 1 1) := by
  refine ⟨some ⟨g, 0, none⟩, 1, fun _ => (su, sv, sa), rfl, Nat.le_refl _, by unfold maxLen; decide, fun e he => by rw [List.mem_singleton.1 he]; exact hf, fun i hi => ?_, fun i hi => ?_⟩
  · obtain rfl : i = 0 := by simpa using hi
    have key : ∀ o v, (#[Value.bool j.eq, .int .i64 j.u.k, .int .i64 j.u.i, .int .i64 j.u.j, .int .i64 j.u.n, su, .int .i64 j.v.k, .int .i64 j.v.i, .int .i64 j.v.j, .int .i64 j.v.n, sv, .int .i64 j.a.k, .int .i64 j.a.i, .int .i64 j.a.j, .int .i64 j.a.n, sa, .int .i64 j.i] : Array Value)[o]? = some v → w.cell? ⟨g, o, none⟩ = some v := fun o v hv => by rw [cell_of_row w g _ _ _ _ h]; exact hv
    exact ⟨g, 0, rfl, key _ _ rfl, key _ _ rfl, key _ _ rfl, key _ _ rfl, key _ _ rfl, key _ _ rfl, key _ _ rfl, key _ _ rfl, key _ _ rfl, key _ _ rfl, key _ _ rfl, key _ _ rfl, key _ _ rfl, key _ _ rfl, key _ _ rfl, key _ _ rfl, key _ _ rfl⟩
  · obtain rfl : i = 0 := by simpa using hi
    exact hl
set_option maxRecDepth 20000 in
set_option maxHeartbeats 4000000 in
theorem turned1ok_any (i : Int) (c : List En) (u : Tm) (v : Tm) (x : Tm) (P : Nat → Prop) (w : World) (sc : Value) (su : Value) (sv : Value) (sx : Value) (hlc : LiesE w c sc) (hfu : u.fine) (hlu : LiesQ w P u.kids su) (hfv : v.fine) (hlv : LiesQ w P v.kids sv) (hfx : x.fine) (hlx : LiesQ w P x.kids sx) (hri : I64 i) (hpc : purC c = true) (hrj : rightJ (⟨true, u, v, x, i⟩ : Jd) (c.length : Int) = true) : Calls Try.prog 5 #[sc, .agg #[.bool true, .int .i64 u.k, .int .i64 u.i, .int .i64 u.j, .int .i64 u.n, su, .int .i64 v.k, .int .i64 v.i, .int .i64 v.j, .int .i64 v.n, sv, .int .i64 x.k, .int .i64 x.i, .int .i64 x.j, .int .i64 x.n, sx, .int .i64 i]] w fun e w' => e = .returned (.bool true) ∧ Kept w w' := by
  have HEc := Lib.hid hlc
  obtain ⟨ac, cc, Sc, rfl, -⟩ := hlc.out
  clear hlc
  have Gu := Lib.hid hfu
  clear hfu
  obtain ⟨au, cu, Su, rfl, -⟩ := hlu.out
  have Gv := Lib.hid hfv
  clear hfv
  obtain ⟨av, cv, Sv, rfl, -⟩ := hlv.out
  have Gx := Lib.hid hfx
  clear hfx
  obtain ⟨ax, cx, Sx, rfl, -⟩ := hlx.out
  have Ri := Lib.hid hri
  clear hri
  have HPC := Lib.hid hpc
  clear hpc
  have HRJ := Lib.hid hrj
  have HRK := Lib.hid (rightJ_turn hrj)
  clear hrj
  obtain ⟨dj, dj1, dj2⟩ := under_of 34 (by kernel_rfl)
  obtain ⟨du, hu1, hu2⟩ := under_term
  go_enter Try.func5, Try.ntmps5
  go_upto_region 1 with fail
  refine at_code (fun V0 hV0 => ?_)
  obtain ⟨k2, x1, z3⟩ := alloc1 hV0
  have Kk4 := Lib.hid k2
  clear k2
  have Hx1 := Lib.hid x1
  have Z0 := Lib.hid z3
  clear z3 x1 hV0
  have HLu : Hid (LiesQ V0 (Par w V0.heap.size [] P) u.kids _) := (par_in _ _ hlu).later Kk4.out
  clear hlu
  have HLv : Hid (LiesQ V0 (Par w V0.heap.size [] P) v.kids _) := (par_in _ _ hlv).later Kk4.out
  clear hlv
  have HLx : Hid (LiesQ V0 (Par w V0.heap.size [] P) x.kids _) := (par_in _ _ hlx).later Kk4.out
  clear hlx
  have ld5 := partN_cell (r := V0.heap.size) Hx1.out trivial 16 (.int .i64 i) rfl
  have kvV0 : SeesN V0 V0.heap.size V0 := seesN_kept _ (kept_refl _)
  go_wp2_with (refine stop_load 34 (.tmp 3) rfl ?_)
  intro _
  refine wpList_load_part (w.heap.size) (0) 34 (.tmp 3) #[.bool true, .int .i64 u.k, .int .i64 u.i, .int .i64 u.j, .int .i64 u.n, (.slice au u.kids.length cu), .int .i64 v.k, .int .i64 v.i, .int .i64 v.j, .int .i64 v.n, (.slice av v.kids.length cv), .int .i64 x.k, .int .i64 x.i, .int .i64 x.j, .int .i64 x.n, (.slice ax x.kids.length cx), .int .i64 i] dj Hx1.out (by rfl) rfl (by rfl) (by rfl) dj1 (by cases dj <;> first | rfl | exact dj2) (by kernel_rfl) ?_
  go_wp2_with fail
  refine at_world (fun W7 hW7 => ?_)
  clear kvV0
  obtain ⟨k9, x8, z10⟩ := alloc1 hW7
  have Kk11 := Lib.hid k9
  clear k9
  have Hx8 := Lib.hid x8
  have Hz10 := Lib.hid z10
  clear x8 z10 hW7
  refine (lheavy15_any c [(⟨true, u, v, x, i⟩ : Jd)] _ ((.slice ac c.length cc)) (.slice (some ⟨V0.heap.size, 0, none⟩) 1 1) (HEc.out.keep (kept_trans Kk4.out Kk11.out)) (liesJ_row1 (j := (⟨true, u, v, x, i⟩ : Jd)) Hx8.out ⟨Gu.out, Gv.out, Gx.out, Ri.out⟩ ⟨(HLu.out.later Kk11.out).lies, (HLv.out.later Kk11.out).lies, (HLx.out.later Kk11.out).lies⟩)).mono ?_
  rintro e w12 ⟨gb14, rfl, hg15, k13⟩
  have Hhg15 := Lib.hid hg15
  clear hg15
  have Kk16 := Lib.hid k13
  clear k13
  cases gb14 with
  | false =>
    have HIhg15 := Lib.hid (Hhg15.out rfl)
    have kvV0 : SeesN V0 V0.heap.size w12 := seesN_kept _ (kept_trans Kk11.out Kk16.out)
    go_wp2_with (refine stop_load 34 (.tmp 3) rfl ?_)
    intro _
    refine wpList_load_part (w.heap.size) (0) 34 (.tmp 3) #[.bool true, .int .i64 u.k, .int .i64 u.i, .int .i64 u.j, .int .i64 u.n, (.slice au u.kids.length cu), .int .i64 v.k, .int .i64 v.i, .int .i64 v.j, .int .i64 v.n, (.slice av v.kids.length cv), .int .i64 x.k, .int .i64 x.i, .int .i64 x.j, .int .i64 x.n, (.slice ax x.kids.length cx), .int .i64 i] dj (blk_at Hx1.out (kept_trans Kk11.out Kk16.out)) (by rfl) rfl (by rfl) (by rfl) dj1 (by cases dj <;> first | rfl | exact dj2) (by kernel_rfl) ?_
    go_wp2_with fail
    refine at_world (fun W18 hW18 => ?_)
    clear kvV0
    obtain ⟨k20, x19, z21⟩ := alloc1 hW18
    have Kk22 := Lib.hid k20
    clear k20
    have Hx19 := Lib.hid x19
    have Hz21 := Lib.hid z21
    clear x19 z21 hW18
    refine (of14Tok_any i c u v x (Par w V0.heap.size [] P) W18 ((.slice ac c.length cc)) w12.heap.size ((.slice au u.kids.length cu)) ((.slice av v.kids.length cv)) ((.slice ax x.kids.length cx)) (HEc.out.keep (kept_trans Kk4.out (kept_trans Kk11.out (kept_trans Kk16.out Kk22.out)))) Gu.out (HLu.out.later (kept_trans Kk11.out (kept_trans Kk16.out Kk22.out))) Gv.out (HLv.out.later (kept_trans Kk11.out (kept_trans Kk16.out Kk22.out))) Gx.out (HLx.out.later (kept_trans Kk11.out (kept_trans Kk16.out Kk22.out))) Ri.out Hx19.out (Nat.le_trans HIhg15.out.1.1 (by decide)) (Nat.le_trans (HIhg15.out.2.2 _ (List.mem_cons_self ..)).1 (by decide)) (Nat.le_trans (HIhg15.out.2.2 _ (List.mem_cons_self ..)).2.1 (by decide)) (Nat.le_trans (HIhg15.out.2.2 _ (List.mem_cons_self ..)).2.2 (by decide)) HPC.out HRJ.out).mono ?_
    rintro e w23 ⟨s25, s26, s27, rfl, ⟨hl28, hl29, hl30⟩, k24⟩
    obtain ⟨a31, c32, S33, rfl, -⟩ := hl28.out
    obtain ⟨a34, c35, S36, rfl, -⟩ := hl29.out
    obtain ⟨a37, c38, S39, rfl, -⟩ := hl30.out
    have Kk40 := Lib.hid k24
    clear k24
    have Hhl28 : Hid (LiesQ w23 (Par w V0.heap.size [] P) v.kids _) := par_give hl28 (Below.size (kept_trans Kk11.out (kept_trans Kk16.out Kk22.out))) (xlt_nil _)
    have Hhl29 : Hid (LiesQ w23 (Par w V0.heap.size [] P) u.kids _) := par_give hl29 (Below.size (kept_trans Kk11.out (kept_trans Kk16.out Kk22.out))) (xlt_nil _)
    have Hhl30 : Hid (LiesQ w23 (Par w V0.heap.size [] P) x.kids _) := par_give hl30 (Below.size (kept_trans Kk11.out (kept_trans Kk16.out Kk22.out))) (xlt_nil _)
    clear hl28 hl29 hl30
    have kvV0 : SeesN V0 V0.heap.size w23 := seesN_kept _ (kept_trans Kk11.out (kept_trans Kk16.out (kept_trans Kk22.out Kk40.out)))
    go_wp2_with (refine stop_store 34 (.tmp 5) (.tmp 20) rfl ?_)
    intro _
    refine wpList_store_part_n (by rfl) 34 (.tmp 5) (.tmp 20) rfl (w23.heap.size) 0 #[.bool true, .int .i64 v.k, .int .i64 v.i, .int .i64 v.j, .int .i64 v.n, (.slice a31 v.kids.length c32), .int .i64 u.k, .int .i64 u.i, .int .i64 u.j, .int .i64 u.n, (.slice a34 u.kids.length c35), .int .i64 x.k, .int .i64 x.i, .int .i64 x.j, .int .i64 x.n, (.slice a37 x.kids.length c38), .int .i64 i] (by rfl) (by rfl) 34 (by kernel_rfl) (row_ok rfl) ?_
    intro W41 hW41
    clear kvV0
    obtain ⟨k44, x43, z45⟩ := alloc1 hW41
    have Kk46 := Lib.hid k44
    clear k44
    have Hx43 := Lib.hid x43
    have Hz45 := Lib.hid z45
    clear x43 z45 hW41
    have HG47 : Hid (V0.heap.size ≤ w23.heap.size) := (Below.size (kept_trans Kk11.out (kept_trans Kk16.out (kept_trans Kk22.out Kk40.out))))
    have XL48 : Hid (XLt (w23.heap.size :: []) W41) := (xlt_more (xlt_nil _) Kk46.out (by have := Hz45.out; omega))
    refine ⟨_, #[.bool true, .int .i64 v.k, .int .i64 v.i, .int .i64 v.j, .int .i64 v.n, (.slice a31 v.kids.length c32), .int .i64 u.k, .int .i64 u.i, .int .i64 u.j, .int .i64 u.n, (.slice a34 u.kids.length c35), .int .i64 x.k, .int .i64 x.i, .int .i64 x.j, .int .i64 x.n, (.slice a37 x.kids.length c38), .int .i64 i], Hx43.out, rfl, Nat.le_of_ble_eq_true rfl, ?_⟩
    intro W42 hW42
    have KB49 := Lib.hid (kept_set (kept_trans Kk4.out (kept_trans Kk11.out (kept_trans Kk16.out (kept_trans Kk22.out (kept_trans Kk40.out Kk46.out))))) hW42 (by have := HG47.out; have := Z0.out; omega))
    have KB50 := Lib.hid (kept_set (kept_trans Kk11.out (kept_trans Kk16.out (kept_trans Kk22.out (kept_trans Kk40.out Kk46.out)))) hW42 HG47.out)
    have HL51 : Hid (LiesQ W42 (Par w V0.heap.size (w23.heap.size :: []) P) u.kids _) := par_set (par_grow HLu.out (kept_trans Kk11.out (kept_trans Kk16.out (kept_trans Kk22.out (kept_trans Kk40.out Kk46.out)))) (List.forall_mem_cons.2 ⟨(Or.inr (Nat.le_trans (Below.size (kept_trans Kk11.out (kept_trans Kk16.out (kept_trans Kk22.out Kk40.out)))) (Nat.le_refl w23.heap.size))), (fun _ h => nomatch h)⟩)) hW42 (List.mem_cons_self ..) (by have := HG47.out; have := Z0.out; omega)
    have HL52 : Hid (LiesQ W42 (Par w V0.heap.size (w23.heap.size :: []) P) v.kids _) := par_set (par_grow HLv.out (kept_trans Kk11.out (kept_trans Kk16.out (kept_trans Kk22.out (kept_trans Kk40.out Kk46.out)))) (List.forall_mem_cons.2 ⟨(Or.inr (Nat.le_trans (Below.size (kept_trans Kk11.out (kept_trans Kk16.out (kept_trans Kk22.out Kk40.out)))) (Nat.le_refl w23.heap.size))), (fun _ h => nomatch h)⟩)) hW42 (List.mem_cons_self ..) (by have := HG47.out; have := Z0.out; omega)
    have HL53 : Hid (LiesQ W42 (Par w V0.heap.size (w23.heap.size :: []) P) x.kids _) := par_set (par_grow HLx.out (kept_trans Kk11.out (kept_trans Kk16.out (kept_trans Kk22.out (kept_trans Kk40.out Kk46.out)))) (List.forall_mem_cons.2 ⟨(Or.inr (Nat.le_trans (Below.size (kept_trans Kk11.out (kept_trans Kk16.out (kept_trans Kk22.out Kk40.out)))) (Nat.le_refl w23.heap.size))), (fun _ h => nomatch h)⟩)) hW42 (List.mem_cons_self ..) (by have := HG47.out; have := Z0.out; omega)
    have HL54 : Hid (LiesQ W42 (Par w V0.heap.size (w23.heap.size :: []) P) v.kids _) := par_set (par_grow Hhl28.out Kk46.out (List.forall_mem_cons.2 ⟨(Or.inr (Nat.le_refl w23.heap.size)), (fun _ h => nomatch h)⟩)) hW42 (List.mem_cons_self ..) (by have := HG47.out; have := Z0.out; omega)
    have HL55 : Hid (LiesQ W42 (Par w V0.heap.size (w23.heap.size :: []) P) u.kids _) := par_set (par_grow Hhl29.out Kk46.out (List.forall_mem_cons.2 ⟨(Or.inr (Nat.le_refl w23.heap.size)), (fun _ h => nomatch h)⟩)) hW42 (List.mem_cons_self ..) (by have := HG47.out; have := Z0.out; omega)
    have HL56 : Hid (LiesQ W42 (Par w V0.heap.size (w23.heap.size :: []) P) x.kids _) := par_set (par_grow Hhl30.out Kk46.out (List.forall_mem_cons.2 ⟨(Or.inr (Nat.le_refl w23.heap.size)), (fun _ h => nomatch h)⟩)) hW42 (List.mem_cons_self ..) (by have := HG47.out; have := Z0.out; omega)
    have XL57 := Lib.hid (xlt_set XL48.out hW42)
    have HX58 := Lib.hid (blk_same Hx43.out hW42)
    clear hW42
    have kvV0 : SeesN V0 V0.heap.size W42 := seesN_kept _ KB50.out
    have kvW42 : SeesN W42 V0.heap.size W42 := seesN_kept _ (kept_refl _)
    go_wp2_with (refine stop_load 34 (.tmp 5) rfl ?_)
    intro _
    refine wpList_load_part (w23.heap.size) (0) 34 (.tmp 5) #[.bool true, .int .i64 v.k, .int .i64 v.i, .int .i64 v.j, .int .i64 v.n, (.slice a31 v.kids.length c32), .int .i64 u.k, .int .i64 u.i, .int .i64 u.j, .int .i64 u.n, (.slice a34 u.kids.length c35), .int .i64 x.k, .int .i64 x.i, .int .i64 x.j, .int .i64 x.n, (.slice a37 x.kids.length c38), .int .i64 i] dj HX58.out (by rfl) rfl (by rfl) (by rfl) dj1 (by cases dj <;> first | rfl | exact dj2) (by kernel_rfl) ?_
    go_wp2_with fail
    refine at_world (fun W60 hW60 => ?_)
    clear kvV0
    clear kvW42
    obtain ⟨k62, x61, z63⟩ := alloc1 hW60
    have Kk64 := Lib.hid k62
    clear k62
    have Hx61 := Lib.hid x61
    have Hz63 := Lib.hid z63
    clear x61 z63 hW60
    refine (of14Tok_any i c v u x (Par w V0.heap.size (w23.heap.size :: []) P) W60 ((.slice ac c.length cc)) W42.heap.size ((.slice a31 v.kids.length c32)) ((.slice a34 u.kids.length c35)) ((.slice a37 x.kids.length c38)) (HEc.out.keep (kept_trans KB49.out Kk64.out)) Gv.out (HL54.out.later Kk64.out) Gu.out (HL55.out.later Kk64.out) Gx.out (HL56.out.later Kk64.out) Ri.out Hx61.out (Nat.le_trans HIhg15.out.1.1 (by decide)) (Nat.le_trans (HIhg15.out.2.2 _ (List.mem_cons_self ..)).2.1 (by decide)) (Nat.le_trans (HIhg15.out.2.2 _ (List.mem_cons_self ..)).1 (by decide)) (Nat.le_trans (HIhg15.out.2.2 _ (List.mem_cons_self ..)).2.2 (by decide)) HPC.out HRK.out).mono ?_
    rintro e w65 ⟨s67, s68, s69, rfl, ⟨hl70, hl71, hl72⟩, k66⟩
    obtain ⟨a73, c74, S75, rfl, -⟩ := hl70.out
    obtain ⟨a76, c77, S78, rfl, -⟩ := hl71.out
    obtain ⟨a79, c80, S81, rfl, -⟩ := hl72.out
    have Kk82 := Lib.hid k66
    clear k66
    have Hhl70 : Hid (LiesQ w65 (Par w V0.heap.size (w23.heap.size :: []) P) u.kids _) := par_give hl70 (Below.size (kept_trans KB50.out Kk64.out)) (xlt_later XL57.out Kk64.out)
    have Hhl71 : Hid (LiesQ w65 (Par w V0.heap.size (w23.heap.size :: []) P) v.kids _) := par_give hl71 (Below.size (kept_trans KB50.out Kk64.out)) (xlt_later XL57.out Kk64.out)
    have Hhl72 : Hid (LiesQ w65 (Par w V0.heap.size (w23.heap.size :: []) P) x.kids _) := par_give hl72 (Below.size (kept_trans KB50.out Kk64.out)) (xlt_later XL57.out Kk64.out)
    clear hl70 hl71 hl72
    have kvV0 : SeesN V0 V0.heap.size w65 := seesN_kept _ (kept_trans KB50.out (kept_trans Kk64.out Kk82.out))
    have kvW42 : SeesN W42 V0.heap.size w65 := seesN_kept _ (kept_trans Kk64.out Kk82.out)
    go_wp2_with (refine stop_store 34 (.tmp 7) (.tmp 30) rfl ?_)
    intro _
    refine wpList_store_part_n (by rfl) 34 (.tmp 7) (.tmp 30) rfl (w65.heap.size) 0 #[.bool true, .int .i64 u.k, .int .i64 u.i, .int .i64 u.j, .int .i64 u.n, (.slice a73 u.kids.length c74), .int .i64 v.k, .int .i64 v.i, .int .i64 v.j, .int .i64 v.n, (.slice a76 v.kids.length c77), .int .i64 x.k, .int .i64 x.i, .int .i64 x.j, .int .i64 x.n, (.slice a79 x.kids.length c80), .int .i64 i] (by rfl) (by rfl) 34 (by kernel_rfl) (row_ok rfl) ?_
    intro W83 hW83
    clear kvV0
    clear kvW42
    obtain ⟨k86, x85, z87⟩ := alloc1 hW83
    have Kk88 := Lib.hid k86
    clear k86
    have Hx85 := Lib.hid x85
    have Hz87 := Lib.hid z87
    clear x85 z87 hW83
    have HG89 : Hid (V0.heap.size ≤ w65.heap.size) := (Below.size (kept_trans KB50.out (kept_trans Kk64.out Kk82.out)))
    have AP90 : Hid (w23.heap.size < w65.heap.size) := block_lt (blk_at HX58.out (kept_trans Kk64.out Kk82.out))
    have XL91 : Hid (XLt (w65.heap.size :: (w23.heap.size :: [])) W83) := (xlt_more (xlt_later XL57.out (kept_trans Kk64.out Kk82.out)) Kk88.out (by have := Hz87.out; omega))
    refine ⟨_, #[.bool true, .int .i64 u.k, .int .i64 u.i, .int .i64 u.j, .int .i64 u.n, (.slice a73 u.kids.length c74), .int .i64 v.k, .int .i64 v.i, .int .i64 v.j, .int .i64 v.n, (.slice a76 v.kids.length c77), .int .i64 x.k, .int .i64 x.i, .int .i64 x.j, .int .i64 x.n, (.slice a79 x.kids.length c80), .int .i64 i], Hx85.out, rfl, Nat.le_of_ble_eq_true rfl, ?_⟩
    intro W84 hW84
    have KB92 := Lib.hid (kept_set (kept_trans KB49.out (kept_trans Kk64.out (kept_trans Kk82.out Kk88.out))) hW84 (by have := HG89.out; have := Z0.out; omega))
    have KB93 := Lib.hid (kept_set (kept_trans KB50.out (kept_trans Kk64.out (kept_trans Kk82.out Kk88.out))) hW84 HG89.out)
    have HL94 : Hid (LiesQ W84 (Par w V0.heap.size (w65.heap.size :: (w23.heap.size :: [])) P) u.kids _) := par_set (par_grow HL51.out (kept_trans Kk64.out (kept_trans Kk82.out Kk88.out)) (List.forall_mem_cons.2 ⟨(Or.inr (Nat.le_trans (Below.size (kept_trans Kk64.out Kk82.out)) (Nat.le_refl w65.heap.size))), (List.forall_mem_cons.2 ⟨(Or.inl (List.mem_cons_self ..)), (fun _ h => nomatch h)⟩)⟩)) hW84 (List.mem_cons_self ..) (by have := HG89.out; have := Z0.out; omega)
    have HL95 : Hid (LiesQ W84 (Par w V0.heap.size (w65.heap.size :: (w23.heap.size :: [])) P) v.kids _) := par_set (par_grow HL52.out (kept_trans Kk64.out (kept_trans Kk82.out Kk88.out)) (List.forall_mem_cons.2 ⟨(Or.inr (Nat.le_trans (Below.size (kept_trans Kk64.out Kk82.out)) (Nat.le_refl w65.heap.size))), (List.forall_mem_cons.2 ⟨(Or.inl (List.mem_cons_self ..)), (fun _ h => nomatch h)⟩)⟩)) hW84 (List.mem_cons_self ..) (by have := HG89.out; have := Z0.out; omega)
    have HL96 : Hid (LiesQ W84 (Par w V0.heap.size (w65.heap.size :: (w23.heap.size :: [])) P) x.kids _) := par_set (par_grow HL53.out (kept_trans Kk64.out (kept_trans Kk82.out Kk88.out)) (List.forall_mem_cons.2 ⟨(Or.inr (Nat.le_trans (Below.size (kept_trans Kk64.out Kk82.out)) (Nat.le_refl w65.heap.size))), (List.forall_mem_cons.2 ⟨(Or.inl (List.mem_cons_self ..)), (fun _ h => nomatch h)⟩)⟩)) hW84 (List.mem_cons_self ..) (by have := HG89.out; have := Z0.out; omega)
    have HL97 : Hid (LiesQ W84 (Par w V0.heap.size (w65.heap.size :: (w23.heap.size :: [])) P) v.kids _) := par_set (par_grow HL54.out (kept_trans Kk64.out (kept_trans Kk82.out Kk88.out)) (List.forall_mem_cons.2 ⟨(Or.inr (Nat.le_trans (Below.size (kept_trans Kk64.out Kk82.out)) (Nat.le_refl w65.heap.size))), (List.forall_mem_cons.2 ⟨(Or.inl (List.mem_cons_self ..)), (fun _ h => nomatch h)⟩)⟩)) hW84 (List.mem_cons_self ..) (by have := HG89.out; have := Z0.out; omega)
    have HL98 : Hid (LiesQ W84 (Par w V0.heap.size (w65.heap.size :: (w23.heap.size :: [])) P) u.kids _) := par_set (par_grow HL55.out (kept_trans Kk64.out (kept_trans Kk82.out Kk88.out)) (List.forall_mem_cons.2 ⟨(Or.inr (Nat.le_trans (Below.size (kept_trans Kk64.out Kk82.out)) (Nat.le_refl w65.heap.size))), (List.forall_mem_cons.2 ⟨(Or.inl (List.mem_cons_self ..)), (fun _ h => nomatch h)⟩)⟩)) hW84 (List.mem_cons_self ..) (by have := HG89.out; have := Z0.out; omega)
    have HL99 : Hid (LiesQ W84 (Par w V0.heap.size (w65.heap.size :: (w23.heap.size :: [])) P) x.kids _) := par_set (par_grow HL56.out (kept_trans Kk64.out (kept_trans Kk82.out Kk88.out)) (List.forall_mem_cons.2 ⟨(Or.inr (Nat.le_trans (Below.size (kept_trans Kk64.out Kk82.out)) (Nat.le_refl w65.heap.size))), (List.forall_mem_cons.2 ⟨(Or.inl (List.mem_cons_self ..)), (fun _ h => nomatch h)⟩)⟩)) hW84 (List.mem_cons_self ..) (by have := HG89.out; have := Z0.out; omega)
    have HL100 : Hid (LiesQ W84 (Par w V0.heap.size (w65.heap.size :: (w23.heap.size :: [])) P) u.kids _) := par_set (par_grow Hhl70.out Kk88.out (List.forall_mem_cons.2 ⟨(Or.inr (Nat.le_refl w65.heap.size)), (List.forall_mem_cons.2 ⟨(Or.inl (List.mem_cons_self ..)), (fun _ h => nomatch h)⟩)⟩)) hW84 (List.mem_cons_self ..) (by have := HG89.out; have := Z0.out; omega)
    have HL101 : Hid (LiesQ W84 (Par w V0.heap.size (w65.heap.size :: (w23.heap.size :: [])) P) v.kids _) := par_set (par_grow Hhl71.out Kk88.out (List.forall_mem_cons.2 ⟨(Or.inr (Nat.le_refl w65.heap.size)), (List.forall_mem_cons.2 ⟨(Or.inl (List.mem_cons_self ..)), (fun _ h => nomatch h)⟩)⟩)) hW84 (List.mem_cons_self ..) (by have := HG89.out; have := Z0.out; omega)
    have HL102 : Hid (LiesQ W84 (Par w V0.heap.size (w65.heap.size :: (w23.heap.size :: [])) P) x.kids _) := par_set (par_grow Hhl72.out Kk88.out (List.forall_mem_cons.2 ⟨(Or.inr (Nat.le_refl w65.heap.size)), (List.forall_mem_cons.2 ⟨(Or.inl (List.mem_cons_self ..)), (fun _ h => nomatch h)⟩)⟩)) hW84 (List.mem_cons_self ..) (by have := HG89.out; have := Z0.out; omega)
    have XL103 := Lib.hid (xlt_set XL91.out hW84)
    have HX104 := Lib.hid (blk_other (blk_at HX58.out (kept_trans Kk64.out (kept_trans Kk82.out Kk88.out))) hW84 (by have := AP90.out; omega))
    have HX105 := Lib.hid (blk_same Hx85.out hW84)
    clear hW84
    have kvV0 : SeesN V0 V0.heap.size W84 := seesN_kept _ KB93.out
    have kvW84 : SeesN W84 V0.heap.size W84 := seesN_kept _ (kept_refl _)
    go_wp2_with (refine stop_load 34 (.tmp 3) rfl ?_)
    intro _
    refine wpList_load_part (w.heap.size) (0) 34 (.tmp 3) #[.bool true, .int .i64 u.k, .int .i64 u.i, .int .i64 u.j, .int .i64 u.n, (.slice au u.kids.length cu), .int .i64 v.k, .int .i64 v.i, .int .i64 v.j, .int .i64 v.n, (.slice av v.kids.length cv), .int .i64 x.k, .int .i64 x.i, .int .i64 x.j, .int .i64 x.n, (.slice ax x.kids.length cx), .int .i64 i] dj (blk_at Hx1.out KB93.out) (by rfl) rfl (by rfl) (by rfl) dj1 (by cases dj <;> first | rfl | exact dj2) (by kernel_rfl) ?_
    go_wp2_with (refine stop_load 34 (.tmp 5) rfl ?_)
    intro _
    refine wpList_load_part (w23.heap.size) (0) 34 (.tmp 5) #[.bool true, .int .i64 v.k, .int .i64 v.i, .int .i64 v.j, .int .i64 v.n, (.slice a31 v.kids.length c32), .int .i64 u.k, .int .i64 u.i, .int .i64 u.j, .int .i64 u.n, (.slice a34 u.kids.length c35), .int .i64 x.k, .int .i64 x.i, .int .i64 x.j, .int .i64 x.n, (.slice a37 x.kids.length c38), .int .i64 i] dj HX104.out (by rfl) rfl (by rfl) (by rfl) dj1 (by cases dj <;> first | rfl | exact dj2) (by kernel_rfl) ?_
    go_wp2_with fail
    refine at_world (fun W107 hW107 => ?_)
    clear kvV0
    clear kvW84
    obtain ⟨k109, x108, z110⟩ := alloc1 hW107
    have Kk111 := Lib.hid k109
    clear k109
    have Hx108 := Lib.hid x108
    have Hz110 := Lib.hid z110
    clear x108 z110 hW107
    refine (of15ok_any i c u v x (Par w V0.heap.size (w65.heap.size :: (w23.heap.size :: [])) P) W107 ((.slice ac c.length cc)) W84.heap.size ((.slice au u.kids.length cu)) ((.slice av v.kids.length cv)) ((.slice ax x.kids.length cx)) ((.slice a31 v.kids.length c32)) ((.slice a34 u.kids.length c35)) ((.slice a37 x.kids.length c38)) (HEc.out.keep (kept_trans KB92.out Kk111.out)) Gu.out (HL94.out.later Kk111.out) Gv.out (HL95.out.later Kk111.out) Gx.out (HL96.out.later Kk111.out) Ri.out (HL97.out.later Kk111.out) (HL98.out.later Kk111.out) (HL99.out.later Kk111.out) Hx108.out (Nat.le_trans HIhg15.out.1.1 (by decide)) (Nat.le_trans (HIhg15.out.2.2 _ (List.mem_cons_self ..)).1 (by decide)) (Nat.le_trans (HIhg15.out.2.2 _ (List.mem_cons_self ..)).2.1 (by decide)) (Nat.le_trans (HIhg15.out.2.2 _ (List.mem_cons_self ..)).2.2 (by decide)) HPC.out HRJ.out HRK.out).mono ?_
    rintro e w112 ⟨s114, s115, s116, rfl, ⟨hl117, hl118, hl119⟩, k113⟩
    obtain ⟨a120, c121, S122, rfl, -⟩ := hl117.out
    obtain ⟨a123, c124, S125, rfl, -⟩ := hl118.out
    obtain ⟨a126, c127, S128, rfl, -⟩ := hl119.out
    have Kk129 := Lib.hid k113
    clear k113
    have Hhl117 : Hid (LiesQ w112 (Par w V0.heap.size (w65.heap.size :: (w23.heap.size :: [])) P) u.kids _) := par_give hl117 (Below.size (kept_trans KB93.out Kk111.out)) (xlt_later XL103.out Kk111.out)
    have Hhl118 : Hid (LiesQ w112 (Par w V0.heap.size (w65.heap.size :: (w23.heap.size :: [])) P) u.kids _) := par_give hl118 (Below.size (kept_trans KB93.out Kk111.out)) (xlt_later XL103.out Kk111.out)
    have Hhl119 : Hid (LiesQ w112 (Par w V0.heap.size (w65.heap.size :: (w23.heap.size :: [])) P) x.kids _) := par_give hl119 (Below.size (kept_trans KB93.out Kk111.out)) (xlt_later XL103.out Kk111.out)
    clear hl117 hl118 hl119
    have kvV0 : SeesN V0 V0.heap.size w112 := seesN_kept _ (kept_trans KB93.out (kept_trans Kk111.out Kk129.out))
    have kvW84 : SeesN W84 V0.heap.size w112 := seesN_kept _ (kept_trans Kk111.out Kk129.out)
    go_wp2_with (refine stop_store 34 (.tmp 9) (.tmp 38) rfl ?_)
    intro _
    refine wpList_store_part_n (by rfl) 34 (.tmp 9) (.tmp 38) rfl (w112.heap.size) 0 #[.bool true, .int .i64 u.k, .int .i64 u.i, .int .i64 u.j, .int .i64 u.n, (.slice a120 u.kids.length c121), .int .i64 u.k, .int .i64 u.i, .int .i64 u.j, .int .i64 u.n, (.slice a123 u.kids.length c124), .int .i64 x.k, .int .i64 x.i, .int .i64 x.j, .int .i64 x.n, (.slice a126 x.kids.length c127), .int .i64 i] (by rfl) (by rfl) 34 (by kernel_rfl) (row_ok rfl) ?_
    intro W130 hW130
    clear kvV0
    clear kvW84
    obtain ⟨k133, x132, z134⟩ := alloc1 hW130
    have Kk135 := Lib.hid k133
    clear k133
    have Hx132 := Lib.hid x132
    have Hz134 := Lib.hid z134
    clear x132 z134 hW130
    have HG136 : Hid (V0.heap.size ≤ w112.heap.size) := (Below.size (kept_trans KB93.out (kept_trans Kk111.out Kk129.out)))
    have AP137 : Hid (w23.heap.size < w112.heap.size) := block_lt (blk_at HX104.out (kept_trans Kk111.out Kk129.out))
    have AP138 : Hid (w65.heap.size < w112.heap.size) := block_lt (blk_at HX105.out (kept_trans Kk111.out Kk129.out))
    have XL139 : Hid (XLt (w112.heap.size :: (w65.heap.size :: (w23.heap.size :: []))) W130) := (xlt_more (xlt_later XL103.out (kept_trans Kk111.out Kk129.out)) Kk135.out (by have := Hz134.out; omega))
    refine ⟨_, #[.bool true, .int .i64 u.k, .int .i64 u.i, .int .i64 u.j, .int .i64 u.n, (.slice a120 u.kids.length c121), .int .i64 u.k, .int .i64 u.i, .int .i64 u.j, .int .i64 u.n, (.slice a123 u.kids.length c124), .int .i64 x.k, .int .i64 x.i, .int .i64 x.j, .int .i64 x.n, (.slice a126 x.kids.length c127), .int .i64 i], Hx132.out, rfl, Nat.le_of_ble_eq_true rfl, ?_⟩
    intro W131 hW131
    have KB140 := Lib.hid (kept_set (kept_trans KB92.out (kept_trans Kk111.out (kept_trans Kk129.out Kk135.out))) hW131 (by have := HG136.out; have := Z0.out; omega))
    have KB141 := Lib.hid (kept_set (kept_trans KB93.out (kept_trans Kk111.out (kept_trans Kk129.out Kk135.out))) hW131 HG136.out)
    have HL142 : Hid (LiesQ W131 (Par w V0.heap.size (w112.heap.size :: (w65.heap.size :: (w23.heap.size :: []))) P) u.kids _) := par_set (par_grow HL94.out (kept_trans Kk111.out (kept_trans Kk129.out Kk135.out)) (List.forall_mem_cons.2 ⟨(Or.inr (Nat.le_trans (Below.size (kept_trans Kk111.out Kk129.out)) (Nat.le_refl w112.heap.size))), (List.forall_mem_cons.2 ⟨(Or.inl (List.mem_cons_self ..)), (List.forall_mem_cons.2 ⟨(Or.inl (List.mem_cons_of_mem _ (List.mem_cons_self ..))), (fun _ h => nomatch h)⟩)⟩)⟩)) hW131 (List.mem_cons_self ..) (by have := HG136.out; have := Z0.out; omega)
    have HL143 : Hid (LiesQ W131 (Par w V0.heap.size (w112.heap.size :: (w65.heap.size :: (w23.heap.size :: []))) P) v.kids _) := par_set (par_grow HL95.out (kept_trans Kk111.out (kept_trans Kk129.out Kk135.out)) (List.forall_mem_cons.2 ⟨(Or.inr (Nat.le_trans (Below.size (kept_trans Kk111.out Kk129.out)) (Nat.le_refl w112.heap.size))), (List.forall_mem_cons.2 ⟨(Or.inl (List.mem_cons_self ..)), (List.forall_mem_cons.2 ⟨(Or.inl (List.mem_cons_of_mem _ (List.mem_cons_self ..))), (fun _ h => nomatch h)⟩)⟩)⟩)) hW131 (List.mem_cons_self ..) (by have := HG136.out; have := Z0.out; omega)
    have HL144 : Hid (LiesQ W131 (Par w V0.heap.size (w112.heap.size :: (w65.heap.size :: (w23.heap.size :: []))) P) x.kids _) := par_set (par_grow HL96.out (kept_trans Kk111.out (kept_trans Kk129.out Kk135.out)) (List.forall_mem_cons.2 ⟨(Or.inr (Nat.le_trans (Below.size (kept_trans Kk111.out Kk129.out)) (Nat.le_refl w112.heap.size))), (List.forall_mem_cons.2 ⟨(Or.inl (List.mem_cons_self ..)), (List.forall_mem_cons.2 ⟨(Or.inl (List.mem_cons_of_mem _ (List.mem_cons_self ..))), (fun _ h => nomatch h)⟩)⟩)⟩)) hW131 (List.mem_cons_self ..) (by have := HG136.out; have := Z0.out; omega)
    have HL145 : Hid (LiesQ W131 (Par w V0.heap.size (w112.heap.size :: (w65.heap.size :: (w23.heap.size :: []))) P) v.kids _) := par_set (par_grow HL97.out (kept_trans Kk111.out (kept_trans Kk129.out Kk135.out)) (List.forall_mem_cons.2 ⟨(Or.inr (Nat.le_trans (Below.size (kept_trans Kk111.out Kk129.out)) (Nat.le_refl w112.heap.size))), (List.forall_mem_cons.2 ⟨(Or.inl (List.mem_cons_self ..)), (List.forall_mem_cons.2 ⟨(Or.inl (List.mem_cons_of_mem _ (List.mem_cons_self ..))), (fun _ h => nomatch h)⟩)⟩)⟩)) hW131 (List.mem_cons_self ..) (by have := HG136.out; have := Z0.out; omega)
    have HL146 : Hid (LiesQ W131 (Par w V0.heap.size (w112.heap.size :: (w65.heap.size :: (w23.heap.size :: []))) P) u.kids _) := par_set (par_grow HL98.out (kept_trans Kk111.out (kept_trans Kk129.out Kk135.out)) (List.forall_mem_cons.2 ⟨(Or.inr (Nat.le_trans (Below.size (kept_trans Kk111.out Kk129.out)) (Nat.le_refl w112.heap.size))), (List.forall_mem_cons.2 ⟨(Or.inl (List.mem_cons_self ..)), (List.forall_mem_cons.2 ⟨(Or.inl (List.mem_cons_of_mem _ (List.mem_cons_self ..))), (fun _ h => nomatch h)⟩)⟩)⟩)) hW131 (List.mem_cons_self ..) (by have := HG136.out; have := Z0.out; omega)
    have HL147 : Hid (LiesQ W131 (Par w V0.heap.size (w112.heap.size :: (w65.heap.size :: (w23.heap.size :: []))) P) x.kids _) := par_set (par_grow HL99.out (kept_trans Kk111.out (kept_trans Kk129.out Kk135.out)) (List.forall_mem_cons.2 ⟨(Or.inr (Nat.le_trans (Below.size (kept_trans Kk111.out Kk129.out)) (Nat.le_refl w112.heap.size))), (List.forall_mem_cons.2 ⟨(Or.inl (List.mem_cons_self ..)), (List.forall_mem_cons.2 ⟨(Or.inl (List.mem_cons_of_mem _ (List.mem_cons_self ..))), (fun _ h => nomatch h)⟩)⟩)⟩)) hW131 (List.mem_cons_self ..) (by have := HG136.out; have := Z0.out; omega)
    have HL148 : Hid (LiesQ W131 (Par w V0.heap.size (w112.heap.size :: (w65.heap.size :: (w23.heap.size :: []))) P) u.kids _) := par_set (par_grow HL100.out (kept_trans Kk111.out (kept_trans Kk129.out Kk135.out)) (List.forall_mem_cons.2 ⟨(Or.inr (Nat.le_trans (Below.size (kept_trans Kk111.out Kk129.out)) (Nat.le_refl w112.heap.size))), (List.forall_mem_cons.2 ⟨(Or.inl (List.mem_cons_self ..)), (List.forall_mem_cons.2 ⟨(Or.inl (List.mem_cons_of_mem _ (List.mem_cons_self ..))), (fun _ h => nomatch h)⟩)⟩)⟩)) hW131 (List.mem_cons_self ..) (by have := HG136.out; have := Z0.out; omega)
    have HL149 : Hid (LiesQ W131 (Par w V0.heap.size (w112.heap.size :: (w65.heap.size :: (w23.heap.size :: []))) P) v.kids _) := par_set (par_grow HL101.out (kept_trans Kk111.out (kept_trans Kk129.out Kk135.out)) (List.forall_mem_cons.2 ⟨(Or.inr (Nat.le_trans (Below.size (kept_trans Kk111.out Kk129.out)) (Nat.le_refl w112.heap.size))), (List.forall_mem_cons.2 ⟨(Or.inl (List.mem_cons_self ..)), (List.forall_mem_cons.2 ⟨(Or.inl (List.mem_cons_of_mem _ (List.mem_cons_self ..))), (fun _ h => nomatch h)⟩)⟩)⟩)) hW131 (List.mem_cons_self ..) (by have := HG136.out; have := Z0.out; omega)
    have HL150 : Hid (LiesQ W131 (Par w V0.heap.size (w112.heap.size :: (w65.heap.size :: (w23.heap.size :: []))) P) x.kids _) := par_set (par_grow HL102.out (kept_trans Kk111.out (kept_trans Kk129.out Kk135.out)) (List.forall_mem_cons.2 ⟨(Or.inr (Nat.le_trans (Below.size (kept_trans Kk111.out Kk129.out)) (Nat.le_refl w112.heap.size))), (List.forall_mem_cons.2 ⟨(Or.inl (List.mem_cons_self ..)), (List.forall_mem_cons.2 ⟨(Or.inl (List.mem_cons_of_mem _ (List.mem_cons_self ..))), (fun _ h => nomatch h)⟩)⟩)⟩)) hW131 (List.mem_cons_self ..) (by have := HG136.out; have := Z0.out; omega)
    have HL151 : Hid (LiesQ W131 (Par w V0.heap.size (w112.heap.size :: (w65.heap.size :: (w23.heap.size :: []))) P) u.kids _) := par_set (par_grow Hhl117.out Kk135.out (List.forall_mem_cons.2 ⟨(Or.inr (Nat.le_refl w112.heap.size)), (List.forall_mem_cons.2 ⟨(Or.inl (List.mem_cons_self ..)), (List.forall_mem_cons.2 ⟨(Or.inl (List.mem_cons_of_mem _ (List.mem_cons_self ..))), (fun _ h => nomatch h)⟩)⟩)⟩)) hW131 (List.mem_cons_self ..) (by have := HG136.out; have := Z0.out; omega)
    have HL152 : Hid (LiesQ W131 (Par w V0.heap.size (w112.heap.size :: (w65.heap.size :: (w23.heap.size :: []))) P) u.kids _) := par_set (par_grow Hhl118.out Kk135.out (List.forall_mem_cons.2 ⟨(Or.inr (Nat.le_refl w112.heap.size)), (List.forall_mem_cons.2 ⟨(Or.inl (List.mem_cons_self ..)), (List.forall_mem_cons.2 ⟨(Or.inl (List.mem_cons_of_mem _ (List.mem_cons_self ..))), (fun _ h => nomatch h)⟩)⟩)⟩)) hW131 (List.mem_cons_self ..) (by have := HG136.out; have := Z0.out; omega)
    have HL153 : Hid (LiesQ W131 (Par w V0.heap.size (w112.heap.size :: (w65.heap.size :: (w23.heap.size :: []))) P) x.kids _) := par_set (par_grow Hhl119.out Kk135.out (List.forall_mem_cons.2 ⟨(Or.inr (Nat.le_refl w112.heap.size)), (List.forall_mem_cons.2 ⟨(Or.inl (List.mem_cons_self ..)), (List.forall_mem_cons.2 ⟨(Or.inl (List.mem_cons_of_mem _ (List.mem_cons_self ..))), (fun _ h => nomatch h)⟩)⟩)⟩)) hW131 (List.mem_cons_self ..) (by have := HG136.out; have := Z0.out; omega)
    have XL154 := Lib.hid (xlt_set XL139.out hW131)
    have HX155 := Lib.hid (blk_other (blk_at HX104.out (kept_trans Kk111.out (kept_trans Kk129.out Kk135.out))) hW131 (by have := AP137.out; omega))
    have HX156 := Lib.hid (blk_other (blk_at HX105.out (kept_trans Kk111.out (kept_trans Kk129.out Kk135.out))) hW131 (by have := AP138.out; omega))
    have HX157 := Lib.hid (blk_same Hx132.out hW131)
    clear hW131
    have ld158 := partN_cell (r := V0.heap.size) HX157.out trivial 0 (.bool true) rfl
    have ld159 := partN_cell (r := V0.heap.size) HX157.out trivial 16 (.int .i64 i) rfl
    have kvV0 : SeesN V0 V0.heap.size W131 := seesN_kept _ KB141.out
    have kvW131 : SeesN W131 V0.heap.size W131 := seesN_kept _ (kept_refl _)
    go_wp2_with (refine stop_load 34 (.tmp 7) rfl ?_)
    intro _
    refine wpList_load_part (w65.heap.size) (0) 34 (.tmp 7) #[.bool true, .int .i64 u.k, .int .i64 u.i, .int .i64 u.j, .int .i64 u.n, (.slice a73 u.kids.length c74), .int .i64 v.k, .int .i64 v.i, .int .i64 v.j, .int .i64 v.n, (.slice a76 v.kids.length c77), .int .i64 x.k, .int .i64 x.i, .int .i64 x.j, .int .i64 x.n, (.slice a79 x.kids.length c80), .int .i64 i] dj HX156.out (by rfl) rfl (by rfl) (by rfl) dj1 (by cases dj <;> first | rfl | exact dj2) (by kernel_rfl) ?_
    go_wp2_with (refine stop_load 34 (.tmp 3) rfl ?_)
    intro _
    refine wpList_load_part (w.heap.size) (0) 34 (.tmp 3) #[.bool true, .int .i64 u.k, .int .i64 u.i, .int .i64 u.j, .int .i64 u.n, (.slice au u.kids.length cu), .int .i64 v.k, .int .i64 v.i, .int .i64 v.j, .int .i64 v.n, (.slice av v.kids.length cv), .int .i64 x.k, .int .i64 x.i, .int .i64 x.j, .int .i64 x.n, (.slice ax x.kids.length cx), .int .i64 i] dj (blk_at Hx1.out KB141.out) (by rfl) rfl (by rfl) (by rfl) dj1 (by cases dj <;> first | rfl | exact dj2) (by kernel_rfl) ?_
    go_wp2_with fail
    clear kvV0
    clear kvW131
    have hq162 := keepjudg_any (⟨true, u, v, x, i⟩ : Jd) (⟨true, u, v, x, i⟩ : Jd) W131 ((.slice a73 u.kids.length c74)) ((.slice a76 v.kids.length c77)) ((.slice a79 x.kids.length c80)) ((.slice au u.kids.length cu)) ((.slice av v.kids.length cv)) ((.slice ax x.kids.length cx)) ⟨HL148.out.lies, HL149.out.lies, HL150.out.lies⟩ ⟨HL142.out.lies, HL143.out.lies, HL144.out.lies⟩
    rw [judgB_self (⟨true, u, v, x, i⟩ : Jd)] at hq162
    refine hq162.mono ?_
    clear hq162
    rintro e w160 ⟨rfl, k161⟩
    have Kk163 := Lib.hid k161
    clear k161
    have kvV0 : SeesN V0 V0.heap.size w160 := seesN_kept _ (kept_trans KB141.out Kk163.out)
    have kvW131 : SeesN W131 V0.heap.size w160 := seesN_kept _ Kk163.out
    go_wp2_with (refine stop_load 32 (.tmp 50) rfl ?_)
    intro _
    refine wpList_load_part (w112.heap.size) (1) 32 (.tmp 50) #[.int .i64 u.k, .int .i64 u.i, .int .i64 u.j, .int .i64 u.n, (.slice a120 u.kids.length c121)] du (blk_at HX157.out Kk163.out) (by rfl) rfl (by rfl) (by rfl) hu1 (by cases du <;> first | rfl | exact hu2) size_term ?_
    go_wp2_with (refine stop_load 32 (.tmp 52) rfl ?_)
    intro _
    refine wpList_load_part (w.heap.size) (1) 32 (.tmp 52) #[.int .i64 u.k, .int .i64 u.i, .int .i64 u.j, .int .i64 u.n, (.slice au u.kids.length cu)] du (blk_at Hx1.out (kept_trans KB141.out Kk163.out)) (by rfl) rfl (by rfl) (by rfl) hu1 (by cases du <;> first | rfl | exact hu2) size_term ?_
    go_wp2_with fail
    clear kvV0
    clear kvW131
    have hq166 := keepsame_any u u w160 ((.slice a120 u.kids.length c121)) ((.slice au u.kids.length cu)) (HL151.out.later Kk163.out).lies (HL142.out.later Kk163.out).lies
    rw [sameB_self u] at hq166
    refine hq166.mono ?_
    clear hq166
    rintro e w164 ⟨rfl, k165⟩
    have Kk167 := Lib.hid k165
    clear k165
    have kvV0 : SeesN V0 V0.heap.size w164 := seesN_kept _ (kept_trans KB141.out (kept_trans Kk163.out Kk167.out))
    have kvW131 : SeesN W131 V0.heap.size w164 := seesN_kept _ (kept_trans Kk163.out Kk167.out)
    go_wp2_with (refine stop_load 32 (.tmp 57) rfl ?_)
    intro _
    refine wpList_load_part (w112.heap.size) (6) 32 (.tmp 57) #[.int .i64 u.k, .int .i64 u.i, .int .i64 u.j, .int .i64 u.n, (.slice a123 u.kids.length c124)] du (blk_at HX157.out (kept_trans Kk163.out Kk167.out)) (by rfl) rfl (by rfl) (by rfl) hu1 (by cases du <;> first | rfl | exact hu2) size_term ?_
    go_wp2_with (refine stop_load 32 (.tmp 59) rfl ?_)
    intro _
    refine wpList_load_part (w.heap.size) (1) 32 (.tmp 59) #[.int .i64 u.k, .int .i64 u.i, .int .i64 u.j, .int .i64 u.n, (.slice au u.kids.length cu)] du (blk_at Hx1.out (kept_trans KB141.out (kept_trans Kk163.out Kk167.out))) (by rfl) rfl (by rfl) (by rfl) hu1 (by cases du <;> first | rfl | exact hu2) size_term ?_
    go_wp2_with fail
    clear kvV0
    clear kvW131
    have hq170 := keepsame_any u u w164 ((.slice a123 u.kids.length c124)) ((.slice au u.kids.length cu)) (HL152.out.later (kept_trans Kk163.out Kk167.out)).lies (HL142.out.later (kept_trans Kk163.out Kk167.out)).lies
    rw [sameB_self u] at hq170
    refine hq170.mono ?_
    clear hq170
    rintro e w168 ⟨rfl, k169⟩
    have Kk171 := Lib.hid k169
    clear k169
    have kvV0 : SeesN V0 V0.heap.size w168 := seesN_kept _ (kept_trans KB141.out (kept_trans Kk163.out (kept_trans Kk167.out Kk171.out)))
    have kvW131 : SeesN W131 V0.heap.size w168 := seesN_kept _ (kept_trans Kk163.out (kept_trans Kk167.out Kk171.out))
    go_wp2_with (refine stop_load 32 (.tmp 64) rfl ?_)
    intro _
    refine wpList_load_part (w112.heap.size) (11) 32 (.tmp 64) #[.int .i64 x.k, .int .i64 x.i, .int .i64 x.j, .int .i64 x.n, (.slice a126 x.kids.length c127)] du (blk_at HX157.out (kept_trans Kk163.out (kept_trans Kk167.out Kk171.out))) (by rfl) rfl (by rfl) (by rfl) hu1 (by cases du <;> first | rfl | exact hu2) size_term ?_
    go_wp2_with (refine stop_load 32 (.tmp 66) rfl ?_)
    intro _
    refine wpList_load_part (w.heap.size) (11) 32 (.tmp 66) #[.int .i64 x.k, .int .i64 x.i, .int .i64 x.j, .int .i64 x.n, (.slice ax x.kids.length cx)] du (blk_at Hx1.out (kept_trans KB141.out (kept_trans Kk163.out (kept_trans Kk167.out Kk171.out)))) (by rfl) rfl (by rfl) (by rfl) hu1 (by cases du <;> first | rfl | exact hu2) size_term ?_
    go_wp2_with fail
    clear kvV0
    clear kvW131
    have hq174 := keepsame_any x x w168 ((.slice a126 x.kids.length c127)) ((.slice ax x.kids.length cx)) (HL153.out.later (kept_trans Kk163.out (kept_trans Kk167.out Kk171.out))).lies (HL144.out.later (kept_trans Kk163.out (kept_trans Kk167.out Kk171.out))).lies
    rw [sameB_self x] at hq174
    refine hq174.mono ?_
    clear hq174
    rintro e w172 ⟨rfl, k173⟩
    have Kk175 := Lib.hid k173
    clear k173
    have kvV0 : SeesN V0 V0.heap.size w172 := seesN_kept _ (kept_trans KB141.out (kept_trans Kk163.out (kept_trans Kk167.out (kept_trans Kk171.out Kk175.out))))
    have kvW131 : SeesN W131 V0.heap.size w172 := seesN_kept _ (kept_trans Kk163.out (kept_trans Kk167.out (kept_trans Kk171.out Kk175.out)))
    go_wp2_with fail
    clear kvV0
    clear kvW131
    refine (wakes15_any _).mono ?_
    rintro e w176 ⟨rfl, k177⟩
    have Kk178 := Lib.hid k177
    clear k177
    have kvV0 : SeesN V0 V0.heap.size w176 := seesN_kept _ (kept_trans KB141.out (kept_trans Kk163.out (kept_trans Kk167.out (kept_trans Kk171.out (kept_trans Kk175.out Kk178.out)))))
    have kvW131 : SeesN W131 V0.heap.size w176 := seesN_kept _ (kept_trans Kk163.out (kept_trans Kk167.out (kept_trans Kk171.out (kept_trans Kk175.out Kk178.out))))
    go_wp2
    go_ret
    exact ⟨rfl, (kept_trans KB140.out (kept_trans Kk163.out (kept_trans Kk167.out (kept_trans Kk171.out (kept_trans Kk175.out Kk178.out)))))⟩
  | true =>
    have kvV0 : SeesN V0 V0.heap.size w12 := seesN_kept _ (kept_trans Kk11.out Kk16.out)
    go_wp2
    go_ret
    exact ⟨rfl, (kept_trans Kk4.out (kept_trans Kk11.out Kk16.out))⟩

set_option maxRecDepth 20000 in
set_option maxHeartbeats 4000000 in
theorem turned1pf_any (i : Int) (c : List En) (u : Tm) (v : Tm) (x : Tm) (P : Nat → Prop) (w : World) (sc : Value) (su : Value) (sv : Value) (sx : Value) (hlc : LiesE w c sc) (hfu : u.fine) (hlu : LiesQ w P u.kids su) (hfv : v.fine) (hlv : LiesQ w P v.kids sv) (hfx : x.fine) (hlx : LiesQ w P x.kids sx) (hri : I64 i) (hpc : purC c = false) : Calls Try.prog 5 #[sc, .agg #[.bool true, .int .i64 u.k, .int .i64 u.i, .int .i64 u.j, .int .i64 u.n, su, .int .i64 v.k, .int .i64 v.i, .int .i64 v.j, .int .i64 v.n, sv, .int .i64 x.k, .int .i64 x.i, .int .i64 x.j, .int .i64 x.n, sx, .int .i64 i]] w fun e w' => e = .returned (.bool true) ∧ Kept w w' := by
  have HEc := Lib.hid hlc
  obtain ⟨ac, cc, Sc, rfl, -⟩ := hlc.out
  clear hlc
  have Gu := Lib.hid hfu
  clear hfu
  obtain ⟨au, cu, Su, rfl, -⟩ := hlu.out
  have Gv := Lib.hid hfv
  clear hfv
  obtain ⟨av, cv, Sv, rfl, -⟩ := hlv.out
  have Gx := Lib.hid hfx
  clear hfx
  obtain ⟨ax, cx, Sx, rfl, -⟩ := hlx.out
  have Ri := Lib.hid hri
  clear hri
  have HPC := Lib.hid hpc
  clear hpc
  obtain ⟨dj, dj1, dj2⟩ := under_of 34 (by kernel_rfl)
  obtain ⟨du, hu1, hu2⟩ := under_term
  go_enter Try.func5, Try.ntmps5
  go_upto_region 1 with fail
  refine at_code (fun V0 hV0 => ?_)
  obtain ⟨k2, x1, z3⟩ := alloc1 hV0
  have Kk4 := Lib.hid k2
  clear k2
  have Hx1 := Lib.hid x1
  have Z0 := Lib.hid z3
  clear z3 x1 hV0
  have HLu : Hid (LiesQ V0 (Par w V0.heap.size [] P) u.kids _) := (par_in _ _ hlu).later Kk4.out
  clear hlu
  have HLv : Hid (LiesQ V0 (Par w V0.heap.size [] P) v.kids _) := (par_in _ _ hlv).later Kk4.out
  clear hlv
  have HLx : Hid (LiesQ V0 (Par w V0.heap.size [] P) x.kids _) := (par_in _ _ hlx).later Kk4.out
  clear hlx
  have ld5 := partN_cell (r := V0.heap.size) Hx1.out trivial 16 (.int .i64 i) rfl
  have kvV0 : SeesN V0 V0.heap.size V0 := seesN_kept _ (kept_refl _)
  go_wp2_with (refine stop_load 34 (.tmp 3) rfl ?_)
  intro _
  refine wpList_load_part (w.heap.size) (0) 34 (.tmp 3) #[.bool true, .int .i64 u.k, .int .i64 u.i, .int .i64 u.j, .int .i64 u.n, (.slice au u.kids.length cu), .int .i64 v.k, .int .i64 v.i, .int .i64 v.j, .int .i64 v.n, (.slice av v.kids.length cv), .int .i64 x.k, .int .i64 x.i, .int .i64 x.j, .int .i64 x.n, (.slice ax x.kids.length cx), .int .i64 i] dj Hx1.out (by rfl) rfl (by rfl) (by rfl) dj1 (by cases dj <;> first | rfl | exact dj2) (by kernel_rfl) ?_
  go_wp2_with fail
  refine at_world (fun W7 hW7 => ?_)
  clear kvV0
  obtain ⟨k9, x8, z10⟩ := alloc1 hW7
  have Kk11 := Lib.hid k9
  clear k9
  have Hx8 := Lib.hid x8
  have Hz10 := Lib.hid z10
  clear x8 z10 hW7
  refine (lheavy15_any c [(⟨true, u, v, x, i⟩ : Jd)] _ ((.slice ac c.length cc)) (.slice (some ⟨V0.heap.size, 0, none⟩) 1 1) (HEc.out.keep (kept_trans Kk4.out Kk11.out)) (liesJ_row1 (j := (⟨true, u, v, x, i⟩ : Jd)) Hx8.out ⟨Gu.out, Gv.out, Gx.out, Ri.out⟩ ⟨(HLu.out.later Kk11.out).lies, (HLv.out.later Kk11.out).lies, (HLx.out.later Kk11.out).lies⟩)).mono ?_
  rintro e w12 ⟨gb14, rfl, hg15, k13⟩
  have Hhg15 := Lib.hid hg15
  clear hg15
  have Kk16 := Lib.hid k13
  clear k13
  cases gb14 with
  | false =>
    have HIhg15 := Lib.hid (Hhg15.out rfl)
    have kvV0 : SeesN V0 V0.heap.size w12 := seesN_kept _ (kept_trans Kk11.out Kk16.out)
    go_wp2_with (refine stop_load 34 (.tmp 3) rfl ?_)
    intro _
    refine wpList_load_part (w.heap.size) (0) 34 (.tmp 3) #[.bool true, .int .i64 u.k, .int .i64 u.i, .int .i64 u.j, .int .i64 u.n, (.slice au u.kids.length cu), .int .i64 v.k, .int .i64 v.i, .int .i64 v.j, .int .i64 v.n, (.slice av v.kids.length cv), .int .i64 x.k, .int .i64 x.i, .int .i64 x.j, .int .i64 x.n, (.slice ax x.kids.length cx), .int .i64 i] dj (blk_at Hx1.out (kept_trans Kk11.out Kk16.out)) (by rfl) rfl (by rfl) (by rfl) dj1 (by cases dj <;> first | rfl | exact dj2) (by kernel_rfl) ?_
    go_wp2_with fail
    refine at_world (fun W18 hW18 => ?_)
    clear kvV0
    obtain ⟨k20, x19, z21⟩ := alloc1 hW18
    have Kk22 := Lib.hid k20
    clear k20
    have Hx19 := Lib.hid x19
    have Hz21 := Lib.hid z21
    clear x19 z21 hW18
    refine (of14Tpf_any i c u v x (Par w V0.heap.size [] P) W18 ((.slice ac c.length cc)) w12.heap.size ((.slice au u.kids.length cu)) ((.slice av v.kids.length cv)) ((.slice ax x.kids.length cx)) (HEc.out.keep (kept_trans Kk4.out (kept_trans Kk11.out (kept_trans Kk16.out Kk22.out)))) Gu.out (HLu.out.later (kept_trans Kk11.out (kept_trans Kk16.out Kk22.out))) Gv.out (HLv.out.later (kept_trans Kk11.out (kept_trans Kk16.out Kk22.out))) Gx.out (HLx.out.later (kept_trans Kk11.out (kept_trans Kk16.out Kk22.out))) Ri.out Hx19.out (Nat.le_trans HIhg15.out.1.1 (by decide)) (Nat.le_trans (HIhg15.out.2.2 _ (List.mem_cons_self ..)).1 (by decide)) (Nat.le_trans (HIhg15.out.2.2 _ (List.mem_cons_self ..)).2.1 (by decide)) (Nat.le_trans (HIhg15.out.2.2 _ (List.mem_cons_self ..)).2.2 (by decide)) HPC.out).mono ?_
    rintro e w23 ⟨s25, s26, s27, rfl, ⟨hl28, hl29, hl30⟩, k24⟩
    obtain ⟨a31, c32, S33, rfl, -⟩ := hl28.out
    obtain ⟨a34, c35, S36, rfl, -⟩ := hl29.out
    obtain ⟨a37, c38, S39, rfl, -⟩ := hl30.out
    have Kk40 := Lib.hid k24
    clear k24
    have Hhl28 : Hid (LiesQ w23 (Par w V0.heap.size [] P) Tm.zero.kids _) := par_give hl28 (Below.size (kept_trans Kk11.out (kept_trans Kk16.out Kk22.out))) (xlt_nil _)
    have Hhl29 : Hid (LiesQ w23 (Par w V0.heap.size [] P) Tm.zero.kids _) := par_give hl29 (Below.size (kept_trans Kk11.out (kept_trans Kk16.out Kk22.out))) (xlt_nil _)
    have Hhl30 : Hid (LiesQ w23 (Par w V0.heap.size [] P) Tm.zero.kids _) := par_give hl30 (Below.size (kept_trans Kk11.out (kept_trans Kk16.out Kk22.out))) (xlt_nil _)
    clear hl28 hl29 hl30
    have kvV0 : SeesN V0 V0.heap.size w23 := seesN_kept _ (kept_trans Kk11.out (kept_trans Kk16.out (kept_trans Kk22.out Kk40.out)))
    go_wp2_with (refine stop_store 34 (.tmp 5) (.tmp 20) rfl ?_)
    intro _
    refine wpList_store_part_n (by rfl) 34 (.tmp 5) (.tmp 20) rfl (w23.heap.size) 0 #[.bool false, .int .i64 Tm.zero.k, .int .i64 Tm.zero.i, .int .i64 Tm.zero.j, .int .i64 Tm.zero.n, (.slice a31 Tm.zero.kids.length c32), .int .i64 Tm.zero.k, .int .i64 Tm.zero.i, .int .i64 Tm.zero.j, .int .i64 Tm.zero.n, (.slice a34 Tm.zero.kids.length c35), .int .i64 Tm.zero.k, .int .i64 Tm.zero.i, .int .i64 Tm.zero.j, .int .i64 Tm.zero.n, (.slice a37 Tm.zero.kids.length c38), .int .i64 0] (by rfl) (by rfl) 34 (by kernel_rfl) (row_ok rfl) ?_
    intro W41 hW41
    clear kvV0
    obtain ⟨k44, x43, z45⟩ := alloc1 hW41
    have Kk46 := Lib.hid k44
    clear k44
    have Hx43 := Lib.hid x43
    have Hz45 := Lib.hid z45
    clear x43 z45 hW41
    have HG47 : Hid (V0.heap.size ≤ w23.heap.size) := (Below.size (kept_trans Kk11.out (kept_trans Kk16.out (kept_trans Kk22.out Kk40.out))))
    have XL48 : Hid (XLt (w23.heap.size :: []) W41) := (xlt_more (xlt_nil _) Kk46.out (by have := Hz45.out; omega))
    refine ⟨_, #[.bool false, .int .i64 Tm.zero.k, .int .i64 Tm.zero.i, .int .i64 Tm.zero.j, .int .i64 Tm.zero.n, (.slice a31 Tm.zero.kids.length c32), .int .i64 Tm.zero.k, .int .i64 Tm.zero.i, .int .i64 Tm.zero.j, .int .i64 Tm.zero.n, (.slice a34 Tm.zero.kids.length c35), .int .i64 Tm.zero.k, .int .i64 Tm.zero.i, .int .i64 Tm.zero.j, .int .i64 Tm.zero.n, (.slice a37 Tm.zero.kids.length c38), .int .i64 0], Hx43.out, rfl, Nat.le_of_ble_eq_true rfl, ?_⟩
    intro W42 hW42
    have KB49 := Lib.hid (kept_set (kept_trans Kk4.out (kept_trans Kk11.out (kept_trans Kk16.out (kept_trans Kk22.out (kept_trans Kk40.out Kk46.out))))) hW42 (by have := HG47.out; have := Z0.out; omega))
    have KB50 := Lib.hid (kept_set (kept_trans Kk11.out (kept_trans Kk16.out (kept_trans Kk22.out (kept_trans Kk40.out Kk46.out)))) hW42 HG47.out)
    have HL51 : Hid (LiesQ W42 (Par w V0.heap.size (w23.heap.size :: []) P) u.kids _) := par_set (par_grow HLu.out (kept_trans Kk11.out (kept_trans Kk16.out (kept_trans Kk22.out (kept_trans Kk40.out Kk46.out)))) (List.forall_mem_cons.2 ⟨(Or.inr (Nat.le_trans (Below.size (kept_trans Kk11.out (kept_trans Kk16.out (kept_trans Kk22.out Kk40.out)))) (Nat.le_refl w23.heap.size))), (fun _ h => nomatch h)⟩)) hW42 (List.mem_cons_self ..) (by have := HG47.out; have := Z0.out; omega)
    have HL52 : Hid (LiesQ W42 (Par w V0.heap.size (w23.heap.size :: []) P) v.kids _) := par_set (par_grow HLv.out (kept_trans Kk11.out (kept_trans Kk16.out (kept_trans Kk22.out (kept_trans Kk40.out Kk46.out)))) (List.forall_mem_cons.2 ⟨(Or.inr (Nat.le_trans (Below.size (kept_trans Kk11.out (kept_trans Kk16.out (kept_trans Kk22.out Kk40.out)))) (Nat.le_refl w23.heap.size))), (fun _ h => nomatch h)⟩)) hW42 (List.mem_cons_self ..) (by have := HG47.out; have := Z0.out; omega)
    have HL53 : Hid (LiesQ W42 (Par w V0.heap.size (w23.heap.size :: []) P) x.kids _) := par_set (par_grow HLx.out (kept_trans Kk11.out (kept_trans Kk16.out (kept_trans Kk22.out (kept_trans Kk40.out Kk46.out)))) (List.forall_mem_cons.2 ⟨(Or.inr (Nat.le_trans (Below.size (kept_trans Kk11.out (kept_trans Kk16.out (kept_trans Kk22.out Kk40.out)))) (Nat.le_refl w23.heap.size))), (fun _ h => nomatch h)⟩)) hW42 (List.mem_cons_self ..) (by have := HG47.out; have := Z0.out; omega)
    have HL54 : Hid (LiesQ W42 (Par w V0.heap.size (w23.heap.size :: []) P) Tm.zero.kids _) := par_set (par_grow Hhl28.out Kk46.out (List.forall_mem_cons.2 ⟨(Or.inr (Nat.le_refl w23.heap.size)), (fun _ h => nomatch h)⟩)) hW42 (List.mem_cons_self ..) (by have := HG47.out; have := Z0.out; omega)
    have HL55 : Hid (LiesQ W42 (Par w V0.heap.size (w23.heap.size :: []) P) Tm.zero.kids _) := par_set (par_grow Hhl29.out Kk46.out (List.forall_mem_cons.2 ⟨(Or.inr (Nat.le_refl w23.heap.size)), (fun _ h => nomatch h)⟩)) hW42 (List.mem_cons_self ..) (by have := HG47.out; have := Z0.out; omega)
    have HL56 : Hid (LiesQ W42 (Par w V0.heap.size (w23.heap.size :: []) P) Tm.zero.kids _) := par_set (par_grow Hhl30.out Kk46.out (List.forall_mem_cons.2 ⟨(Or.inr (Nat.le_refl w23.heap.size)), (fun _ h => nomatch h)⟩)) hW42 (List.mem_cons_self ..) (by have := HG47.out; have := Z0.out; omega)
    have XL57 := Lib.hid (xlt_set XL48.out hW42)
    have HX58 := Lib.hid (blk_same Hx43.out hW42)
    clear hW42
    have kvV0 : SeesN V0 V0.heap.size W42 := seesN_kept _ KB50.out
    have kvW42 : SeesN W42 V0.heap.size W42 := seesN_kept _ (kept_refl _)
    go_wp2_with fail
    clear kvV0
    clear kvW42
    refine (wakes15_any _).mono ?_
    rintro e w59 ⟨rfl, k60⟩
    have Kk61 := Lib.hid k60
    clear k60
    have kvV0 : SeesN V0 V0.heap.size w59 := seesN_kept _ (kept_trans KB50.out Kk61.out)
    have kvW42 : SeesN W42 V0.heap.size w59 := seesN_kept _ Kk61.out
    go_wp2
    go_ret
    exact ⟨rfl, (kept_trans KB49.out Kk61.out)⟩
  | true =>
    have kvV0 : SeesN V0 V0.heap.size w12 := seesN_kept _ (kept_trans Kk11.out Kk16.out)
    go_wp2
    go_ret
    exact ⟨rfl, (kept_trans Kk4.out (kept_trans Kk11.out Kk16.out))⟩

set_option maxRecDepth 20000 in
set_option maxHeartbeats 4000000 in
theorem turned1rf_any (i : Int) (c : List En) (u : Tm) (v : Tm) (x : Tm) (P : Nat → Prop) (w : World) (sc : Value) (su : Value) (sv : Value) (sx : Value) (hlc : LiesE w c sc) (hfu : u.fine) (hlu : LiesQ w P u.kids su) (hfv : v.fine) (hlv : LiesQ w P v.kids sv) (hfx : x.fine) (hlx : LiesQ w P x.kids sx) (hri : I64 i) (hpc : purC c = true) (hrj : rightJ (⟨true, u, v, x, i⟩ : Jd) (c.length : Int) = false) : Calls Try.prog 5 #[sc, .agg #[.bool true, .int .i64 u.k, .int .i64 u.i, .int .i64 u.j, .int .i64 u.n, su, .int .i64 v.k, .int .i64 v.i, .int .i64 v.j, .int .i64 v.n, sv, .int .i64 x.k, .int .i64 x.i, .int .i64 x.j, .int .i64 x.n, sx, .int .i64 i]] w fun e w' => e = .returned (.bool true) ∧ Kept w w' := by
  have HEc := Lib.hid hlc
  obtain ⟨ac, cc, Sc, rfl, -⟩ := hlc.out
  clear hlc
  have Gu := Lib.hid hfu
  clear hfu
  obtain ⟨au, cu, Su, rfl, -⟩ := hlu.out
  have Gv := Lib.hid hfv
  clear hfv
  obtain ⟨av, cv, Sv, rfl, -⟩ := hlv.out
  have Gx := Lib.hid hfx
  clear hfx
  obtain ⟨ax, cx, Sx, rfl, -⟩ := hlx.out
  have Ri := Lib.hid hri
  clear hri
  have HPC := Lib.hid hpc
  clear hpc
  have HRJ := Lib.hid hrj
  clear hrj
  obtain ⟨dj, dj1, dj2⟩ := under_of 34 (by kernel_rfl)
  obtain ⟨du, hu1, hu2⟩ := under_term
  go_enter Try.func5, Try.ntmps5
  go_upto_region 1 with fail
  refine at_code (fun V0 hV0 => ?_)
  obtain ⟨k2, x1, z3⟩ := alloc1 hV0
  have Kk4 := Lib.hid k2
  clear k2
  have Hx1 := Lib.hid x1
  have Z0 := Lib.hid z3
  clear z3 x1 hV0
  have HLu : Hid (LiesQ V0 (Par w V0.heap.size [] P) u.kids _) := (par_in _ _ hlu).later Kk4.out
  clear hlu
  have HLv : Hid (LiesQ V0 (Par w V0.heap.size [] P) v.kids _) := (par_in _ _ hlv).later Kk4.out
  clear hlv
  have HLx : Hid (LiesQ V0 (Par w V0.heap.size [] P) x.kids _) := (par_in _ _ hlx).later Kk4.out
  clear hlx
  have ld5 := partN_cell (r := V0.heap.size) Hx1.out trivial 16 (.int .i64 i) rfl
  have kvV0 : SeesN V0 V0.heap.size V0 := seesN_kept _ (kept_refl _)
  go_wp2_with (refine stop_load 34 (.tmp 3) rfl ?_)
  intro _
  refine wpList_load_part (w.heap.size) (0) 34 (.tmp 3) #[.bool true, .int .i64 u.k, .int .i64 u.i, .int .i64 u.j, .int .i64 u.n, (.slice au u.kids.length cu), .int .i64 v.k, .int .i64 v.i, .int .i64 v.j, .int .i64 v.n, (.slice av v.kids.length cv), .int .i64 x.k, .int .i64 x.i, .int .i64 x.j, .int .i64 x.n, (.slice ax x.kids.length cx), .int .i64 i] dj Hx1.out (by rfl) rfl (by rfl) (by rfl) dj1 (by cases dj <;> first | rfl | exact dj2) (by kernel_rfl) ?_
  go_wp2_with fail
  refine at_world (fun W7 hW7 => ?_)
  clear kvV0
  obtain ⟨k9, x8, z10⟩ := alloc1 hW7
  have Kk11 := Lib.hid k9
  clear k9
  have Hx8 := Lib.hid x8
  have Hz10 := Lib.hid z10
  clear x8 z10 hW7
  refine (lheavy15_any c [(⟨true, u, v, x, i⟩ : Jd)] _ ((.slice ac c.length cc)) (.slice (some ⟨V0.heap.size, 0, none⟩) 1 1) (HEc.out.keep (kept_trans Kk4.out Kk11.out)) (liesJ_row1 (j := (⟨true, u, v, x, i⟩ : Jd)) Hx8.out ⟨Gu.out, Gv.out, Gx.out, Ri.out⟩ ⟨(HLu.out.later Kk11.out).lies, (HLv.out.later Kk11.out).lies, (HLx.out.later Kk11.out).lies⟩)).mono ?_
  rintro e w12 ⟨gb14, rfl, hg15, k13⟩
  have Hhg15 := Lib.hid hg15
  clear hg15
  have Kk16 := Lib.hid k13
  clear k13
  cases gb14 with
  | false =>
    have HIhg15 := Lib.hid (Hhg15.out rfl)
    have kvV0 : SeesN V0 V0.heap.size w12 := seesN_kept _ (kept_trans Kk11.out Kk16.out)
    go_wp2_with (refine stop_load 34 (.tmp 3) rfl ?_)
    intro _
    refine wpList_load_part (w.heap.size) (0) 34 (.tmp 3) #[.bool true, .int .i64 u.k, .int .i64 u.i, .int .i64 u.j, .int .i64 u.n, (.slice au u.kids.length cu), .int .i64 v.k, .int .i64 v.i, .int .i64 v.j, .int .i64 v.n, (.slice av v.kids.length cv), .int .i64 x.k, .int .i64 x.i, .int .i64 x.j, .int .i64 x.n, (.slice ax x.kids.length cx), .int .i64 i] dj (blk_at Hx1.out (kept_trans Kk11.out Kk16.out)) (by rfl) rfl (by rfl) (by rfl) dj1 (by cases dj <;> first | rfl | exact dj2) (by kernel_rfl) ?_
    go_wp2_with fail
    refine at_world (fun W18 hW18 => ?_)
    clear kvV0
    obtain ⟨k20, x19, z21⟩ := alloc1 hW18
    have Kk22 := Lib.hid k20
    clear k20
    have Hx19 := Lib.hid x19
    have Hz21 := Lib.hid z21
    clear x19 z21 hW18
    refine (of14Trf_any i c u v x (Par w V0.heap.size [] P) W18 ((.slice ac c.length cc)) w12.heap.size ((.slice au u.kids.length cu)) ((.slice av v.kids.length cv)) ((.slice ax x.kids.length cx)) (HEc.out.keep (kept_trans Kk4.out (kept_trans Kk11.out (kept_trans Kk16.out Kk22.out)))) Gu.out (HLu.out.later (kept_trans Kk11.out (kept_trans Kk16.out Kk22.out))) Gv.out (HLv.out.later (kept_trans Kk11.out (kept_trans Kk16.out Kk22.out))) Gx.out (HLx.out.later (kept_trans Kk11.out (kept_trans Kk16.out Kk22.out))) Ri.out Hx19.out (Nat.le_trans HIhg15.out.1.1 (by decide)) (Nat.le_trans (HIhg15.out.2.2 _ (List.mem_cons_self ..)).1 (by decide)) (Nat.le_trans (HIhg15.out.2.2 _ (List.mem_cons_self ..)).2.1 (by decide)) (Nat.le_trans (HIhg15.out.2.2 _ (List.mem_cons_self ..)).2.2 (by decide)) HPC.out HRJ.out).mono ?_
    rintro e w23 ⟨s25, s26, s27, rfl, ⟨hl28, hl29, hl30⟩, k24⟩
    obtain ⟨a31, c32, S33, rfl, -⟩ := hl28.out
    obtain ⟨a34, c35, S36, rfl, -⟩ := hl29.out
    obtain ⟨a37, c38, S39, rfl, -⟩ := hl30.out
    have Kk40 := Lib.hid k24
    clear k24
    have Hhl28 : Hid (LiesQ w23 (Par w V0.heap.size [] P) Tm.zero.kids _) := par_give hl28 (Below.size (kept_trans Kk11.out (kept_trans Kk16.out Kk22.out))) (xlt_nil _)
    have Hhl29 : Hid (LiesQ w23 (Par w V0.heap.size [] P) Tm.zero.kids _) := par_give hl29 (Below.size (kept_trans Kk11.out (kept_trans Kk16.out Kk22.out))) (xlt_nil _)
    have Hhl30 : Hid (LiesQ w23 (Par w V0.heap.size [] P) Tm.zero.kids _) := par_give hl30 (Below.size (kept_trans Kk11.out (kept_trans Kk16.out Kk22.out))) (xlt_nil _)
    clear hl28 hl29 hl30
    have kvV0 : SeesN V0 V0.heap.size w23 := seesN_kept _ (kept_trans Kk11.out (kept_trans Kk16.out (kept_trans Kk22.out Kk40.out)))
    go_wp2_with (refine stop_store 34 (.tmp 5) (.tmp 20) rfl ?_)
    intro _
    refine wpList_store_part_n (by rfl) 34 (.tmp 5) (.tmp 20) rfl (w23.heap.size) 0 #[.bool false, .int .i64 Tm.zero.k, .int .i64 Tm.zero.i, .int .i64 Tm.zero.j, .int .i64 Tm.zero.n, (.slice a31 Tm.zero.kids.length c32), .int .i64 Tm.zero.k, .int .i64 Tm.zero.i, .int .i64 Tm.zero.j, .int .i64 Tm.zero.n, (.slice a34 Tm.zero.kids.length c35), .int .i64 Tm.zero.k, .int .i64 Tm.zero.i, .int .i64 Tm.zero.j, .int .i64 Tm.zero.n, (.slice a37 Tm.zero.kids.length c38), .int .i64 0] (by rfl) (by rfl) 34 (by kernel_rfl) (row_ok rfl) ?_
    intro W41 hW41
    clear kvV0
    obtain ⟨k44, x43, z45⟩ := alloc1 hW41
    have Kk46 := Lib.hid k44
    clear k44
    have Hx43 := Lib.hid x43
    have Hz45 := Lib.hid z45
    clear x43 z45 hW41
    have HG47 : Hid (V0.heap.size ≤ w23.heap.size) := (Below.size (kept_trans Kk11.out (kept_trans Kk16.out (kept_trans Kk22.out Kk40.out))))
    have XL48 : Hid (XLt (w23.heap.size :: []) W41) := (xlt_more (xlt_nil _) Kk46.out (by have := Hz45.out; omega))
    refine ⟨_, #[.bool false, .int .i64 Tm.zero.k, .int .i64 Tm.zero.i, .int .i64 Tm.zero.j, .int .i64 Tm.zero.n, (.slice a31 Tm.zero.kids.length c32), .int .i64 Tm.zero.k, .int .i64 Tm.zero.i, .int .i64 Tm.zero.j, .int .i64 Tm.zero.n, (.slice a34 Tm.zero.kids.length c35), .int .i64 Tm.zero.k, .int .i64 Tm.zero.i, .int .i64 Tm.zero.j, .int .i64 Tm.zero.n, (.slice a37 Tm.zero.kids.length c38), .int .i64 0], Hx43.out, rfl, Nat.le_of_ble_eq_true rfl, ?_⟩
    intro W42 hW42
    have KB49 := Lib.hid (kept_set (kept_trans Kk4.out (kept_trans Kk11.out (kept_trans Kk16.out (kept_trans Kk22.out (kept_trans Kk40.out Kk46.out))))) hW42 (by have := HG47.out; have := Z0.out; omega))
    have KB50 := Lib.hid (kept_set (kept_trans Kk11.out (kept_trans Kk16.out (kept_trans Kk22.out (kept_trans Kk40.out Kk46.out)))) hW42 HG47.out)
    have HL51 : Hid (LiesQ W42 (Par w V0.heap.size (w23.heap.size :: []) P) u.kids _) := par_set (par_grow HLu.out (kept_trans Kk11.out (kept_trans Kk16.out (kept_trans Kk22.out (kept_trans Kk40.out Kk46.out)))) (List.forall_mem_cons.2 ⟨(Or.inr (Nat.le_trans (Below.size (kept_trans Kk11.out (kept_trans Kk16.out (kept_trans Kk22.out Kk40.out)))) (Nat.le_refl w23.heap.size))), (fun _ h => nomatch h)⟩)) hW42 (List.mem_cons_self ..) (by have := HG47.out; have := Z0.out; omega)
    have HL52 : Hid (LiesQ W42 (Par w V0.heap.size (w23.heap.size :: []) P) v.kids _) := par_set (par_grow HLv.out (kept_trans Kk11.out (kept_trans Kk16.out (kept_trans Kk22.out (kept_trans Kk40.out Kk46.out)))) (List.forall_mem_cons.2 ⟨(Or.inr (Nat.le_trans (Below.size (kept_trans Kk11.out (kept_trans Kk16.out (kept_trans Kk22.out Kk40.out)))) (Nat.le_refl w23.heap.size))), (fun _ h => nomatch h)⟩)) hW42 (List.mem_cons_self ..) (by have := HG47.out; have := Z0.out; omega)
    have HL53 : Hid (LiesQ W42 (Par w V0.heap.size (w23.heap.size :: []) P) x.kids _) := par_set (par_grow HLx.out (kept_trans Kk11.out (kept_trans Kk16.out (kept_trans Kk22.out (kept_trans Kk40.out Kk46.out)))) (List.forall_mem_cons.2 ⟨(Or.inr (Nat.le_trans (Below.size (kept_trans Kk11.out (kept_trans Kk16.out (kept_trans Kk22.out Kk40.out)))) (Nat.le_refl w23.heap.size))), (fun _ h => nomatch h)⟩)) hW42 (List.mem_cons_self ..) (by have := HG47.out; have := Z0.out; omega)
    have HL54 : Hid (LiesQ W42 (Par w V0.heap.size (w23.heap.size :: []) P) Tm.zero.kids _) := par_set (par_grow Hhl28.out Kk46.out (List.forall_mem_cons.2 ⟨(Or.inr (Nat.le_refl w23.heap.size)), (fun _ h => nomatch h)⟩)) hW42 (List.mem_cons_self ..) (by have := HG47.out; have := Z0.out; omega)
    have HL55 : Hid (LiesQ W42 (Par w V0.heap.size (w23.heap.size :: []) P) Tm.zero.kids _) := par_set (par_grow Hhl29.out Kk46.out (List.forall_mem_cons.2 ⟨(Or.inr (Nat.le_refl w23.heap.size)), (fun _ h => nomatch h)⟩)) hW42 (List.mem_cons_self ..) (by have := HG47.out; have := Z0.out; omega)
    have HL56 : Hid (LiesQ W42 (Par w V0.heap.size (w23.heap.size :: []) P) Tm.zero.kids _) := par_set (par_grow Hhl30.out Kk46.out (List.forall_mem_cons.2 ⟨(Or.inr (Nat.le_refl w23.heap.size)), (fun _ h => nomatch h)⟩)) hW42 (List.mem_cons_self ..) (by have := HG47.out; have := Z0.out; omega)
    have XL57 := Lib.hid (xlt_set XL48.out hW42)
    have HX58 := Lib.hid (blk_same Hx43.out hW42)
    clear hW42
    have kvV0 : SeesN V0 V0.heap.size W42 := seesN_kept _ KB50.out
    have kvW42 : SeesN W42 V0.heap.size W42 := seesN_kept _ (kept_refl _)
    go_wp2_with fail
    clear kvV0
    clear kvW42
    refine (wakes15_any _).mono ?_
    rintro e w59 ⟨rfl, k60⟩
    have Kk61 := Lib.hid k60
    clear k60
    have kvV0 : SeesN V0 V0.heap.size w59 := seesN_kept _ (kept_trans KB50.out Kk61.out)
    have kvW42 : SeesN W42 V0.heap.size w59 := seesN_kept _ Kk61.out
    go_wp2
    go_ret
    exact ⟨rfl, (kept_trans KB49.out Kk61.out)⟩
  | true =>
    have kvV0 : SeesN V0 V0.heap.size w12 := seesN_kept _ (kept_trans Kk11.out Kk16.out)
    go_wp2
    go_ret
    exact ⟨rfl, (kept_trans Kk4.out (kept_trans Kk11.out Kk16.out))⟩

set_option maxRecDepth 20000 in
set_option maxHeartbeats 4000000 in
theorem turned0ok_any (i : Int) (c : List En) (u : Tm) (v : Tm) (x : Tm) (P : Nat → Prop) (w : World) (sc : Value) (su : Value) (sv : Value) (sx : Value) (hlc : LiesE w c sc) (hfu : u.fine) (hlu : LiesQ w P u.kids su) (hfv : v.fine) (hlv : LiesQ w P v.kids sv) (hfx : x.fine) (hlx : LiesQ w P x.kids sx) (hri : I64 i) (hpc : purC c = true) (hrj : rightJ (⟨false, u, v, x, i⟩ : Jd) (c.length : Int) = true) : Calls Try.prog 5 #[sc, .agg #[.bool false, .int .i64 u.k, .int .i64 u.i, .int .i64 u.j, .int .i64 u.n, su, .int .i64 v.k, .int .i64 v.i, .int .i64 v.j, .int .i64 v.n, sv, .int .i64 x.k, .int .i64 x.i, .int .i64 x.j, .int .i64 x.n, sx, .int .i64 i]] w fun e w' => e = .returned (.bool true) ∧ Kept w w' := by
  have HEc := Lib.hid hlc
  obtain ⟨ac, cc, Sc, rfl, -⟩ := hlc.out
  clear hlc
  have Gu := Lib.hid hfu
  clear hfu
  obtain ⟨au, cu, Su, rfl, -⟩ := hlu.out
  have Gv := Lib.hid hfv
  clear hfv
  obtain ⟨av, cv, Sv, rfl, -⟩ := hlv.out
  have Gx := Lib.hid hfx
  clear hfx
  obtain ⟨ax, cx, Sx, rfl, -⟩ := hlx.out
  have Ri := Lib.hid hri
  clear hri
  have HPC := Lib.hid hpc
  clear hpc
  have HRJ := Lib.hid hrj
  clear hrj
  obtain ⟨dj, dj1, dj2⟩ := under_of 34 (by kernel_rfl)
  obtain ⟨du, hu1, hu2⟩ := under_term
  go_enter Try.func5, Try.ntmps5
  go_upto_region 1 with fail
  refine at_code (fun V0 hV0 => ?_)
  obtain ⟨k2, x1, z3⟩ := alloc1 hV0
  have Kk4 := Lib.hid k2
  clear k2
  have Hx1 := Lib.hid x1
  have Z0 := Lib.hid z3
  clear z3 x1 hV0
  have HLu : Hid (LiesQ V0 (Par w V0.heap.size [] P) u.kids _) := (par_in _ _ hlu).later Kk4.out
  clear hlu
  have HLv : Hid (LiesQ V0 (Par w V0.heap.size [] P) v.kids _) := (par_in _ _ hlv).later Kk4.out
  clear hlv
  have HLx : Hid (LiesQ V0 (Par w V0.heap.size [] P) x.kids _) := (par_in _ _ hlx).later Kk4.out
  clear hlx
  have ld5 := partN_cell (r := V0.heap.size) Hx1.out trivial 16 (.int .i64 i) rfl
  have kvV0 : SeesN V0 V0.heap.size V0 := seesN_kept _ (kept_refl _)
  go_wp2_with (refine stop_load 34 (.tmp 3) rfl ?_)
  intro _
  refine wpList_load_part (w.heap.size) (0) 34 (.tmp 3) #[.bool false, .int .i64 u.k, .int .i64 u.i, .int .i64 u.j, .int .i64 u.n, (.slice au u.kids.length cu), .int .i64 v.k, .int .i64 v.i, .int .i64 v.j, .int .i64 v.n, (.slice av v.kids.length cv), .int .i64 x.k, .int .i64 x.i, .int .i64 x.j, .int .i64 x.n, (.slice ax x.kids.length cx), .int .i64 i] dj Hx1.out (by rfl) rfl (by rfl) (by rfl) dj1 (by cases dj <;> first | rfl | exact dj2) (by kernel_rfl) ?_
  go_wp2_with fail
  refine at_world (fun W7 hW7 => ?_)
  clear kvV0
  obtain ⟨k9, x8, z10⟩ := alloc1 hW7
  have Kk11 := Lib.hid k9
  clear k9
  have Hx8 := Lib.hid x8
  have Hz10 := Lib.hid z10
  clear x8 z10 hW7
  refine (lheavy15_any c [(⟨false, u, v, x, i⟩ : Jd)] _ ((.slice ac c.length cc)) (.slice (some ⟨V0.heap.size, 0, none⟩) 1 1) (HEc.out.keep (kept_trans Kk4.out Kk11.out)) (liesJ_row1 (j := (⟨false, u, v, x, i⟩ : Jd)) Hx8.out ⟨Gu.out, Gv.out, Gx.out, Ri.out⟩ ⟨(HLu.out.later Kk11.out).lies, (HLv.out.later Kk11.out).lies, (HLx.out.later Kk11.out).lies⟩)).mono ?_
  rintro e w12 ⟨gb14, rfl, hg15, k13⟩
  have Hhg15 := Lib.hid hg15
  clear hg15
  have Kk16 := Lib.hid k13
  clear k13
  cases gb14 with
  | false =>
    have HIhg15 := Lib.hid (Hhg15.out rfl)
    have kvV0 : SeesN V0 V0.heap.size w12 := seesN_kept _ (kept_trans Kk11.out Kk16.out)
    go_wp2_with (refine stop_load 34 (.tmp 3) rfl ?_)
    intro _
    refine wpList_load_part (w.heap.size) (0) 34 (.tmp 3) #[.bool false, .int .i64 u.k, .int .i64 u.i, .int .i64 u.j, .int .i64 u.n, (.slice au u.kids.length cu), .int .i64 v.k, .int .i64 v.i, .int .i64 v.j, .int .i64 v.n, (.slice av v.kids.length cv), .int .i64 x.k, .int .i64 x.i, .int .i64 x.j, .int .i64 x.n, (.slice ax x.kids.length cx), .int .i64 i] dj (blk_at Hx1.out (kept_trans Kk11.out Kk16.out)) (by rfl) rfl (by rfl) (by rfl) dj1 (by cases dj <;> first | rfl | exact dj2) (by kernel_rfl) ?_
    go_wp2_with fail
    refine at_world (fun W18 hW18 => ?_)
    clear kvV0
    obtain ⟨k20, x19, z21⟩ := alloc1 hW18
    have Kk22 := Lib.hid k20
    clear k20
    have Hx19 := Lib.hid x19
    have Hz21 := Lib.hid z21
    clear x19 z21 hW18
    refine (of14Nok_any i c u v x (Par w V0.heap.size [] P) W18 ((.slice ac c.length cc)) w12.heap.size ((.slice au u.kids.length cu)) ((.slice av v.kids.length cv)) ((.slice ax x.kids.length cx)) (HEc.out.keep (kept_trans Kk4.out (kept_trans Kk11.out (kept_trans Kk16.out Kk22.out)))) Gu.out (HLu.out.later (kept_trans Kk11.out (kept_trans Kk16.out Kk22.out))) Gv.out (HLv.out.later (kept_trans Kk11.out (kept_trans Kk16.out Kk22.out))) Gx.out (HLx.out.later (kept_trans Kk11.out (kept_trans Kk16.out Kk22.out))) Ri.out Hx19.out (Nat.le_trans HIhg15.out.1.1 (by decide)) (Nat.le_trans (HIhg15.out.2.2 _ (List.mem_cons_self ..)).1 (by decide)) (Nat.le_trans (HIhg15.out.2.2 _ (List.mem_cons_self ..)).2.1 (by decide)) (Nat.le_trans (HIhg15.out.2.2 _ (List.mem_cons_self ..)).2.2 (by decide)) HPC.out HRJ.out).mono ?_
    rintro e w23 ⟨s25, s26, s27, rfl, ⟨hl28, hl29, hl30⟩, k24⟩
    obtain ⟨a31, c32, S33, rfl, -⟩ := hl28.out
    obtain ⟨a34, c35, S36, rfl, -⟩ := hl29.out
    obtain ⟨a37, c38, S39, rfl, -⟩ := hl30.out
    have Kk40 := Lib.hid k24
    clear k24
    have Hhl28 : Hid (LiesQ w23 (Par w V0.heap.size [] P) Tm.zero.kids _) := par_give hl28 (Below.size (kept_trans Kk11.out (kept_trans Kk16.out Kk22.out))) (xlt_nil _)
    have Hhl29 : Hid (LiesQ w23 (Par w V0.heap.size [] P) Tm.zero.kids _) := par_give hl29 (Below.size (kept_trans Kk11.out (kept_trans Kk16.out Kk22.out))) (xlt_nil _)
    have Hhl30 : Hid (LiesQ w23 (Par w V0.heap.size [] P) Tm.zero.kids _) := par_give hl30 (Below.size (kept_trans Kk11.out (kept_trans Kk16.out Kk22.out))) (xlt_nil _)
    clear hl28 hl29 hl30
    have kvV0 : SeesN V0 V0.heap.size w23 := seesN_kept _ (kept_trans Kk11.out (kept_trans Kk16.out (kept_trans Kk22.out Kk40.out)))
    go_wp2_with (refine stop_store 34 (.tmp 5) (.tmp 20) rfl ?_)
    intro _
    refine wpList_store_part_n (by rfl) 34 (.tmp 5) (.tmp 20) rfl (w23.heap.size) 0 #[.bool false, .int .i64 Tm.zero.k, .int .i64 Tm.zero.i, .int .i64 Tm.zero.j, .int .i64 Tm.zero.n, (.slice a31 Tm.zero.kids.length c32), .int .i64 Tm.zero.k, .int .i64 Tm.zero.i, .int .i64 Tm.zero.j, .int .i64 Tm.zero.n, (.slice a34 Tm.zero.kids.length c35), .int .i64 Tm.zero.k, .int .i64 Tm.zero.i, .int .i64 Tm.zero.j, .int .i64 Tm.zero.n, (.slice a37 Tm.zero.kids.length c38), .int .i64 0] (by rfl) (by rfl) 34 (by kernel_rfl) (row_ok rfl) ?_
    intro W41 hW41
    clear kvV0
    obtain ⟨k44, x43, z45⟩ := alloc1 hW41
    have Kk46 := Lib.hid k44
    clear k44
    have Hx43 := Lib.hid x43
    have Hz45 := Lib.hid z45
    clear x43 z45 hW41
    have HG47 : Hid (V0.heap.size ≤ w23.heap.size) := (Below.size (kept_trans Kk11.out (kept_trans Kk16.out (kept_trans Kk22.out Kk40.out))))
    have XL48 : Hid (XLt (w23.heap.size :: []) W41) := (xlt_more (xlt_nil _) Kk46.out (by have := Hz45.out; omega))
    refine ⟨_, #[.bool false, .int .i64 Tm.zero.k, .int .i64 Tm.zero.i, .int .i64 Tm.zero.j, .int .i64 Tm.zero.n, (.slice a31 Tm.zero.kids.length c32), .int .i64 Tm.zero.k, .int .i64 Tm.zero.i, .int .i64 Tm.zero.j, .int .i64 Tm.zero.n, (.slice a34 Tm.zero.kids.length c35), .int .i64 Tm.zero.k, .int .i64 Tm.zero.i, .int .i64 Tm.zero.j, .int .i64 Tm.zero.n, (.slice a37 Tm.zero.kids.length c38), .int .i64 0], Hx43.out, rfl, Nat.le_of_ble_eq_true rfl, ?_⟩
    intro W42 hW42
    have KB49 := Lib.hid (kept_set (kept_trans Kk4.out (kept_trans Kk11.out (kept_trans Kk16.out (kept_trans Kk22.out (kept_trans Kk40.out Kk46.out))))) hW42 (by have := HG47.out; have := Z0.out; omega))
    have KB50 := Lib.hid (kept_set (kept_trans Kk11.out (kept_trans Kk16.out (kept_trans Kk22.out (kept_trans Kk40.out Kk46.out)))) hW42 HG47.out)
    have HL51 : Hid (LiesQ W42 (Par w V0.heap.size (w23.heap.size :: []) P) u.kids _) := par_set (par_grow HLu.out (kept_trans Kk11.out (kept_trans Kk16.out (kept_trans Kk22.out (kept_trans Kk40.out Kk46.out)))) (List.forall_mem_cons.2 ⟨(Or.inr (Nat.le_trans (Below.size (kept_trans Kk11.out (kept_trans Kk16.out (kept_trans Kk22.out Kk40.out)))) (Nat.le_refl w23.heap.size))), (fun _ h => nomatch h)⟩)) hW42 (List.mem_cons_self ..) (by have := HG47.out; have := Z0.out; omega)
    have HL52 : Hid (LiesQ W42 (Par w V0.heap.size (w23.heap.size :: []) P) v.kids _) := par_set (par_grow HLv.out (kept_trans Kk11.out (kept_trans Kk16.out (kept_trans Kk22.out (kept_trans Kk40.out Kk46.out)))) (List.forall_mem_cons.2 ⟨(Or.inr (Nat.le_trans (Below.size (kept_trans Kk11.out (kept_trans Kk16.out (kept_trans Kk22.out Kk40.out)))) (Nat.le_refl w23.heap.size))), (fun _ h => nomatch h)⟩)) hW42 (List.mem_cons_self ..) (by have := HG47.out; have := Z0.out; omega)
    have HL53 : Hid (LiesQ W42 (Par w V0.heap.size (w23.heap.size :: []) P) x.kids _) := par_set (par_grow HLx.out (kept_trans Kk11.out (kept_trans Kk16.out (kept_trans Kk22.out (kept_trans Kk40.out Kk46.out)))) (List.forall_mem_cons.2 ⟨(Or.inr (Nat.le_trans (Below.size (kept_trans Kk11.out (kept_trans Kk16.out (kept_trans Kk22.out Kk40.out)))) (Nat.le_refl w23.heap.size))), (fun _ h => nomatch h)⟩)) hW42 (List.mem_cons_self ..) (by have := HG47.out; have := Z0.out; omega)
    have HL54 : Hid (LiesQ W42 (Par w V0.heap.size (w23.heap.size :: []) P) Tm.zero.kids _) := par_set (par_grow Hhl28.out Kk46.out (List.forall_mem_cons.2 ⟨(Or.inr (Nat.le_refl w23.heap.size)), (fun _ h => nomatch h)⟩)) hW42 (List.mem_cons_self ..) (by have := HG47.out; have := Z0.out; omega)
    have HL55 : Hid (LiesQ W42 (Par w V0.heap.size (w23.heap.size :: []) P) Tm.zero.kids _) := par_set (par_grow Hhl29.out Kk46.out (List.forall_mem_cons.2 ⟨(Or.inr (Nat.le_refl w23.heap.size)), (fun _ h => nomatch h)⟩)) hW42 (List.mem_cons_self ..) (by have := HG47.out; have := Z0.out; omega)
    have HL56 : Hid (LiesQ W42 (Par w V0.heap.size (w23.heap.size :: []) P) Tm.zero.kids _) := par_set (par_grow Hhl30.out Kk46.out (List.forall_mem_cons.2 ⟨(Or.inr (Nat.le_refl w23.heap.size)), (fun _ h => nomatch h)⟩)) hW42 (List.mem_cons_self ..) (by have := HG47.out; have := Z0.out; omega)
    have XL57 := Lib.hid (xlt_set XL48.out hW42)
    have HX58 := Lib.hid (blk_same Hx43.out hW42)
    clear hW42
    have kvV0 : SeesN V0 V0.heap.size W42 := seesN_kept _ KB50.out
    have kvW42 : SeesN W42 V0.heap.size W42 := seesN_kept _ (kept_refl _)
    go_wp2_with fail
    clear kvV0
    clear kvW42
    refine (wakes15_any _).mono ?_
    rintro e w59 ⟨rfl, k60⟩
    have Kk61 := Lib.hid k60
    clear k60
    have kvV0 : SeesN V0 V0.heap.size w59 := seesN_kept _ (kept_trans KB50.out Kk61.out)
    have kvW42 : SeesN W42 V0.heap.size w59 := seesN_kept _ Kk61.out
    go_wp2
    go_ret
    exact ⟨rfl, (kept_trans KB49.out Kk61.out)⟩
  | true =>
    have kvV0 : SeesN V0 V0.heap.size w12 := seesN_kept _ (kept_trans Kk11.out Kk16.out)
    go_wp2
    go_ret
    exact ⟨rfl, (kept_trans Kk4.out (kept_trans Kk11.out Kk16.out))⟩

set_option maxRecDepth 20000 in
set_option maxHeartbeats 4000000 in
theorem turned0pf_any (i : Int) (c : List En) (u : Tm) (v : Tm) (x : Tm) (P : Nat → Prop) (w : World) (sc : Value) (su : Value) (sv : Value) (sx : Value) (hlc : LiesE w c sc) (hfu : u.fine) (hlu : LiesQ w P u.kids su) (hfv : v.fine) (hlv : LiesQ w P v.kids sv) (hfx : x.fine) (hlx : LiesQ w P x.kids sx) (hri : I64 i) (hpc : purC c = false) : Calls Try.prog 5 #[sc, .agg #[.bool false, .int .i64 u.k, .int .i64 u.i, .int .i64 u.j, .int .i64 u.n, su, .int .i64 v.k, .int .i64 v.i, .int .i64 v.j, .int .i64 v.n, sv, .int .i64 x.k, .int .i64 x.i, .int .i64 x.j, .int .i64 x.n, sx, .int .i64 i]] w fun e w' => e = .returned (.bool true) ∧ Kept w w' := by
  have HEc := Lib.hid hlc
  obtain ⟨ac, cc, Sc, rfl, -⟩ := hlc.out
  clear hlc
  have Gu := Lib.hid hfu
  clear hfu
  obtain ⟨au, cu, Su, rfl, -⟩ := hlu.out
  have Gv := Lib.hid hfv
  clear hfv
  obtain ⟨av, cv, Sv, rfl, -⟩ := hlv.out
  have Gx := Lib.hid hfx
  clear hfx
  obtain ⟨ax, cx, Sx, rfl, -⟩ := hlx.out
  have Ri := Lib.hid hri
  clear hri
  have HPC := Lib.hid hpc
  clear hpc
  obtain ⟨dj, dj1, dj2⟩ := under_of 34 (by kernel_rfl)
  obtain ⟨du, hu1, hu2⟩ := under_term
  go_enter Try.func5, Try.ntmps5
  go_upto_region 1 with fail
  refine at_code (fun V0 hV0 => ?_)
  obtain ⟨k2, x1, z3⟩ := alloc1 hV0
  have Kk4 := Lib.hid k2
  clear k2
  have Hx1 := Lib.hid x1
  have Z0 := Lib.hid z3
  clear z3 x1 hV0
  have HLu : Hid (LiesQ V0 (Par w V0.heap.size [] P) u.kids _) := (par_in _ _ hlu).later Kk4.out
  clear hlu
  have HLv : Hid (LiesQ V0 (Par w V0.heap.size [] P) v.kids _) := (par_in _ _ hlv).later Kk4.out
  clear hlv
  have HLx : Hid (LiesQ V0 (Par w V0.heap.size [] P) x.kids _) := (par_in _ _ hlx).later Kk4.out
  clear hlx
  have ld5 := partN_cell (r := V0.heap.size) Hx1.out trivial 16 (.int .i64 i) rfl
  have kvV0 : SeesN V0 V0.heap.size V0 := seesN_kept _ (kept_refl _)
  go_wp2_with (refine stop_load 34 (.tmp 3) rfl ?_)
  intro _
  refine wpList_load_part (w.heap.size) (0) 34 (.tmp 3) #[.bool false, .int .i64 u.k, .int .i64 u.i, .int .i64 u.j, .int .i64 u.n, (.slice au u.kids.length cu), .int .i64 v.k, .int .i64 v.i, .int .i64 v.j, .int .i64 v.n, (.slice av v.kids.length cv), .int .i64 x.k, .int .i64 x.i, .int .i64 x.j, .int .i64 x.n, (.slice ax x.kids.length cx), .int .i64 i] dj Hx1.out (by rfl) rfl (by rfl) (by rfl) dj1 (by cases dj <;> first | rfl | exact dj2) (by kernel_rfl) ?_
  go_wp2_with fail
  refine at_world (fun W7 hW7 => ?_)
  clear kvV0
  obtain ⟨k9, x8, z10⟩ := alloc1 hW7
  have Kk11 := Lib.hid k9
  clear k9
  have Hx8 := Lib.hid x8
  have Hz10 := Lib.hid z10
  clear x8 z10 hW7
  refine (lheavy15_any c [(⟨false, u, v, x, i⟩ : Jd)] _ ((.slice ac c.length cc)) (.slice (some ⟨V0.heap.size, 0, none⟩) 1 1) (HEc.out.keep (kept_trans Kk4.out Kk11.out)) (liesJ_row1 (j := (⟨false, u, v, x, i⟩ : Jd)) Hx8.out ⟨Gu.out, Gv.out, Gx.out, Ri.out⟩ ⟨(HLu.out.later Kk11.out).lies, (HLv.out.later Kk11.out).lies, (HLx.out.later Kk11.out).lies⟩)).mono ?_
  rintro e w12 ⟨gb14, rfl, hg15, k13⟩
  have Hhg15 := Lib.hid hg15
  clear hg15
  have Kk16 := Lib.hid k13
  clear k13
  cases gb14 with
  | false =>
    have HIhg15 := Lib.hid (Hhg15.out rfl)
    have kvV0 : SeesN V0 V0.heap.size w12 := seesN_kept _ (kept_trans Kk11.out Kk16.out)
    go_wp2_with (refine stop_load 34 (.tmp 3) rfl ?_)
    intro _
    refine wpList_load_part (w.heap.size) (0) 34 (.tmp 3) #[.bool false, .int .i64 u.k, .int .i64 u.i, .int .i64 u.j, .int .i64 u.n, (.slice au u.kids.length cu), .int .i64 v.k, .int .i64 v.i, .int .i64 v.j, .int .i64 v.n, (.slice av v.kids.length cv), .int .i64 x.k, .int .i64 x.i, .int .i64 x.j, .int .i64 x.n, (.slice ax x.kids.length cx), .int .i64 i] dj (blk_at Hx1.out (kept_trans Kk11.out Kk16.out)) (by rfl) rfl (by rfl) (by rfl) dj1 (by cases dj <;> first | rfl | exact dj2) (by kernel_rfl) ?_
    go_wp2_with fail
    refine at_world (fun W18 hW18 => ?_)
    clear kvV0
    obtain ⟨k20, x19, z21⟩ := alloc1 hW18
    have Kk22 := Lib.hid k20
    clear k20
    have Hx19 := Lib.hid x19
    have Hz21 := Lib.hid z21
    clear x19 z21 hW18
    refine (of14Npf_any i c u v x (Par w V0.heap.size [] P) W18 ((.slice ac c.length cc)) w12.heap.size ((.slice au u.kids.length cu)) ((.slice av v.kids.length cv)) ((.slice ax x.kids.length cx)) (HEc.out.keep (kept_trans Kk4.out (kept_trans Kk11.out (kept_trans Kk16.out Kk22.out)))) Gu.out (HLu.out.later (kept_trans Kk11.out (kept_trans Kk16.out Kk22.out))) Gv.out (HLv.out.later (kept_trans Kk11.out (kept_trans Kk16.out Kk22.out))) Gx.out (HLx.out.later (kept_trans Kk11.out (kept_trans Kk16.out Kk22.out))) Ri.out Hx19.out (Nat.le_trans HIhg15.out.1.1 (by decide)) (Nat.le_trans (HIhg15.out.2.2 _ (List.mem_cons_self ..)).1 (by decide)) (Nat.le_trans (HIhg15.out.2.2 _ (List.mem_cons_self ..)).2.1 (by decide)) (Nat.le_trans (HIhg15.out.2.2 _ (List.mem_cons_self ..)).2.2 (by decide)) HPC.out).mono ?_
    rintro e w23 ⟨s25, s26, s27, rfl, ⟨hl28, hl29, hl30⟩, k24⟩
    obtain ⟨a31, c32, S33, rfl, -⟩ := hl28.out
    obtain ⟨a34, c35, S36, rfl, -⟩ := hl29.out
    obtain ⟨a37, c38, S39, rfl, -⟩ := hl30.out
    have Kk40 := Lib.hid k24
    clear k24
    have Hhl28 : Hid (LiesQ w23 (Par w V0.heap.size [] P) Tm.zero.kids _) := par_give hl28 (Below.size (kept_trans Kk11.out (kept_trans Kk16.out Kk22.out))) (xlt_nil _)
    have Hhl29 : Hid (LiesQ w23 (Par w V0.heap.size [] P) Tm.zero.kids _) := par_give hl29 (Below.size (kept_trans Kk11.out (kept_trans Kk16.out Kk22.out))) (xlt_nil _)
    have Hhl30 : Hid (LiesQ w23 (Par w V0.heap.size [] P) Tm.zero.kids _) := par_give hl30 (Below.size (kept_trans Kk11.out (kept_trans Kk16.out Kk22.out))) (xlt_nil _)
    clear hl28 hl29 hl30
    have kvV0 : SeesN V0 V0.heap.size w23 := seesN_kept _ (kept_trans Kk11.out (kept_trans Kk16.out (kept_trans Kk22.out Kk40.out)))
    go_wp2_with (refine stop_store 34 (.tmp 5) (.tmp 20) rfl ?_)
    intro _
    refine wpList_store_part_n (by rfl) 34 (.tmp 5) (.tmp 20) rfl (w23.heap.size) 0 #[.bool false, .int .i64 Tm.zero.k, .int .i64 Tm.zero.i, .int .i64 Tm.zero.j, .int .i64 Tm.zero.n, (.slice a31 Tm.zero.kids.length c32), .int .i64 Tm.zero.k, .int .i64 Tm.zero.i, .int .i64 Tm.zero.j, .int .i64 Tm.zero.n, (.slice a34 Tm.zero.kids.length c35), .int .i64 Tm.zero.k, .int .i64 Tm.zero.i, .int .i64 Tm.zero.j, .int .i64 Tm.zero.n, (.slice a37 Tm.zero.kids.length c38), .int .i64 0] (by rfl) (by rfl) 34 (by kernel_rfl) (row_ok rfl) ?_
    intro W41 hW41
    clear kvV0
    obtain ⟨k44, x43, z45⟩ := alloc1 hW41
    have Kk46 := Lib.hid k44
    clear k44
    have Hx43 := Lib.hid x43
    have Hz45 := Lib.hid z45
    clear x43 z45 hW41
    have HG47 : Hid (V0.heap.size ≤ w23.heap.size) := (Below.size (kept_trans Kk11.out (kept_trans Kk16.out (kept_trans Kk22.out Kk40.out))))
    have XL48 : Hid (XLt (w23.heap.size :: []) W41) := (xlt_more (xlt_nil _) Kk46.out (by have := Hz45.out; omega))
    refine ⟨_, #[.bool false, .int .i64 Tm.zero.k, .int .i64 Tm.zero.i, .int .i64 Tm.zero.j, .int .i64 Tm.zero.n, (.slice a31 Tm.zero.kids.length c32), .int .i64 Tm.zero.k, .int .i64 Tm.zero.i, .int .i64 Tm.zero.j, .int .i64 Tm.zero.n, (.slice a34 Tm.zero.kids.length c35), .int .i64 Tm.zero.k, .int .i64 Tm.zero.i, .int .i64 Tm.zero.j, .int .i64 Tm.zero.n, (.slice a37 Tm.zero.kids.length c38), .int .i64 0], Hx43.out, rfl, Nat.le_of_ble_eq_true rfl, ?_⟩
    intro W42 hW42
    have KB49 := Lib.hid (kept_set (kept_trans Kk4.out (kept_trans Kk11.out (kept_trans Kk16.out (kept_trans Kk22.out (kept_trans Kk40.out Kk46.out))))) hW42 (by have := HG47.out; have := Z0.out; omega))
    have KB50 := Lib.hid (kept_set (kept_trans Kk11.out (kept_trans Kk16.out (kept_trans Kk22.out (kept_trans Kk40.out Kk46.out)))) hW42 HG47.out)
    have HL51 : Hid (LiesQ W42 (Par w V0.heap.size (w23.heap.size :: []) P) u.kids _) := par_set (par_grow HLu.out (kept_trans Kk11.out (kept_trans Kk16.out (kept_trans Kk22.out (kept_trans Kk40.out Kk46.out)))) (List.forall_mem_cons.2 ⟨(Or.inr (Nat.le_trans (Below.size (kept_trans Kk11.out (kept_trans Kk16.out (kept_trans Kk22.out Kk40.out)))) (Nat.le_refl w23.heap.size))), (fun _ h => nomatch h)⟩)) hW42 (List.mem_cons_self ..) (by have := HG47.out; have := Z0.out; omega)
    have HL52 : Hid (LiesQ W42 (Par w V0.heap.size (w23.heap.size :: []) P) v.kids _) := par_set (par_grow HLv.out (kept_trans Kk11.out (kept_trans Kk16.out (kept_trans Kk22.out (kept_trans Kk40.out Kk46.out)))) (List.forall_mem_cons.2 ⟨(Or.inr (Nat.le_trans (Below.size (kept_trans Kk11.out (kept_trans Kk16.out (kept_trans Kk22.out Kk40.out)))) (Nat.le_refl w23.heap.size))), (fun _ h => nomatch h)⟩)) hW42 (List.mem_cons_self ..) (by have := HG47.out; have := Z0.out; omega)
    have HL53 : Hid (LiesQ W42 (Par w V0.heap.size (w23.heap.size :: []) P) x.kids _) := par_set (par_grow HLx.out (kept_trans Kk11.out (kept_trans Kk16.out (kept_trans Kk22.out (kept_trans Kk40.out Kk46.out)))) (List.forall_mem_cons.2 ⟨(Or.inr (Nat.le_trans (Below.size (kept_trans Kk11.out (kept_trans Kk16.out (kept_trans Kk22.out Kk40.out)))) (Nat.le_refl w23.heap.size))), (fun _ h => nomatch h)⟩)) hW42 (List.mem_cons_self ..) (by have := HG47.out; have := Z0.out; omega)
    have HL54 : Hid (LiesQ W42 (Par w V0.heap.size (w23.heap.size :: []) P) Tm.zero.kids _) := par_set (par_grow Hhl28.out Kk46.out (List.forall_mem_cons.2 ⟨(Or.inr (Nat.le_refl w23.heap.size)), (fun _ h => nomatch h)⟩)) hW42 (List.mem_cons_self ..) (by have := HG47.out; have := Z0.out; omega)
    have HL55 : Hid (LiesQ W42 (Par w V0.heap.size (w23.heap.size :: []) P) Tm.zero.kids _) := par_set (par_grow Hhl29.out Kk46.out (List.forall_mem_cons.2 ⟨(Or.inr (Nat.le_refl w23.heap.size)), (fun _ h => nomatch h)⟩)) hW42 (List.mem_cons_self ..) (by have := HG47.out; have := Z0.out; omega)
    have HL56 : Hid (LiesQ W42 (Par w V0.heap.size (w23.heap.size :: []) P) Tm.zero.kids _) := par_set (par_grow Hhl30.out Kk46.out (List.forall_mem_cons.2 ⟨(Or.inr (Nat.le_refl w23.heap.size)), (fun _ h => nomatch h)⟩)) hW42 (List.mem_cons_self ..) (by have := HG47.out; have := Z0.out; omega)
    have XL57 := Lib.hid (xlt_set XL48.out hW42)
    have HX58 := Lib.hid (blk_same Hx43.out hW42)
    clear hW42
    have kvV0 : SeesN V0 V0.heap.size W42 := seesN_kept _ KB50.out
    have kvW42 : SeesN W42 V0.heap.size W42 := seesN_kept _ (kept_refl _)
    go_wp2_with fail
    clear kvV0
    clear kvW42
    refine (wakes15_any _).mono ?_
    rintro e w59 ⟨rfl, k60⟩
    have Kk61 := Lib.hid k60
    clear k60
    have kvV0 : SeesN V0 V0.heap.size w59 := seesN_kept _ (kept_trans KB50.out Kk61.out)
    have kvW42 : SeesN W42 V0.heap.size w59 := seesN_kept _ Kk61.out
    go_wp2
    go_ret
    exact ⟨rfl, (kept_trans KB49.out Kk61.out)⟩
  | true =>
    have kvV0 : SeesN V0 V0.heap.size w12 := seesN_kept _ (kept_trans Kk11.out Kk16.out)
    go_wp2
    go_ret
    exact ⟨rfl, (kept_trans Kk4.out (kept_trans Kk11.out Kk16.out))⟩

set_option maxRecDepth 20000 in
set_option maxHeartbeats 4000000 in
theorem turned0rf_any (i : Int) (c : List En) (u : Tm) (v : Tm) (x : Tm) (P : Nat → Prop) (w : World) (sc : Value) (su : Value) (sv : Value) (sx : Value) (hlc : LiesE w c sc) (hfu : u.fine) (hlu : LiesQ w P u.kids su) (hfv : v.fine) (hlv : LiesQ w P v.kids sv) (hfx : x.fine) (hlx : LiesQ w P x.kids sx) (hri : I64 i) (hpc : purC c = true) (hrj : rightJ (⟨false, u, v, x, i⟩ : Jd) (c.length : Int) = false) : Calls Try.prog 5 #[sc, .agg #[.bool false, .int .i64 u.k, .int .i64 u.i, .int .i64 u.j, .int .i64 u.n, su, .int .i64 v.k, .int .i64 v.i, .int .i64 v.j, .int .i64 v.n, sv, .int .i64 x.k, .int .i64 x.i, .int .i64 x.j, .int .i64 x.n, sx, .int .i64 i]] w fun e w' => e = .returned (.bool true) ∧ Kept w w' := by
  have HEc := Lib.hid hlc
  obtain ⟨ac, cc, Sc, rfl, -⟩ := hlc.out
  clear hlc
  have Gu := Lib.hid hfu
  clear hfu
  obtain ⟨au, cu, Su, rfl, -⟩ := hlu.out
  have Gv := Lib.hid hfv
  clear hfv
  obtain ⟨av, cv, Sv, rfl, -⟩ := hlv.out
  have Gx := Lib.hid hfx
  clear hfx
  obtain ⟨ax, cx, Sx, rfl, -⟩ := hlx.out
  have Ri := Lib.hid hri
  clear hri
  have HPC := Lib.hid hpc
  clear hpc
  have HRJ := Lib.hid hrj
  clear hrj
  obtain ⟨dj, dj1, dj2⟩ := under_of 34 (by kernel_rfl)
  obtain ⟨du, hu1, hu2⟩ := under_term
  go_enter Try.func5, Try.ntmps5
  go_upto_region 1 with fail
  refine at_code (fun V0 hV0 => ?_)
  obtain ⟨k2, x1, z3⟩ := alloc1 hV0
  have Kk4 := Lib.hid k2
  clear k2
  have Hx1 := Lib.hid x1
  have Z0 := Lib.hid z3
  clear z3 x1 hV0
  have HLu : Hid (LiesQ V0 (Par w V0.heap.size [] P) u.kids _) := (par_in _ _ hlu).later Kk4.out
  clear hlu
  have HLv : Hid (LiesQ V0 (Par w V0.heap.size [] P) v.kids _) := (par_in _ _ hlv).later Kk4.out
  clear hlv
  have HLx : Hid (LiesQ V0 (Par w V0.heap.size [] P) x.kids _) := (par_in _ _ hlx).later Kk4.out
  clear hlx
  have ld5 := partN_cell (r := V0.heap.size) Hx1.out trivial 16 (.int .i64 i) rfl
  have kvV0 : SeesN V0 V0.heap.size V0 := seesN_kept _ (kept_refl _)
  go_wp2_with (refine stop_load 34 (.tmp 3) rfl ?_)
  intro _
  refine wpList_load_part (w.heap.size) (0) 34 (.tmp 3) #[.bool false, .int .i64 u.k, .int .i64 u.i, .int .i64 u.j, .int .i64 u.n, (.slice au u.kids.length cu), .int .i64 v.k, .int .i64 v.i, .int .i64 v.j, .int .i64 v.n, (.slice av v.kids.length cv), .int .i64 x.k, .int .i64 x.i, .int .i64 x.j, .int .i64 x.n, (.slice ax x.kids.length cx), .int .i64 i] dj Hx1.out (by rfl) rfl (by rfl) (by rfl) dj1 (by cases dj <;> first | rfl | exact dj2) (by kernel_rfl) ?_
  go_wp2_with fail
  refine at_world (fun W7 hW7 => ?_)
  clear kvV0
  obtain ⟨k9, x8, z10⟩ := alloc1 hW7
  have Kk11 := Lib.hid k9
  clear k9
  have Hx8 := Lib.hid x8
  have Hz10 := Lib.hid z10
  clear x8 z10 hW7
  refine (lheavy15_any c [(⟨false, u, v, x, i⟩ : Jd)] _ ((.slice ac c.length cc)) (.slice (some ⟨V0.heap.size, 0, none⟩) 1 1) (HEc.out.keep (kept_trans Kk4.out Kk11.out)) (liesJ_row1 (j := (⟨false, u, v, x, i⟩ : Jd)) Hx8.out ⟨Gu.out, Gv.out, Gx.out, Ri.out⟩ ⟨(HLu.out.later Kk11.out).lies, (HLv.out.later Kk11.out).lies, (HLx.out.later Kk11.out).lies⟩)).mono ?_
  rintro e w12 ⟨gb14, rfl, hg15, k13⟩
  have Hhg15 := Lib.hid hg15
  clear hg15
  have Kk16 := Lib.hid k13
  clear k13
  cases gb14 with
  | false =>
    have HIhg15 := Lib.hid (Hhg15.out rfl)
    have kvV0 : SeesN V0 V0.heap.size w12 := seesN_kept _ (kept_trans Kk11.out Kk16.out)
    go_wp2_with (refine stop_load 34 (.tmp 3) rfl ?_)
    intro _
    refine wpList_load_part (w.heap.size) (0) 34 (.tmp 3) #[.bool false, .int .i64 u.k, .int .i64 u.i, .int .i64 u.j, .int .i64 u.n, (.slice au u.kids.length cu), .int .i64 v.k, .int .i64 v.i, .int .i64 v.j, .int .i64 v.n, (.slice av v.kids.length cv), .int .i64 x.k, .int .i64 x.i, .int .i64 x.j, .int .i64 x.n, (.slice ax x.kids.length cx), .int .i64 i] dj (blk_at Hx1.out (kept_trans Kk11.out Kk16.out)) (by rfl) rfl (by rfl) (by rfl) dj1 (by cases dj <;> first | rfl | exact dj2) (by kernel_rfl) ?_
    go_wp2_with fail
    refine at_world (fun W18 hW18 => ?_)
    clear kvV0
    obtain ⟨k20, x19, z21⟩ := alloc1 hW18
    have Kk22 := Lib.hid k20
    clear k20
    have Hx19 := Lib.hid x19
    have Hz21 := Lib.hid z21
    clear x19 z21 hW18
    refine (of14Nrf_any i c u v x (Par w V0.heap.size [] P) W18 ((.slice ac c.length cc)) w12.heap.size ((.slice au u.kids.length cu)) ((.slice av v.kids.length cv)) ((.slice ax x.kids.length cx)) (HEc.out.keep (kept_trans Kk4.out (kept_trans Kk11.out (kept_trans Kk16.out Kk22.out)))) Gu.out (HLu.out.later (kept_trans Kk11.out (kept_trans Kk16.out Kk22.out))) Gv.out (HLv.out.later (kept_trans Kk11.out (kept_trans Kk16.out Kk22.out))) Gx.out (HLx.out.later (kept_trans Kk11.out (kept_trans Kk16.out Kk22.out))) Ri.out Hx19.out (Nat.le_trans HIhg15.out.1.1 (by decide)) (Nat.le_trans (HIhg15.out.2.2 _ (List.mem_cons_self ..)).1 (by decide)) (Nat.le_trans (HIhg15.out.2.2 _ (List.mem_cons_self ..)).2.1 (by decide)) (Nat.le_trans (HIhg15.out.2.2 _ (List.mem_cons_self ..)).2.2 (by decide)) HPC.out HRJ.out).mono ?_
    rintro e w23 ⟨s25, s26, s27, rfl, ⟨hl28, hl29, hl30⟩, k24⟩
    obtain ⟨a31, c32, S33, rfl, -⟩ := hl28.out
    obtain ⟨a34, c35, S36, rfl, -⟩ := hl29.out
    obtain ⟨a37, c38, S39, rfl, -⟩ := hl30.out
    have Kk40 := Lib.hid k24
    clear k24
    have Hhl28 : Hid (LiesQ w23 (Par w V0.heap.size [] P) Tm.zero.kids _) := par_give hl28 (Below.size (kept_trans Kk11.out (kept_trans Kk16.out Kk22.out))) (xlt_nil _)
    have Hhl29 : Hid (LiesQ w23 (Par w V0.heap.size [] P) Tm.zero.kids _) := par_give hl29 (Below.size (kept_trans Kk11.out (kept_trans Kk16.out Kk22.out))) (xlt_nil _)
    have Hhl30 : Hid (LiesQ w23 (Par w V0.heap.size [] P) Tm.zero.kids _) := par_give hl30 (Below.size (kept_trans Kk11.out (kept_trans Kk16.out Kk22.out))) (xlt_nil _)
    clear hl28 hl29 hl30
    have kvV0 : SeesN V0 V0.heap.size w23 := seesN_kept _ (kept_trans Kk11.out (kept_trans Kk16.out (kept_trans Kk22.out Kk40.out)))
    go_wp2_with (refine stop_store 34 (.tmp 5) (.tmp 20) rfl ?_)
    intro _
    refine wpList_store_part_n (by rfl) 34 (.tmp 5) (.tmp 20) rfl (w23.heap.size) 0 #[.bool false, .int .i64 Tm.zero.k, .int .i64 Tm.zero.i, .int .i64 Tm.zero.j, .int .i64 Tm.zero.n, (.slice a31 Tm.zero.kids.length c32), .int .i64 Tm.zero.k, .int .i64 Tm.zero.i, .int .i64 Tm.zero.j, .int .i64 Tm.zero.n, (.slice a34 Tm.zero.kids.length c35), .int .i64 Tm.zero.k, .int .i64 Tm.zero.i, .int .i64 Tm.zero.j, .int .i64 Tm.zero.n, (.slice a37 Tm.zero.kids.length c38), .int .i64 0] (by rfl) (by rfl) 34 (by kernel_rfl) (row_ok rfl) ?_
    intro W41 hW41
    clear kvV0
    obtain ⟨k44, x43, z45⟩ := alloc1 hW41
    have Kk46 := Lib.hid k44
    clear k44
    have Hx43 := Lib.hid x43
    have Hz45 := Lib.hid z45
    clear x43 z45 hW41
    have HG47 : Hid (V0.heap.size ≤ w23.heap.size) := (Below.size (kept_trans Kk11.out (kept_trans Kk16.out (kept_trans Kk22.out Kk40.out))))
    have XL48 : Hid (XLt (w23.heap.size :: []) W41) := (xlt_more (xlt_nil _) Kk46.out (by have := Hz45.out; omega))
    refine ⟨_, #[.bool false, .int .i64 Tm.zero.k, .int .i64 Tm.zero.i, .int .i64 Tm.zero.j, .int .i64 Tm.zero.n, (.slice a31 Tm.zero.kids.length c32), .int .i64 Tm.zero.k, .int .i64 Tm.zero.i, .int .i64 Tm.zero.j, .int .i64 Tm.zero.n, (.slice a34 Tm.zero.kids.length c35), .int .i64 Tm.zero.k, .int .i64 Tm.zero.i, .int .i64 Tm.zero.j, .int .i64 Tm.zero.n, (.slice a37 Tm.zero.kids.length c38), .int .i64 0], Hx43.out, rfl, Nat.le_of_ble_eq_true rfl, ?_⟩
    intro W42 hW42
    have KB49 := Lib.hid (kept_set (kept_trans Kk4.out (kept_trans Kk11.out (kept_trans Kk16.out (kept_trans Kk22.out (kept_trans Kk40.out Kk46.out))))) hW42 (by have := HG47.out; have := Z0.out; omega))
    have KB50 := Lib.hid (kept_set (kept_trans Kk11.out (kept_trans Kk16.out (kept_trans Kk22.out (kept_trans Kk40.out Kk46.out)))) hW42 HG47.out)
    have HL51 : Hid (LiesQ W42 (Par w V0.heap.size (w23.heap.size :: []) P) u.kids _) := par_set (par_grow HLu.out (kept_trans Kk11.out (kept_trans Kk16.out (kept_trans Kk22.out (kept_trans Kk40.out Kk46.out)))) (List.forall_mem_cons.2 ⟨(Or.inr (Nat.le_trans (Below.size (kept_trans Kk11.out (kept_trans Kk16.out (kept_trans Kk22.out Kk40.out)))) (Nat.le_refl w23.heap.size))), (fun _ h => nomatch h)⟩)) hW42 (List.mem_cons_self ..) (by have := HG47.out; have := Z0.out; omega)
    have HL52 : Hid (LiesQ W42 (Par w V0.heap.size (w23.heap.size :: []) P) v.kids _) := par_set (par_grow HLv.out (kept_trans Kk11.out (kept_trans Kk16.out (kept_trans Kk22.out (kept_trans Kk40.out Kk46.out)))) (List.forall_mem_cons.2 ⟨(Or.inr (Nat.le_trans (Below.size (kept_trans Kk11.out (kept_trans Kk16.out (kept_trans Kk22.out Kk40.out)))) (Nat.le_refl w23.heap.size))), (fun _ h => nomatch h)⟩)) hW42 (List.mem_cons_self ..) (by have := HG47.out; have := Z0.out; omega)
    have HL53 : Hid (LiesQ W42 (Par w V0.heap.size (w23.heap.size :: []) P) x.kids _) := par_set (par_grow HLx.out (kept_trans Kk11.out (kept_trans Kk16.out (kept_trans Kk22.out (kept_trans Kk40.out Kk46.out)))) (List.forall_mem_cons.2 ⟨(Or.inr (Nat.le_trans (Below.size (kept_trans Kk11.out (kept_trans Kk16.out (kept_trans Kk22.out Kk40.out)))) (Nat.le_refl w23.heap.size))), (fun _ h => nomatch h)⟩)) hW42 (List.mem_cons_self ..) (by have := HG47.out; have := Z0.out; omega)
    have HL54 : Hid (LiesQ W42 (Par w V0.heap.size (w23.heap.size :: []) P) Tm.zero.kids _) := par_set (par_grow Hhl28.out Kk46.out (List.forall_mem_cons.2 ⟨(Or.inr (Nat.le_refl w23.heap.size)), (fun _ h => nomatch h)⟩)) hW42 (List.mem_cons_self ..) (by have := HG47.out; have := Z0.out; omega)
    have HL55 : Hid (LiesQ W42 (Par w V0.heap.size (w23.heap.size :: []) P) Tm.zero.kids _) := par_set (par_grow Hhl29.out Kk46.out (List.forall_mem_cons.2 ⟨(Or.inr (Nat.le_refl w23.heap.size)), (fun _ h => nomatch h)⟩)) hW42 (List.mem_cons_self ..) (by have := HG47.out; have := Z0.out; omega)
    have HL56 : Hid (LiesQ W42 (Par w V0.heap.size (w23.heap.size :: []) P) Tm.zero.kids _) := par_set (par_grow Hhl30.out Kk46.out (List.forall_mem_cons.2 ⟨(Or.inr (Nat.le_refl w23.heap.size)), (fun _ h => nomatch h)⟩)) hW42 (List.mem_cons_self ..) (by have := HG47.out; have := Z0.out; omega)
    have XL57 := Lib.hid (xlt_set XL48.out hW42)
    have HX58 := Lib.hid (blk_same Hx43.out hW42)
    clear hW42
    have kvV0 : SeesN V0 V0.heap.size W42 := seesN_kept _ KB50.out
    have kvW42 : SeesN W42 V0.heap.size W42 := seesN_kept _ (kept_refl _)
    go_wp2_with fail
    clear kvV0
    clear kvW42
    refine (wakes15_any _).mono ?_
    rintro e w59 ⟨rfl, k60⟩
    have Kk61 := Lib.hid k60
    clear k60
    have kvV0 : SeesN V0 V0.heap.size w59 := seesN_kept _ (kept_trans KB50.out Kk61.out)
    have kvW42 : SeesN W42 V0.heap.size w59 := seesN_kept _ Kk61.out
    go_wp2
    go_ret
    exact ⟨rfl, (kept_trans KB49.out Kk61.out)⟩
  | true =>
    have kvV0 : SeesN V0 V0.heap.size w12 := seesN_kept _ (kept_trans Kk11.out Kk16.out)
    go_wp2
    go_ret
    exact ⟨rfl, (kept_trans Kk4.out (kept_trans Kk11.out Kk16.out))⟩

theorem ruleTurned_any (c : List En) (j : Jd) (w : World) (sc su sv sa : Value) (hl : LiesE w c sc) (hj : JLies w j su sv sa) (hf : j.fine) : Calls Try.prog 5 #[sc, jv j su sv sa] w fun e w' => e = .returned (.bool true) ∧ Kept w w' := by
  obtain ⟨eq, u, v, x, i⟩ := j
  cases eq with
  | false =>
    cases hp : purC c with
    | false => exact turned0pf_any i c u v x (fun b => b < w.heap.size) w sc su sv sa hl hf.1 hj.1.q hf.2.1 hj.2.1.q hf.2.2.1 hj.2.2.q hf.2.2.2 hp
    | true =>
      cases hr : rightJ ⟨false, u, v, x, i⟩ (c.length : Int) with
      | false => exact turned0rf_any i c u v x (fun b => b < w.heap.size) w sc su sv sa hl hf.1 hj.1.q hf.2.1 hj.2.1.q hf.2.2.1 hj.2.2.q hf.2.2.2 hp hr
      | true => exact turned0ok_any i c u v x (fun b => b < w.heap.size) w sc su sv sa hl hf.1 hj.1.q hf.2.1 hj.2.1.q hf.2.2.1 hj.2.2.q hf.2.2.2 hp hr
  | true =>
    cases hp : purC c with
    | false => exact turned1pf_any i c u v x (fun b => b < w.heap.size) w sc su sv sa hl hf.1 hj.1.q hf.2.1 hj.2.1.q hf.2.2.1 hj.2.2.q hf.2.2.2 hp
    | true =>
      cases hr : rightJ ⟨true, u, v, x, i⟩ (c.length : Int) with
      | false => exact turned1rf_any i c u v x (fun b => b < w.heap.size) w sc su sv sa hl hf.1 hj.1.q hf.2.1 hj.2.1.q hf.2.2.1 hj.2.2.q hf.2.2.2 hp hr
      | true => exact turned1ok_any i c u v x (fun b => b < w.heap.size) w sc su sv sa hl hf.1 hj.1.q hf.2.1 hj.2.1.q hf.2.2.1 hj.2.2.q hf.2.2.2 hp hr
end Go.Proofs.Ytjlppnmckobcfaa

namespace Go.Proofs.Ytjlppnmckobcfaa
open Go.ChangeShapes Go.WideShapes Go.ChangeAt Go.RowKit

theorem own : ownKnob Try.prog.godebug = none := by kernel_rfl
theorem cells_int : Try.prog.cellsOf 3 = 1 := by kernel_rfl
theorem cells_kids : Try.prog.cellsOf 30 = 1 := by kernel_rfl
theorem cells_term : Try.prog.cellsOf 32 = 5 := by kernel_rfl
theorem laidOut : laidOutB Try.prog = true := by kernel_rfl

instance instOpenTm : Inhabited (Tm × Value) := ⟨(.mk 0 0 0 0 [], .nilIface)⟩

theorem list5 {α : Type} {l : List α} (h : l.length = 5) : ∃ a b c d e, l = [a, b, c, d, e] := by
  match l, h with
  | [a, b, c, d, e], _ => exact ⟨a, b, c, d, e, rfl⟩

theorem wf_I64 {x : Int} (h : (Lit.int .i64 x).wf = true) : I64 x := by
  simp [Lit.wf] at h
  have hm : IntKind.i64.min = -9223372036854775808 := by decide
  rw [hm] at h
  exact h

set_option maxRecDepth 100000 in
theorem open_term {H : Type} {enc : TypeId × Value → H} {w : World} {base : Nat} {sp : Nat → Bool} {hd : Bool} : ∀ (fuel : Nat) (cs : List Value) (x : DataW H × List MemPlace),
    DataW.trod enc Try.prog w base sp hd fuel 32 cs = some x → ∃ (t : Tm) (s : Value), cs = [.int .i64 t.k, .int .i64 t.i, .int .i64 t.j, .int .i64 t.n, s] ∧ t.fine ∧ Lies w t.kids s := by
  intro fuel
  induction fuel using Nat.strongRecOn with
  | _ fuel ih =>
    intro cs x h
    obtain ⟨xs, n, rfl, rfl, hl, hlen, hf⟩ := DataW.trod_struct Try.underlying32 h
    rw [cells_term] at hl
    obtain ⟨v0, v1, v2, v3, v4, rfl⟩ := list5 hl
    obtain ⟨y0, y1, y2, y3, y4, rfl⟩ := list5 hlen
    have g0 := hf 0 _ rfl
    have g1 := hf 1 _ rfl
    have g2 := hf 2 _ rfl
    have g3 := hf 3 _ rfl
    have g4 := hf 4 _ rfl
    simp [cells_int, cells_kids] at g0 g1 g2 g3 g4
    obtain ⟨k, e0, -, w0⟩ := DataW.trod_int Try.underlying3 g0
    obtain ⟨i, e1, -, w1⟩ := DataW.trod_int Try.underlying3 g1
    obtain ⟨j, e2, -, w2⟩ := DataW.trod_int Try.underlying3 g2
    obtain ⟨m, e3, -, w3⟩ := DataW.trod_int Try.underlying3 g3
    simp at e0 e1 e2 e3
    subst e0 e1 e2 e3
    rcases DataW.trod_slice Try.underlying30 g4 with ⟨e4, -⟩ | ⟨a, len, cap, elems, rest, n', rfl, e4, -, hb, hlc, hm, hlen', hel, -, -⟩
    · simp at e4
      subst e4
      exact ⟨.mk k i j m [], _, rfl, ⟨wf_I64 w0, wf_I64 w1, wf_I64 w2, wf_I64 w3⟩, .mk [] none 0 (fun _ => .nilIface) (Nat.le_refl _) (by decide) (fun _ h => by cases h) (fun _ h => by cases h) (fun _ h => by cases h)⟩
    · simp at e4
      subst e4
      have key : ∀ i, i < len → ∃ p : Tm × Value, p.1.fine ∧ Lies w p.1.kids p.2 ∧ ∃ b o, a = ⟨b, o, none⟩ ∧ Node w b (o + i * 5) p.1 p.2 := by
        intro i hi
        have h1 := hel i hi
        rw [cells_term, List.getElem?_eq_getElem (by omega)] at h1
        obtain ⟨cs', h2, h3⟩ := Option.bind_eq_some_iff.1 h1
        obtain ⟨t, s, rfl, hfine, hlies⟩ := ih n' (by omega) _ _ h3
        obtain ⟨-, -, hcell⟩ := World.cells?_some h2
        have hs0 : a.spot = none := by
          have h1 := hel 0 (by omega)
          rw [cells_term, List.getElem?_eq_getElem (by omega)] at h1
          obtain ⟨cs0, h2, -⟩ := Option.bind_eq_some_iff.1 h1
          obtain ⟨-, hl0, hc0⟩ := World.cells?_some h2
          have c0 := hc0 0 (by omega)
          rw [List.getElem?_eq_getElem (by omega)] at c0
          simpa [Addr.add] using World.cell?_spot c0
        obtain ⟨b, o, spot⟩ := a
        simp only at hs0
        subst hs0
        refine ⟨(t, s), hfine, hlies, b, o, rfl, ?_⟩
        have hc : ∀ q, q < 5 → w.cell? ⟨b, o + i * 5 + q, none⟩ = [Value.int .i64 t.k, .int .i64 t.i, .int .i64 t.j, .int .i64 t.n, s][q]? := fun q hq => by
          have := hcell q hq
          rwa [add_plain, add_plain] at this
        exact ⟨hc 0 (by omega), hc 1 (by omega), hc 2 (by omega), hc 3 (by omega), hc 4 (by omega)⟩
      obtain ⟨f, hf'⟩ := Go.Deep.choose_lt (α := Tm × Value) (p := fun i p => p.1.fine ∧ Lies w p.1.kids p.2 ∧ ∃ b o, a = ⟨b, o, none⟩ ∧ Node w b (o + i * 5) p.1 p.2) key
      have hl5 : ((List.range len).map fun i => (f i).1).length = len := by simp
      refine ⟨.mk k i j m ((List.range len).map fun i => (f i).1), _, rfl, ⟨wf_I64 w0, wf_I64 w1, wf_I64 w2, wf_I64 w3⟩, ?_⟩
      have := Lies.mk (w := w) ((List.range len).map fun i => (f i).1) (some a) cap (fun i => (f i).2) (by simpa using hlc) hm
        (fun x hx => by
          obtain ⟨i, hi, rfl⟩ := List.mem_map.1 hx
          exact (hf' i (List.mem_range.1 hi)).1)
        (fun i hi => by
          obtain ⟨b, o, ha, hn⟩ := (hf' i (by simpa using hi)).2.2
          exact ⟨b, o, by rw [ha], by simpa using hn⟩)
        (fun i hi => by simpa using (hf' i (by simpa using hi)).2.1)
      rwa [hl5] at this
end Go.Proofs.Ytjlppnmckobcfaa

namespace Go.Proofs.Ytjlppnmckobcfaa
open Go.ChangeShapes Go.WideShapes Go.ChangeAt Go.RowKit

theorem cells_entry : Try.prog.cellsOf 52 = 6 := by kernel_rfl
instance instOpenEn : Inhabited (En × Value) := ⟨(⟨.mk 0 0 0 0 [], 0⟩, .nilIface)⟩
theorem list6 {α : Type} {l : List α} (h : l.length = 6) : ∃ a b c d e f, l = [a, b, c, d, e, f] := by
  match l, h with
  | [a, b, c, d, e, f], _ => exact ⟨a, b, c, d, e, f, rfl⟩
theorem list2 {α : Type} {l : List α} (h : l.length = 2) : ∃ a b, l = [a, b] := by
  match l, h with
  | [a, b], _ => exact ⟨a, b, rfl⟩

set_option maxRecDepth 100000 in
theorem open_entry {H : Type} {enc : TypeId × Value → H} {w : World} {base : Nat} {sp : Nat → Bool} {hd : Bool} (fuel : Nat) (cs : List Value) (x : DataW H × List MemPlace)
    (h : DataW.trod enc Try.prog w base sp hd fuel 52 cs = some x) : ∃ (e : En) (s : Value), cs = [.int .i64 e.a.k, .int .i64 e.a.i, .int .i64 e.a.j, .int .i64 e.a.n, s, .int .i64 e.i] ∧ e.fine ∧ Lies w e.a.kids s := by
  obtain ⟨xs, n, rfl, rfl, hl, hlen, hf⟩ := DataW.trod_struct Try.underlying52 h
  rw [cells_entry] at hl
  obtain ⟨v0, v1, v2, v3, v4, v5, rfl⟩ := list6 hl
  obtain ⟨y0, y1, rfl⟩ := list2 hlen
  have g0 := hf 0 _ rfl
  have g1 := hf 1 _ rfl
  simp [cells_int, cells_term] at g0 g1
  obtain ⟨t, s, hcs, hfine, hlies⟩ := open_term n _ _ g0
  obtain ⟨i, e1, -, w1⟩ := DataW.trod_int Try.underlying3 g1
  simp at e1 hcs
  subst e1
  obtain ⟨rfl, rfl, rfl, rfl, rfl⟩ := hcs
  exact ⟨⟨t, i⟩, v4, rfl, ⟨hfine, wf_I64 w1⟩, hlies⟩

set_option maxRecDepth 100000 in
theorem open_argE {H : Type} {enc : TypeId × Value → H} {w : World} {r : Reach} {b0 base : Nat} {sp : Nat → Bool} {hd : Bool} {v : Value} {d : DataW H} {p : List MemPlace} (hv : Value.okWide Try.prog w r b0 22 v)
    (h : DataW.Trod enc Try.prog w base sp hd 22 v d p) : ∃ l : List En, LiesE w l v := by
  obtain ⟨a0, len0, cap0, rfl⟩ := okWide_slice Try.underlying22 hv
  obtain ⟨fuel, hf⟩ := h
  rcases DataW.trod_slice Try.underlying22 hf with ⟨e4, -⟩ | ⟨a, len, cap, elems, rest, n', rfl, e4, -, hb, hlc, hm, hlen', hel, -, -⟩
  · simp [Value.cells] at e4
    obtain ⟨rfl, rfl, rfl⟩ := e4
    exact ⟨[], liesE_nil _⟩
  · simp [Value.cells] at e4
    obtain ⟨rfl, rfl, rfl⟩ := e4
    have key : ∀ i, i < len0 → ∃ p : En × Value, p.1.fine ∧ Lies w p.1.a.kids p.2 ∧ ∃ b o, a = ⟨b, o, none⟩ ∧ ENode w b (o + i * 6) p.1 p.2 := by
      intro i hi
      have h1 := hel i hi
      rw [cells_entry, List.getElem?_eq_getElem (by omega)] at h1
      obtain ⟨cs', h2, h3⟩ := Option.bind_eq_some_iff.1 h1
      obtain ⟨t, s, rfl, hfine, hlies⟩ := open_entry n' _ _ h3
      obtain ⟨-, -, hcell⟩ := World.cells?_some h2
      have hs0 : a.spot = none := by
        have h1 := hel 0 (by omega)
        rw [cells_entry, List.getElem?_eq_getElem (by omega)] at h1
        obtain ⟨cs0, h2, -⟩ := Option.bind_eq_some_iff.1 h1
        obtain ⟨-, hl0, hc0⟩ := World.cells?_some h2
        have c0 := hc0 0 (by omega)
        rw [List.getElem?_eq_getElem (by omega)] at c0
        simpa [Addr.add] using World.cell?_spot c0
      obtain ⟨b, o, spot⟩ := a
      simp only at hs0
      subst hs0
      refine ⟨(t, s), hfine, hlies, b, o, rfl, ?_⟩
      have hc : ∀ q, q < 6 → w.cell? ⟨b, o + i * 6 + q, none⟩ = [Value.int .i64 t.a.k, .int .i64 t.a.i, .int .i64 t.a.j, .int .i64 t.a.n, s, .int .i64 t.i][q]? := fun q hq => by
        have := hcell q hq
        rwa [add_plain, add_plain] at this
      exact ⟨hc 0 (by omega), hc 1 (by omega), hc 2 (by omega), hc 3 (by omega), hc 4 (by omega), hc 5 (by omega)⟩
    obtain ⟨f, hf'⟩ := Go.Deep.choose_lt (α := En × Value) (p := fun i p => p.1.fine ∧ Lies w p.1.a.kids p.2 ∧ ∃ b o, a = ⟨b, o, none⟩ ∧ ENode w b (o + i * 6) p.1 p.2) key
    have hl5 : ((List.range len0).map fun i => (f i).1).length = len0 := by simp
    refine ⟨(List.range len0).map fun i => (f i).1, some a, cap0, (fun i => (f i).2), by rw [hl5], by simpa using hlc, hm, ?_, ?_, ?_⟩
    · intro x hx
      obtain ⟨i, hi, rfl⟩ := List.mem_map.1 hx
      exact (hf' i (List.mem_range.1 hi)).1
    · intro i hi
      obtain ⟨b, o, ha, hn⟩ := (hf' i (by simpa using hi)).2.2
      exact ⟨b, o, by rw [ha], by simpa using hn⟩
    · intro i hi
      simpa using (hf' i (by simpa using hi)).2.1
end Go.Proofs.Ytjlppnmckobcfaa

namespace Go.Proofs.Ytjlppnmckobcfaa
open Go.ChangeShapes Go.WideShapes Go.ChangeAt Go.RowKit

theorem cells_judg : Try.prog.cellsOf 34 = 17 := by kernel_rfl
theorem cells_bool : Try.prog.cellsOf 4 = 1 := by kernel_rfl
theorem list17 {α : Type} {l : List α} (h : l.length = 17) : ∃ v0 v1 v2 v3 v4 v5 v6 v7 v8 v9 v10 v11 v12 v13 v14 v15 v16, l = [v0, v1, v2, v3, v4, v5, v6, v7, v8, v9, v10, v11, v12, v13, v14, v15, v16] := by
  match l, h with
  | [v0, v1, v2, v3, v4, v5, v6, v7, v8, v9, v10, v11, v12, v13, v14, v15, v16], _ => exact ⟨v0, v1, v2, v3, v4, v5, v6, v7, v8, v9, v10, v11, v12, v13, v14, v15, v16, rfl⟩
set_option maxRecDepth 100000 in
theorem open_judg {H : Type} {enc : TypeId × Value → H} {w : World} {base : Nat} {sp : Nat → Bool} {hd : Bool} (fuel : Nat) (cs : List Value) (x : DataW H × List MemPlace)
    (h : DataW.trod enc Try.prog w base sp hd fuel 34 cs = some x) : ∃ (j : Jd) (su sv sa : Value), cs = [.bool j.eq, .int .i64 j.u.k, .int .i64 j.u.i, .int .i64 j.u.j, .int .i64 j.u.n, su, .int .i64 j.v.k, .int .i64 j.v.i, .int .i64 j.v.j, .int .i64 j.v.n, sv, .int .i64 j.a.k, .int .i64 j.a.i, .int .i64 j.a.j, .int .i64 j.a.n, sa, .int .i64 j.i] ∧ j.fine ∧ JLies w j su sv sa := by
  obtain ⟨xs, n, rfl, rfl, hl, hlen, hf⟩ := DataW.trod_struct Try.underlying34 h
  rw [cells_judg] at hl
  obtain ⟨v0, v1, v2, v3, v4, v5, v6, v7, v8, v9, v10, v11, v12, v13, v14, v15, v16, rfl⟩ := list17 hl
  obtain ⟨y0, y1, y2, y3, y4, rfl⟩ := list5 hlen
  have g0 := hf 0 _ rfl
  have g1 := hf 1 _ rfl
  have g2 := hf 2 _ rfl
  have g3 := hf 3 _ rfl
  have g4 := hf 4 _ rfl
  simp [cells_int, cells_term, cells_bool] at g0 g1 g2 g3 g4
  obtain ⟨e, he, -⟩ := DataW.trod_bool Try.underlying4 g0
  obtain ⟨tu, su, hcu, hfu, hlu⟩ := open_term n _ _ g1
  obtain ⟨tv, sv, hcv, hfv, hlv⟩ := open_term n _ _ g2
  obtain ⟨ta, sa, hca, hfa, hla⟩ := open_term n _ _ g3
  obtain ⟨i, ei, -, wi⟩ := DataW.trod_int Try.underlying3 g4
  simp at he ei hcu hcv hca
  subst he ei
  obtain ⟨rfl, rfl, rfl, rfl, rfl⟩ := hcu
  obtain ⟨rfl, rfl, rfl, rfl, rfl⟩ := hcv
  obtain ⟨rfl, rfl, rfl, rfl, rfl⟩ := hca
  exact ⟨⟨e, tu, tv, ta, i⟩, _, _, _, rfl, ⟨hfu, hfv, hfa, wf_I64 wi⟩, hlu, hlv, hla⟩
set_option maxRecDepth 100000 in
theorem open_argJ {H : Type} {enc : TypeId × Value → H} {W : World} {r : Reach} {b0 base : Nat} {sp : Nat → Bool} {hd : Bool} {v : Value} {d : DataW H} {p : List MemPlace} (hv : Value.okWide Try.prog W r b0 34 v)
    (h : DataW.Trod enc Try.prog W base sp hd 34 v d p) : ∃ (j : Jd) (su sv sa : Value), JLies W j su sv sa ∧ j.fine ∧ v = jv j su sv sa := by
  obtain ⟨cs, rfl, hsz⟩ := okWide_struct Try.underlying34 hv
  obtain ⟨fuel, hf⟩ := h
  obtain ⟨j, su, sv, sa, hcs, hfj, hl⟩ := open_judg fuel _ _ hf
  refine ⟨j, su, sv, sa, hl, hfj, ?_⟩
  have : cs.toList = [.bool j.eq, .int .i64 j.u.k, .int .i64 j.u.i, .int .i64 j.u.j, .int .i64 j.u.n, su, .int .i64 j.v.k, .int .i64 j.v.i, .int .i64 j.v.j, .int .i64 j.v.n, sv, .int .i64 j.a.k, .int .i64 j.a.i, .int .i64 j.a.j, .int .i64 j.a.n, sa, .int .i64 j.i] := by simpa [Value.cells] using hcs
  rw [show cs = #[.bool j.eq, .int .i64 j.u.k, .int .i64 j.u.i, .int .i64 j.u.j, .int .i64 j.u.n, su, .int .i64 j.v.k, .int .i64 j.v.i, .int .i64 j.v.j, .int .i64 j.v.n, sv, .int .i64 j.a.k, .int .i64 j.a.i, .int .i64 j.a.j, .int .i64 j.a.n, sa, .int .i64 j.i] from by cases cs; simp_all]
end Go.Proofs.Ytjlppnmckobcfaa

namespace Go.Proofs.Ytjlppnmckobcfaa
open Go.ChangeShapes Go.WideShapes

def code (l : List Nat) : List Char := l.map Char.ofNat
def joinN : List (List Nat) → List Nat
  | [] => []
  | [a] => a
  | a :: b :: r => a ++ 32 :: joinN (b :: r)

theorem words_one : ∀ a : List Nat, (a.all fun n => Char.ofNat n != Char.ofNat 32) = true → wordsSigns (code a) = [code a]
  | [], _ => rfl
  | n :: a, h => by
    simp only [List.all_cons, Bool.and_eq_true, bne_iff_ne] at h
    have ih := words_one a h.2
    show wordsSigns (Char.ofNat n :: code a) = _
    rw [wordsSigns]
    · rw [ih]; rfl
    · exact h.1
theorem words_more : ∀ (a : List Nat) (r : List Char), (a.all fun n => Char.ofNat n != Char.ofNat 32) = true → wordsSigns (code a ++ Char.ofNat 32 :: r) = code a :: wordsSigns r
  | [], r, _ => by
    show wordsSigns (Char.ofNat 32 :: r) = _
    rw [show Char.ofNat 32 = _ from rfl, wordsSigns]; rfl
  | n :: a, r, h => by
    simp only [List.all_cons, Bool.and_eq_true, bne_iff_ne] at h
    have ih := words_more a r h.2
    show wordsSigns (Char.ofNat n :: (code a ++ Char.ofNat 32 :: r)) = _
    rw [wordsSigns]
    · rw [ih]; rfl
    · exact h.1
theorem words_join : ∀ ws : List (List Nat), ws ≠ [] → (ws.all fun w => w.all fun n => Char.ofNat n != Char.ofNat 32) = true → wordsSigns (code (joinN ws)) = ws.map code
  | [], h, _ => absurd rfl h
  | [a], _, h => by simp only [List.all_cons, List.all_nil, Bool.and_true] at h; exact words_one a h
  | a :: b :: r, _, h => by
    have h' := h
    rw [List.all_cons, Bool.and_eq_true] at h'
    have ih := words_join (b :: r) (by simp) h'.2
    show wordsSigns (code (a ++ 32 :: joinN (b :: r))) = _
    rw [show code (a ++ 32 :: joinN (b :: r)) = code a ++ Char.ofNat 32 :: code (joinN (b :: r)) from by simp [code], words_more a _ h'.1, ih]; rfl

def cutWords : List (List Nat) := [[104, 97, 114, 110, 101, 115, 115],
  [53, 51, 99, 49, 102, 98, 57, 98, 51, 97, 52, 49, 101, 52, 53, 56, 97, 102, 52, 48, 48, 52, 56, 50, 53, 54, 51, 100, 99, 49, 99, 51, 53, 49, 50, 99, 57, 54, 97, 98, 49, 102, 50, 51, 99, 55, 102, 102, 97, 54, 49, 97, 97, 52, 99, 99, 52, 101, 100, 101, 50, 99, 101, 51],
  [99, 117, 116],
  [97, 116],
  [116, 114, 97, 110, 115, 104, 105, 112, 47, 116, 114, 97, 110, 115, 104, 105, 112, 108, 97, 119, 49, 53, 46, 80, 114, 101, 109, 105, 115, 101, 69, 120, 97, 99, 116],
  [116, 114, 97, 110, 115, 104, 105, 112, 47, 116, 114, 97, 110, 115, 104, 105, 112, 108, 97, 119, 49, 53, 46, 82, 117, 108, 101, 82, 105, 103, 104, 116],
  [116, 114, 97, 110, 115, 104, 105, 112, 47, 116, 114, 97, 110, 115, 104, 105, 112, 108, 97, 119, 49, 53, 46, 82, 117, 108, 101, 84, 117, 114, 110, 101, 100],
  [116, 114, 97, 110, 115, 104, 105, 112, 47, 116, 114, 97, 110, 115, 104, 105, 112, 108, 97, 119, 49, 53, 46, 82, 117, 108, 101, 76, 101, 118, 101, 108, 115]]

set_option maxRecDepth 100000 in
theorem cut_words : wordsSigns Try.prog.initOrder.toList = cutWords.map code := by
  have h : Try.prog.initOrder.toList = code (joinN cutWords) := by
    show (String.ofList (code (joinN cutWords))).toList = _
    exact String.toList_ofList
  rw [h]
  exact words_join cutWords (by simp [cutWords]) (by decide +kernel)

theorem cut_behind : behindMainWord (cutWords.map code) = code [99, 117, 116] :: cutWords.tail.tail.tail.map code := by kernel_rfl
theorem cut_lifts : stripLifts liftWords (code [99, 117, 116] :: cutWords.tail.tail.tail.map code) = ([], code [99, 117, 116] :: cutWords.tail.tail.tail.map code) := by kernel_rfl
theorem cut1 : (code [99, 117, 116] == "gc".toList) = false := by kernel_rfl
theorem cut2 : (code [99, 117, 116] == "spec".toList) = false := by kernel_rfl
theorem cut3 : (code [99, 117, 116] == "cut".toList) = true := by kernel_rfl
theorem cut_all : behindMainWord (wordsSigns Try.prog.initOrder.toList) = code [99, 117, 116] :: cutWords.tail.tail.tail.map code := by rw [cut_words, cut_behind]
theorem make_of (P : Program) {c : List Char} {rest : List (List Char)} (h : behindMainWord (wordsSigns P.initOrder.toList) = c :: rest) (h1 : (c == "gc".toList) = false) (h2 : (c == "spec".toList) = false) (h3 : (c == "cut".toList) = true) : P.make = some .cut := by
  unfold Program.make; rw [h]
  simp only [h1, h2, h3, Bool.or_self, Bool.false_eq_true, if_false, Bool.true_or, if_true]
theorem mayEnter_of (P : Program) {c : List Char} {rest : List (List Char)} (h : behindMainWord (wordsSigns P.initOrder.toList) = c :: rest) (h3 : ((stripLifts liftWords (c :: rest)).2.head? == some "cut".toList) = true)
    (h4 : (stripLifts liftWords (c :: rest)).1 = []) (h5 : P.laysLater = false) (h6 : P.bearsReflect = false) (h7 : P.doorFits [] = true) : P.mayEnter = true := by
  unfold Program.mayEnter; rw [h]
  refine Bool.or_eq_true_iff.2 (Or.inr ?_)
  rw [h3, h4, h5, h6, h7]; rfl
theorem row_make : Try.prog.make = some .cut := make_of Try.prog cut_all cut1 cut2 cut3
theorem row_mayEnter : Try.prog.mayEnter = true := mayEnter_of Try.prog cut_all (by rw [cut_lifts]; kernel_rfl) (by rw [cut_lifts]) (by kernel_rfl) (by kernel_rfl) (by kernel_rfl)
theorem row_lifts : Try.prog.liftsFinal = false := by unfold Program.liftsFinal Program.headLifts; rw [cut_all, cut_lifts]; kernel_rfl
end Go.Proofs.Ytjlppnmckobcfaa

namespace Go.Proofs.Ytjlppnmckobcfaa.lawRuleTurned
open Go.ChangeShapes Go.WideShapes Go.ChangeAt Go.RowKit

set_option maxRecDepth 100000 in
theorem lifted (os : Os) (started : os.Started) (H : Type) (enc : TypeId × Value → H) :
    ReturnsInHanded {} Try.checked os 5 .any (Rows.ruleTurnedSpec.pre6 enc Try.prog Try.f5 Rows.ruleTurnedRow.domain false) (Rows.ruleTurnedSpec.post enc Try.prog Try.f5 false true false false) := by
  refine returnsInHanded_of_change (C := Try.checked) own started (by kernel_rfl) Try.func5
    (ChangeSpec.witness6 (enc := enc) (C := Try.checked) false ⟨#[], #[.slice none 0 0, .agg #[.bool false, .int .i64 0, .int .i64 0, .int .i64 0, .int .i64 0, .slice none 0 0, .int .i64 0, .int .i64 0, .int .i64 0, .int .i64 0, .slice none 0 0, .int .i64 0, .int .i64 0, .int .i64 0, .int .i64 0, .slice none 0 0, .int .i64 0]], []⟩ 8 (by kernel_rfl) (by kernel_rfl) (by kernel_rfl) (by kernel_rfl)) ?_
  intro W base args ds gs before hval0 hW hcnd _
  have hval : ∀ (j : Nat) t v, Try.f5.params[j]? = some t → args[j]? = some v → Value.okWide Try.prog W .any base t v := hval0
  have hW' := hW
  obtain ⟨p, q, hA0, hV, rfl, hfz, hnd⟩ := hW
  have hA : DataW.TrodAll enc Try.prog W 0 (fun _ => true) true Try.f5.params.toList args.toList ds p := hA0
  rw [Try.params5] at hA hval
  obtain ⟨v0, vs0, d0, ds0, p0, q0, hargs0, rfl, rfl, h0, r0⟩ := trodAll_cons hA
  obtain ⟨v1, vs1, d1, ds1, p1, q1, hargs1, rfl, rfl, h1, r1⟩ := trodAll_cons r0
  obtain ⟨rfl, rfl, rfl⟩ := trodAll_nil r1
  obtain rfl : args = #[v0, v1] := by cases args; simp_all
  obtain ⟨rfl, rfl⟩ := trodVars_none hV
  have h0k := h0
  have hlt0 : ∀ x ∈ p0, x.block < W.heap.size := fun x hx => by have := hW'.lt x (by simp [hx]); simpa using this
  obtain ⟨l0, hl0⟩ := open_argE (hval 0 22 v0 rfl rfl) h0
  have h1k := h1
  have hlt1 : ∀ x ∈ p1, x.block < W.heap.size := fun x hx => by have := hW'.lt x (by simp [hx]); simpa using this
  obtain ⟨t1, su1, sv1, sa1, hl1, hf1, hv1⟩ := open_argJ (hval 1 34 v1 rfl rfl) h1
  subst hv1
  clear hA0 hval0
  simp only [List.append_nil] at hW'
  refine (ruleTurned_any l0 t1 W _ su1 sv1 sa1 hl0 hl1 hf1).mono fun e W' ⟨he, hb⟩ => ?_
  subst he
  exact ⟨_, rfl, _, _, _, [], _, [], hW', trodAll_cons_mk (shut_bool Try.underlying4 _) trodAll_mk0, (trodAll_cons_mk (Below.trod laidOut (by kernel_rfl) (of_decide_eq_true (by kernel_rfl)) h0k hb hlt0) (trodAll_cons_mk (Below.trod laidOut (by kernel_rfl) (of_decide_eq_true (by kernel_rfl)) h1k hb hlt1) trodAll_mk0)), rfl, hb.frame _, fun h => by cases h⟩

theorem closed : joinedFacts Try.prog 5 Try.f5 Rows.ruleTurnedSpec Rows.ruleTurnedRow = true := by
  unfold joinedFacts
  rw [row_mayEnter, row_lifts, row_make]
  kernel_rfl

theorem proved : Rows.RuleTurnedSaid :=
  OpenClaim.holds_of_wide 5 Try.f5 rfl rfl rfl rfl rfl rfl rfl ⟨rfl, rfl, rfl, rfl, rfl⟩ rfl rfl rfl rfl rfl (by kernel_rfl) Try.func5 closed
    (of_decide_eq_true (by kernel_rfl)) (by unfold Func.isWrapper; first | (rw [if_pos (by decide +kernel)]; kernel_rfl) | (rw [if_neg (by decide +kernel)]; exact ⟨rfl, rfl⟩))
    (fun os started H enc _ => lifted os started H enc)
#print axioms proved
end Go.Proofs.Ytjlppnmckobcfaa.lawRuleTurned
