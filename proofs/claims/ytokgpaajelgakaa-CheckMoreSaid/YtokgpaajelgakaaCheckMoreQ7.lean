/-
  CheckMore holds: for every input the call returns true, and the arguments read as before. No condition.
-/
import Derived.WalkKit
import Derived.Lib.Hide
import Derived.Deep.RegionHeld3
import Derived.Test.YtokgpaajelgakaaRows
import Derived.KernelRfl
import Derived.Deep.RegionWith
import Derived.Deep.AppendLies
import Derived.Laws.Rows
import Derived.Laws.IdiomCopy
import Derived.Deep.Slices
import Derived.Deep.QuietTactic
import Derived.BigQuiet
import Derived.Lib.QuietBelow
import Derived.StillTailTactics
import Derived.IntWalk
import Derived.OwnWalk
import Derived.OrdersHeld
import Derived.Deep.DeepCutAuto
import Derived.Maps.AppendAt
import Derived.Lib.Builder
import Derived.Deep.RegionLaw
import Derived.Below
import Derived.Laws.CopyRow
import Derived.Lib.MinMax
import Derived.Deep.LoopGhost
import Derived.Deep.MidRow
import Derived.Laws.Tables
import Derived.Laws.CopyOwn
import Derived.Deep.RegionHeld
import Derived.Deep.Upon
import Derived.ArgAppend
import Derived.Laws.EntriesVeiled
import GoSem.Core.Float
import Derived.ProofKit
import Derived.LoopTactic
import Derived.Laws.Cover2
import Derived.Laws.FloatArith
import Derived.Laws.Externs
import Derived.RowKit
import Derived.Deep.Cut
import Derived.Deep.CutBlock
import Derived.OpenShut
import Derived.Carry
import Derived.ChangeSlices
import Derived.JoinedOf
import Derived.Test.YtokgpaajelgakaaCheckMoreQ6
namespace Go.Proofs.Ytokgpaajelgakaa.Ck
open Go Go.RowKit
open Se (ofB Sml sizeJ zJ)
def GivesTP (P : Nat → Prop) (x : CR) (w : World) (e : Ending) (w' : World) : Prop := Kept w w' ∧ match x with
 | .ok j => ∃ su sv sa, e = .returned (.tuple #[jv j su sv sa, .int .i64 0, .slice none 0 0]) ∧ j.fine ∧ LiesQ w' (fun b => P b ∨ w.heap.size ≤ b) j.u.kids su ∧ LiesQ w' (fun b => P b ∨ w.heap.size ≤ b) j.v.kids sv ∧ LiesQ w' (fun b => P b ∨ w.heap.size ≤ b) j.a.kids sa
 | .error (er, q) => ∃ pv, e = .returned (.tuple #[.agg zAgg, .int .i64 er, pv]) ∧ RowI w.heap.size w' pv q
abbrev GivesTQ (N : Nat) := GivesTP (fun b => b < N)
def GivesT (x : CR) (w : World) (e : Ending) (w' : World) : Prop := Kept w w' ∧ match x with
 | .ok j => ∃ su sv sa, e = .returned (.tuple #[jv j su sv sa, .int .i64 0, .slice none 0 0]) ∧ j.fine ∧ JLies w' j su sv sa
 | .error (er, q) => ∃ pv, e = .returned (.tuple #[.agg zAgg, .int .i64 er, pv]) ∧ LiesI w' q pv
theorem RowI.lies {N0 : Nat} {w : World} {pv : Value} {p : List Int} (h : RowI N0 w pv p) : LiesI w p pv := by
 rcases h with ⟨rfl, rfl⟩ | ⟨g, cap, cur, rfl, -, hh, h1, h2, h3, h4, -⟩
 ·exact ⟨none, 0, rfl, Nat.le_refl _, by decide, fun _ h => by cases h⟩
 ·refine ⟨_, cap, rfl, h1, h2, fun i hi => ⟨g, 0, rfl, ?_⟩⟩
  rw [Lib.cell_of_heap hh, Nat.zero_add]
  have := congrArg (fun l => l[i]?) h4
  simp only [List.getElem?_take, if_pos hi, List.getElem?_map, List.getElem?_eq_getElem hi, Option.map_some] at this
  simpa using this
theorem fresh_any {w W : World} {T : TypeId} {old new : Array Value} (hW : (w.alloc (.cells old T)).setRow w.heap.size new = W) : Kept w W ∧ W.heap[w.heap.size]? = some (Obj.cells new T (0, 0)) ∧ W.heap.size = w.heap.size + 1 :=
 ⟨setRow_kept hW (((Below.refl w.heap.size w).alloc (Nat.le_refl _) _) : Kept w _) (Nat.le_refl _), by subst hW; exact setRow_heap _ _ _ _ _ _ (alloc_new _ _), by subst hW; simp⟩
theorem rowI_set {N0 : Nat} {w' W : World} {g : Nat} {old new : Array Value} {pv : Value} {p : List Int} (hW : w'.setRow g new = W) (h : w'.heap[g]? = some (Obj.cells old 33 (0, 0))) (hr : RowI N0 w' pv p) : RowI N0 W pv p := by
 subst hW
 exact hr.same fun b _ hb => setRow_other w' g b _ fun e => by subst e; exact not_row h (by decide) hb
def ckr_0 : Oper := { dst := some 31, op := .build 33 #[], type := 33, pos := "check.go:23", after := #[], guard := none }
def ckr_1 : Oper := { dst := some 32, op := .move (.tmp 11), type := 34, pos := "check.go:23", after := #[{ on := 4, ground := .gcOnly .lateStores }], guard := none }
def ckr_2 : Oper := { dst := some 33, op := .fieldAddr 61 (.tmp 9) 1, type := 0, pos := "check.go:23", after := #[{ on := 5, ground := .gcOnly .lateStores }], guard := none }
def ckr_3 : Oper := { dst := some 34, op := .load 35 (.tmp 33), type := 35, pos := "check.go:23", after := #[{ on := 2, ground := .data }, { on := 5, ground := .gcOnly .lateStores }], guard := none }
def ckr_4 : Oper := { dst := none, op := .store 33 (.tmp 6) (.tmp 31), type := 0, pos := "check.go:23", after := #[{ on := 0, ground := .data }, { on := 0, ground := .phase }, { on := 1, ground := .textOnly .lateStores }, { on := 2, ground := .textOnly .lateStores }, { on := 3, ground := .textOnly .lateStores }], guard := none }
def ckr_5 : Oper := { dst := some 7, op := .assign (.tmp 32), type := 34, pos := "check.go:23", after := #[{ on := 1, ground := .data }, { on := 4, ground := .chain }, { on := 0, ground := .phase }, { on := 1, ground := .phase }, { on := 2, ground := .textOnly .lateStores }, { on := 3, ground := .textOnly .lateStores }, { on := 4, ground := .phase }], guard := none }
def ckr_6 : Oper := { dst := some 8, op := .assign (.tmp 34), type := 35, pos := "check.go:23", after := #[{ on := 3, ground := .data }, { on := 5, ground := .chain }, { on := 0, ground := .phase }, { on := 1, ground := .phase }, { on := 2, ground := .phase }, { on := 3, ground := .phase }, { on := 4, ground := .phase }, { on := 5, ground := .phase }], guard := none }
set_option maxRecDepth 20000 in
set_option maxHeartbeats 8000000 in
theorem ckJudgeP_any (P : Nat → Prop) (m : Nat) (hm : Mild m) (d : Dv.Tm) (c : List En) (w0 w : World) (hk0 : Kept w0 w) (sc s : Value) (hlc : Se.LiesEQ w0 P c sc) (hl : Dv.Lies w0 d.kids s) (hcs : c.length + d.size ≤ 101) (hsc : Smc c) :
  Calls Try.prog 9 #[sc, Dv.tv d s, .float .f64 m] w (GivesTP P (judgeT m c d) w) := by
 obtain ⟨a, cap, S, rfl, hc, hmx, -, -, -⟩ := hl.out
 obtain ⟨dj, dj1, dj2⟩ := under_of 33 (by kernel_rfl)
 unfold Dv.tv
 have HL := Lib.hid hl
 have HC := Lib.hid hlc
 have HK0 := Lib.hid hk0
 have hz0 := hk0.size
 clear hl hlc hk0
 go_enter Try.func9, Try.ntmps9
 go_upto_region 1 with fail
 obtain ⟨V, hV⟩ : ∃ V, (w.alloc (.cells #[.int .i64 d.k, .int .i64 d.i, .slice a d.kids.length cap] 25)).alloc (.cells zAgg 33) = V := ⟨_, rfl⟩
 obtain ⟨hkV, hb0, hb1, hsV⟩ := alloc2 hV
 rw [hV]
 have HKV := Lib.hid hkV
 have HB1 := Lib.hid hb1
 have HSV := Lib.hid hsV
 have y0 : V.cell? ⟨w.heap.size, 0, none⟩ = some (.int .i64 d.k) := by rw [Lib.cell_of_heap hb0]; rfl
 have y1 : V.cell? ⟨w.heap.size, 1, none⟩ = some (.int .i64 d.i) := by rw [Lib.cell_of_heap hb0]; rfl
 have y2 : V.cell? ⟨w.heap.size, 2, none⟩ = some (.slice a d.kids.length cap) := by rw [Lib.cell_of_heap hb0]; rfl
 have HB0 := Lib.hid hb0
 clear hV hkV hb0 hb1 hsV
 cases hr : d.rightB with
 | false =>
  as_aux_lemma =>
   have HJ := Lib.hid (show judgeT m c d = .error (1, []) by unfold judgeT; rw [hr]; rfl)
   have HR := Lib.hid hr
   clear hr
   go_wp2_with fail
   refine (Dv.dright_any d _ _ (HL.out.keep (kept_trans HK0.out HKV.out))).mono ?_
   rintro e w1 ⟨rfl, hk1⟩
   rw [HR.out]
   have HK1 := Lib.hid (kept_trans HKV.out hk1)
   have HB1n := Lib.hid ((Below.block hk1 _ (by have := HSV.out; omega)).trans HB1.out)
   clear y0 y1 y2 hk1
   go_wp2_with (refine stop_store 33 (.tmp 6) (.tmp 20) rfl ?_)
   intro _
   refine wpList_store_part_n (by rfl) 33 (.tmp 6) (.tmp 20) rfl (w.heap.size + 1) 0 zAgg (by rfl) (by rfl) 33 (by kernel_rfl) (row_ok rfl) ?_
   intro W hW
   subst hW
   refine ⟨_, zAgg, HB1n.out, rfl, Nat.le_of_ble_eq_true rfl, ?_⟩
   intro W2 hW2
   go_wp2_with fail
   (try simp only [Exit.inBlock, Exit.then])
   refine bodyPost_ret (results_cell_tmp2 rfl _ _ (w.heap.size + 1) 33 _ _ dj rfl (setRow_new hW2 HB1n.out) dj1 (by cases dj <;> first | rfl | exact dj2) (by kernel_rfl)) rfl ?_
   rw [HJ.out]
   exact ⟨setRow_kept hW2 HK1.out (by omega), _, rfl, Or.inl ⟨rfl, rfl⟩⟩
 | true =>
  have HR := Lib.hid hr
  cases hp : purC c with
  | false =>
   as_aux_lemma =>
    have HJ := Lib.hid (show judgeT m c d = .error (1, []) by unfold judgeT; rw [hr, hp]; rfl)
    have HP := Lib.hid hp
    clear hr hp
    go_wp2_with fail
    refine (Dv.dright_any d _ _ (HL.out.keep (kept_trans HK0.out HKV.out))).mono ?_
    rintro e w1 ⟨rfl, hk1⟩
    rw [HR.out]
    have HK1 := Lib.hid (kept_trans HKV.out hk1)
    have HB1n := Lib.hid ((Below.block hk1 _ (by have := HSV.out; omega)).trans HB1.out)
    clear y0 y1 y2 hk1
    go_wp2_with fail
    refine (ckpure_any c _ _ ((Se.liesEQ_lies HC.out).keep (kept_trans HK0.out HK1.out))).mono ?_
    rintro e w2 ⟨rfl, hk2⟩
    rw [HP.out]
    have HK2 := Lib.hid (kept_trans HK1.out hk2)
    have HB2n := Lib.hid ((Below.block hk2 _ (Array.getElem?_eq_some_iff.1 HB1n.out).1).trans HB1n.out)
    clear hk2
    go_wp2_with (refine stop_store 33 (.tmp 6) (.tmp 20) rfl ?_)
    intro _
    refine wpList_store_part_n (by rfl) 33 (.tmp 6) (.tmp 20) rfl (w.heap.size + 1) 0 zAgg (by rfl) (by rfl) 33 (by kernel_rfl) (row_ok rfl) ?_
    intro W hW
    subst hW
    refine ⟨_, zAgg, HB2n.out, rfl, Nat.le_of_ble_eq_true rfl, ?_⟩
    intro W2 hW2
    go_wp2_with fail
    (try simp only [Exit.inBlock, Exit.then])
    refine bodyPost_ret (results_cell_tmp2 rfl _ _ (w.heap.size + 1) 33 _ _ dj rfl (setRow_new hW2 HB2n.out) dj1 (by cases dj <;> first | rfl | exact dj2) (by kernel_rfl)) rfl ?_
    rw [HJ.out]
    exact ⟨setRow_kept hW2 HK2.out (by omega), _, rfl, Or.inl ⟨rfl, rfl⟩⟩
  | true =>
   have HJ := Lib.hid (show judgeT m c d = judgeB m c d by unfold judgeT; rw [hr, hp]; rfl)
   have hfd := dright_fine hr
   have HP := Lib.hid hp
   clear hr hp
   go_wp2_with fail
   refine (Dv.dright_any d _ _ (HL.out.keep (kept_trans HK0.out HKV.out))).mono ?_
   rintro e w1 ⟨rfl, hk1⟩
   rw [HR.out]
   have HK1 := Lib.hid (kept_trans HKV.out hk1)
   have HB1n := Lib.hid ((Below.block hk1 _ (by have := HSV.out; omega)).trans HB1.out)
   have HB0n := Lib.hid ((Below.block hk1 _ (Array.getElem?_eq_some_iff.1 HB0.out).1).trans HB0.out)
   clear y0 y1 y2 hk1
   go_wp2_with fail
   refine (ckpure_any c _ _ ((Se.liesEQ_lies HC.out).keep (kept_trans HK0.out HK1.out))).mono ?_
   rintro e w2 ⟨rfl, hk2⟩
   rw [HP.out]
   have HK2 := Lib.hid (kept_trans HK1.out hk2)
   have HB2n := Lib.hid ((Below.block hk2 _ (Array.getElem?_eq_some_iff.1 HB1n.out).1).trans HB1n.out)
   have HB3n := Lib.hid ((Below.block hk2 _ (Array.getElem?_eq_some_iff.1 HB0n.out).1).trans HB0n.out)
   clear hk2
   go_wp2_with (refine stop_store 61 (.tmp 9) (.tmp 22) rfl ?_)
   intro _
   refine wpList_store_part_n (by rfl) 61 (.tmp 9) (.tmp 22) rfl (w2.heap.size) 0 #[.float .f64 m, .slice none 0 0] (by rfl) (by rfl) 61 (by kernel_rfl) (row_ok rfl) ?_
   intro W hW
   subst hW
   refine ⟨_, #[.float .f64 m, .slice none 0 0], alloc_new _ _, rfl, Nat.le_of_ble_eq_true rfl, ?_⟩
   intro W3 hW3
   obtain ⟨hk3, hb3, hs3⟩ := fresh_any hW3
   obtain ⟨K, hK⟩ : ∃ K, w2.heap.size = K := ⟨_, rfl⟩
   rw [hK] at hb3 hs3
   rw [hK]
   have HK3 := Lib.hid (kept_trans HK2.out hk3)
   have HR3 := Lib.hid ((Below.block hk3 _ (Array.getElem?_eq_some_iff.1 HB2n.out).1).trans HB2n.out)
   have hb0' := (Below.block hk3 _ (Array.getElem?_eq_some_iff.1 HB3n.out).1).trans HB3n.out
   have y0 : W3.cell? ⟨w.heap.size, 0, none⟩ = some (.int .i64 d.k) := by rw [Lib.cell_of_heap hb0']; rfl
   have y1 : W3.cell? ⟨w.heap.size, 1, none⟩ = some (.int .i64 d.i) := by rw [Lib.cell_of_heap hb0']; rfl
   have y2 : W3.cell? ⟨w.heap.size, 2, none⟩ = some (.slice a d.kids.length cap) := by rw [Lib.cell_of_heap hb0']; rfl
   have hwK : w.heap.size + 1 < K := by have := (Array.getElem?_eq_some_iff.1 HB2n.out).1; omega
   have HST := Lib.hid (show St w.heap.size K m (.slice none 0 0) [] W3 from ⟨hb3, by omega, Or.inl ⟨rfl, rfl⟩⟩)
   have HCALL := Lib.hid (ckjudge_any w.heap.size K m hm d c W3 sc (.slice a d.kids.length cap) (.slice none 0 0) [] (fun b => P b ∧ b < w0.heap.size) (Se.liesEQ_keep HC.out (fun b _ hb => (kept_trans HK0.out HK3.out).block b hb) (fun b h hlt => ⟨h, hlt⟩)) (HL.out.keep (kept_trans HK0.out HK3.out)) hfd HST.out hcs hsc (by simp; omega))
   clear hb0' hW3 hk3 hb3 hs3 hK
   go_wp2_with fail
   cases hx : judgeB m c d with
   | error ea =>
    obtain ⟨er, q⟩ := ea
    have her := judgeB_err m _ _ hx
    have HCE := HCALL.out
    rw [hx] at HCE
    have HCE2 := Lib.hid HCE
    have HX := Lib.hid hx
    clear HCALL HCE hx
    refine HCE2.out.mono ?_
    rintro e w4 ⟨hf4, pv4, rfl, hs4⟩
    obtain ⟨ap, cp, he, hpc, hpm⟩ := hs4.row.slc
    subst he
    have HK4 := Lib.hid ((((Fr.of HK3.out : Fr w.heap.size K w W3).trans hf4).kept rfl) : Kept w w4)
    have hr4 := (hf4.block (w.heap.size + 1) (Array.getElem?_eq_some_iff.1 HR3.out).1 (Or.inr ⟨by omega, not_row HR3.out (by decide)⟩)).trans HR3.out
    have HST4 := Lib.hid hs4
    have HR4 := Lib.hid hr4
    clear hs4 hr4 HCE2
    rcases her with her | her
    ·obtain rfl : er = 3 := her
     go_wp2_with (refine stop_store 33 (.tmp 10) (.tmp 27) rfl ?_)
     intro _
     refine wpList_store_part_n (by rfl) 33 (.tmp 10) (.tmp 27) rfl (w4.heap.size) 0 zAgg (by rfl) (by rfl) 33 (by kernel_rfl) (row_ok rfl) ?_
     intro W hW
     subst hW
     refine ⟨_, zAgg, alloc_new _ _, rfl, Nat.le_of_ble_eq_true rfl, ?_⟩
     intro w5 hwn
     have hfr := fresh_judg hwn
     clear hwn
     have hk5 := hfr.1
     go_upto_region 6 with fail
     have HST5 := Lib.hid (HST4.out.later hk5)
     have HR5 := Lib.hid ((Below.block hk5 _ (Array.getElem?_eq_some_iff.1 HR4.out).1).trans HR4.out)
     have HK5 := Lib.hid (kept_trans HK4.out hk5)
     clear hk5 hfr
     have k1 := HST5.out.cells.2
     have HNK := Lib.hid (show K ≠ w.heap.size + 1 by omega)
     have HK5D := Lib.hid (show Kept w w5.drew from ⟨HK5.out.os, HK5.out.tape, HK5.out.output, HK5.out.size, fun b hb => HK5.out.block b hb⟩)
     refine wp_region_held_drew (S := fun w' => w'.cell? ⟨K, 1, none⟩ = some (.slice ap ([] ++ q).length cp) ∧ w'.heap[w.heap.size + 1]? = some (Obj.cells zAgg 33 (0, 0))) (by kernel_rfl) ?_ (fun hHeld => ?_)
     ·(try dsimp only)
      (first | exact ⟨(by rw [← hW2]; exact (cell_setRow_other _ _ _ _ (show _ ≠ _ from HNK.out)).trans k1), setRow_new hW2 HR5.out⟩ | exact ⟨k1, HR5.out⟩)
     refine take_at 0 31 ckr_0 (v := ?_) (Or.inl ⟨by rfl, ?_⟩) ?_
     rotate_left 1
     ·((intro w hSw; (try dsimp only at hSw); unfold ckr_0; go_simp) <;> with_reducible rfl)
     (try simp only [Act.put, List.setIfInBounds_toArray, List.set_cons_zero, List.set_cons_succ])
     refine take_at 1 32 ckr_1 (v := ?_) (Or.inl ⟨by rfl, ?_⟩) ?_
     rotate_left 1
     ·((intro w hSw; (try dsimp only at hSw); unfold ckr_1; go_simp) <;> with_reducible rfl)
     (try simp only [Act.put, List.setIfInBounds_toArray, List.set_cons_zero, List.set_cons_succ])
     refine take_at 2 33 ckr_2 (v := ?_) (Or.inl ⟨by rfl, ?_⟩) ?_
     rotate_left 1
     ·((intro w hSw; (try dsimp only at hSw); unfold ckr_2; go_simp) <;> with_reducible rfl)
     (try simp only [Act.put, List.setIfInBounds_toArray, List.set_cons_zero, List.set_cons_succ])
     refine take_at 3 34 ckr_3 (v := ?_) (Or.inl ⟨by rfl, ?_⟩) ?_
     rotate_left 1
     ·((intro w hSw; (try dsimp only at hSw); obtain ⟨hS0, hS1⟩ := hSw; unfold ckr_3; go_simp) <;> with_reducible rfl)
     (try simp only [Act.put, List.setIfInBounds_toArray, List.set_cons_zero, List.set_cons_succ])
     refine wpAnyH_ready (rs := [4]) (by kernel_rfl) (by simp) ?_
     refine AllReadyH.cons (o := ckr_4) rfl (fun K hK => ?_) ?_
     ·unfold ckr_4
      refine step_store_part rfl 33 (.tmp 6) (.tmp 31) rfl (w.heap.size + 1) 0 zAgg rfl rfl 33 (by kernel_rfl) (row_ok rfl) _ zAgg HR5.out rfl (Nat.le_of_ble_eq_true rfl) ?_
      intro W2 hW2
      refine hK.out _ _ ?_ (fun hHeld => ?_)
      ·(try dsimp only)
       (first | exact ⟨(by rw [← hW2]; exact (cell_setRow_other _ _ _ _ (show _ ≠ _ from HNK.out)).trans k1), setRow_new hW2 HR5.out⟩ | exact ⟨k1, HR5.out⟩)
      clear hK K
      (try simp only [Act.put])
      refine take_at 5 7 ckr_5 (v := ?_) (Or.inl ⟨by rfl, ?_⟩) ?_
      rotate_left 1
      ·((intro w hSw; (try dsimp only at hSw); unfold ckr_5; go_simp) <;> with_reducible rfl)
      (try simp only [Act.put, List.setIfInBounds_toArray, List.set_cons_zero, List.set_cons_succ])
      refine take_at 6 8 ckr_6 (v := ?_) (Or.inl ⟨by rfl, ?_⟩) ?_
      rotate_left 1
      ·((intro w hSw; (try dsimp only at hSw); unfold ckr_6; go_simp) <;> with_reducible rfl)
      (try simp only [Act.put, List.setIfInBounds_toArray, List.set_cons_zero, List.set_cons_succ])
      refine wpAnyH_done (by kernel_rfl) ?_ _
      clear hHeld
      go_wp2_with fail
      (try simp only [Exit.inBlock, Exit.then])
      refine bodyPost_ret (results_cell_tmp2 rfl _ _ (w.heap.size + 1) 33 _ _ dj rfl (setRow_new hW2 HR5.out) dj1 (by cases dj <;> first | rfl | exact dj2) (by kernel_rfl)) rfl ?_
      rw [HJ.out, HX.out]
      exact ⟨setRow_kept hW2 HK5D.out (by omega), _, rfl, by simpa using rowI_set hW2 HR5.out HST5.out.drew.row⟩
     exact AllReadyH.nil
    ·obtain rfl : er = 4 := her
     go_wp2_with (refine stop_store 33 (.tmp 10) (.tmp 27) rfl ?_)
     intro _
     refine wpList_store_part_n (by rfl) 33 (.tmp 10) (.tmp 27) rfl (w4.heap.size) 0 zAgg (by rfl) (by rfl) 33 (by kernel_rfl) (row_ok rfl) ?_
     intro W hW
     subst hW
     refine ⟨_, zAgg, alloc_new _ _, rfl, Nat.le_of_ble_eq_true rfl, ?_⟩
     intro w5 hwn
     have hfr := fresh_judg hwn
     clear hwn
     have hk5 := hfr.1
     go_upto_region 6 with fail
     have HST5 := Lib.hid (HST4.out.later hk5)
     have HR5 := Lib.hid ((Below.block hk5 _ (Array.getElem?_eq_some_iff.1 HR4.out).1).trans HR4.out)
     have HK5 := Lib.hid (kept_trans HK4.out hk5)
     clear hk5 hfr
     have k1 := HST5.out.cells.2
     have HNK := Lib.hid (show K ≠ w.heap.size + 1 by omega)
     have HK5D := Lib.hid (show Kept w w5.drew from ⟨HK5.out.os, HK5.out.tape, HK5.out.output, HK5.out.size, fun b hb => HK5.out.block b hb⟩)
     refine wp_region_held_drew (S := fun w' => w'.cell? ⟨K, 1, none⟩ = some (.slice ap ([] ++ q).length cp) ∧ w'.heap[w.heap.size + 1]? = some (Obj.cells zAgg 33 (0, 0))) (by kernel_rfl) ?_ (fun hHeld => ?_)
     ·(try dsimp only)
      (first | exact ⟨(by rw [← hW2]; exact (cell_setRow_other _ _ _ _ (show _ ≠ _ from HNK.out)).trans k1), setRow_new hW2 HR5.out⟩ | exact ⟨k1, HR5.out⟩)
     refine take_at 0 31 ckr_0 (v := ?_) (Or.inl ⟨by rfl, ?_⟩) ?_
     rotate_left 1
     ·((intro w hSw; (try dsimp only at hSw); unfold ckr_0; go_simp) <;> with_reducible rfl)
     (try simp only [Act.put, List.setIfInBounds_toArray, List.set_cons_zero, List.set_cons_succ])
     refine take_at 1 32 ckr_1 (v := ?_) (Or.inl ⟨by rfl, ?_⟩) ?_
     rotate_left 1
     ·((intro w hSw; (try dsimp only at hSw); unfold ckr_1; go_simp) <;> with_reducible rfl)
     (try simp only [Act.put, List.setIfInBounds_toArray, List.set_cons_zero, List.set_cons_succ])
     refine take_at 2 33 ckr_2 (v := ?_) (Or.inl ⟨by rfl, ?_⟩) ?_
     rotate_left 1
     ·((intro w hSw; (try dsimp only at hSw); unfold ckr_2; go_simp) <;> with_reducible rfl)
     (try simp only [Act.put, List.setIfInBounds_toArray, List.set_cons_zero, List.set_cons_succ])
     refine take_at 3 34 ckr_3 (v := ?_) (Or.inl ⟨by rfl, ?_⟩) ?_
     rotate_left 1
     ·((intro w hSw; (try dsimp only at hSw); obtain ⟨hS0, hS1⟩ := hSw; unfold ckr_3; go_simp) <;> with_reducible rfl)
     (try simp only [Act.put, List.setIfInBounds_toArray, List.set_cons_zero, List.set_cons_succ])
     refine wpAnyH_ready (rs := [4]) (by kernel_rfl) (by simp) ?_
     refine AllReadyH.cons (o := ckr_4) rfl (fun K hK => ?_) ?_
     ·unfold ckr_4
      refine step_store_part rfl 33 (.tmp 6) (.tmp 31) rfl (w.heap.size + 1) 0 zAgg rfl rfl 33 (by kernel_rfl) (row_ok rfl) _ zAgg HR5.out rfl (Nat.le_of_ble_eq_true rfl) ?_
      intro W2 hW2
      refine hK.out _ _ ?_ (fun hHeld => ?_)
      ·(try dsimp only)
       (first | exact ⟨(by rw [← hW2]; exact (cell_setRow_other _ _ _ _ (show _ ≠ _ from HNK.out)).trans k1), setRow_new hW2 HR5.out⟩ | exact ⟨k1, HR5.out⟩)
      clear hK K
      (try simp only [Act.put])
      refine take_at 5 7 ckr_5 (v := ?_) (Or.inl ⟨by rfl, ?_⟩) ?_
      rotate_left 1
      ·((intro w hSw; (try dsimp only at hSw); unfold ckr_5; go_simp) <;> with_reducible rfl)
      (try simp only [Act.put, List.setIfInBounds_toArray, List.set_cons_zero, List.set_cons_succ])
      refine take_at 6 8 ckr_6 (v := ?_) (Or.inl ⟨by rfl, ?_⟩) ?_
      rotate_left 1
      ·((intro w hSw; (try dsimp only at hSw); unfold ckr_6; go_simp) <;> with_reducible rfl)
      (try simp only [Act.put, List.setIfInBounds_toArray, List.set_cons_zero, List.set_cons_succ])
      refine wpAnyH_done (by kernel_rfl) ?_ _
      clear hHeld
      go_wp2_with fail
      (try simp only [Exit.inBlock, Exit.then])
      refine bodyPost_ret (results_cell_tmp2 rfl _ _ (w.heap.size + 1) 33 _ _ dj rfl (setRow_new hW2 HR5.out) dj1 (by cases dj <;> first | rfl | exact dj2) (by kernel_rfl)) rfl ?_
      rw [HJ.out, HX.out]
      exact ⟨setRow_kept hW2 HK5D.out (by omega), _, rfl, by simpa using rowI_set hW2 HR5.out HST5.out.drew.row⟩
     exact AllReadyH.nil
   | ok x =>
    have HCE := HCALL.out
    rw [hx] at HCE
    have HCE2 := Lib.hid HCE
    have HX := Lib.hid hx
    clear HCALL HCE hx
    refine HCE2.out.mono ?_
    rintro e w4 ⟨hf4, su, sv, sa, pv4, rfl, hs4, hfx, hu, hv, ha⟩
    obtain ⟨au, cu, Su, rfl, -⟩ := hu.out
    obtain ⟨av, cv, Sv, rfl, -⟩ := hv.out
    obtain ⟨aa, ca, Sa, rfl, -⟩ := ha.out
    have HK4 := Lib.hid ((((Fr.of HK3.out : Fr w.heap.size K w W3).trans hf4).kept rfl) : Kept w w4)
    have hr4 := (hf4.block (w.heap.size + 1) (Array.getElem?_eq_some_iff.1 HR3.out).1 (Or.inr ⟨by omega, not_row HR3.out (by decide)⟩)).trans HR3.out
    have hsz3 : K + 1 ≤ W3.heap.size := HST.out.lt
    have hsz4 := hf4.size
    go_wp2_with (refine stop_store 33 (.tmp 10) (.tmp 27) rfl ?_)
    intro _
    refine wpList_store_part_n (by rfl) 33 (.tmp 10) (.tmp 27) rfl (w4.heap.size) 0 #[.bool x.eq, .int .i64 x.u.k, .int .i64 x.u.i, .int .i64 x.u.j, .int .i64 x.u.n, (.slice au x.u.kids.length cu), .int .i64 x.v.k, .int .i64 x.v.i, .int .i64 x.v.j, .int .i64 x.v.n, (.slice av x.v.kids.length cv), .int .i64 x.a.k, .int .i64 x.a.i, .int .i64 x.a.j, .int .i64 x.a.n, (.slice aa x.a.kids.length ca), .int .i64 x.i] (by rfl) (by rfl) 33 (by kernel_rfl) (row_ok rfl) ?_
    intro W hW
    subst hW
    refine ⟨_, #[.bool x.eq, .int .i64 x.u.k, .int .i64 x.u.i, .int .i64 x.u.j, .int .i64 x.u.n, (.slice au x.u.kids.length cu), .int .i64 x.v.k, .int .i64 x.v.i, .int .i64 x.v.j, .int .i64 x.v.n, (.slice av x.v.kids.length cv), .int .i64 x.a.k, .int .i64 x.a.i, .int .i64 x.a.j, .int .i64 x.a.n, (.slice aa x.a.kids.length ca), .int .i64 x.i], alloc_new _ _, rfl, Nat.le_of_ble_eq_true rfl, ?_⟩
    intro W5 hwn
    have hfr := fresh_judg hwn
    clear hwn
    obtain ⟨hk5, hb5, hs5⟩ := hfr
    obtain ⟨E, hE⟩ : ∃ E, w4.heap.size = E := ⟨_, rfl⟩
    rw [hE] at hb5 hs5
    rw [hE]
    go_upto_region 7 with fail
    have HK5 := Lib.hid (kept_trans HK4.out hk5)
    have HR5 := Lib.hid ((Below.block hk5 _ (Array.getElem?_eq_some_iff.1 hr4).1).trans hr4)
    have HB5 := Lib.hid hb5
    have HU5 := Lib.hid (hu.later hk5)
    have HV5 := Lib.hid (hv.later hk5)
    have HA5 := Lib.hid (ha.later hk5)
    have HFX := Lib.hid hfx
    clear hk5 hb5 hs5 hE hu hv ha hfx hs4 hf4 HCE2
    go_wp2_with (refine stop_load 33 (.tmp 10) rfl ?_)
    intro _
    refine wpList_load_part (E) (0) 33 (.tmp 10) #[.bool x.eq, .int .i64 x.u.k, .int .i64 x.u.i, .int .i64 x.u.j, .int .i64 x.u.n, (.slice au x.u.kids.length cu), .int .i64 x.v.k, .int .i64 x.v.i, .int .i64 x.v.j, .int .i64 x.v.n, (.slice av x.v.kids.length cv), .int .i64 x.a.k, .int .i64 x.a.i, .int .i64 x.a.j, .int .i64 x.a.n, (.slice aa x.a.kids.length ca), .int .i64 x.i] dj HB5.out (by rfl) rfl (by rfl) (by rfl) dj1 (by cases dj <;> first | rfl | exact dj2) (by kernel_rfl) ?_
    go_wp2_with (refine stop_store 33 (.tmp 6) (.tmp 35) rfl ?_)
    intro _
    refine wpList_store_part_n (by rfl) 33 (.tmp 6) (.tmp 35) rfl (w.heap.size + 1) 0 #[.bool x.eq, .int .i64 x.u.k, .int .i64 x.u.i, .int .i64 x.u.j, .int .i64 x.u.n, (.slice au x.u.kids.length cu), .int .i64 x.v.k, .int .i64 x.v.i, .int .i64 x.v.j, .int .i64 x.v.n, (.slice av x.v.kids.length cv), .int .i64 x.a.k, .int .i64 x.a.i, .int .i64 x.a.j, .int .i64 x.a.n, (.slice aa x.a.kids.length ca), .int .i64 x.i] (by rfl) (by rfl) 33 (by kernel_rfl) (row_ok rfl) ?_
    intro W hW
    subst hW
    refine ⟨_, #[.bool x.eq, .int .i64 x.u.k, .int .i64 x.u.i, .int .i64 x.u.j, .int .i64 x.u.n, (.slice au x.u.kids.length cu), .int .i64 x.v.k, .int .i64 x.v.i, .int .i64 x.v.j, .int .i64 x.v.n, (.slice av x.v.kids.length cv), .int .i64 x.a.k, .int .i64 x.a.i, .int .i64 x.a.j, .int .i64 x.a.n, (.slice aa x.a.kids.length ca), .int .i64 x.i], HR5.out, rfl, Nat.le_of_ble_eq_true rfl, ?_⟩
    intro W2 hW2
    go_wp2_with fail
    (try simp only [Exit.inBlock, Exit.then])
    refine bodyPost_ret (results_cell_tmp2 rfl _ _ (w.heap.size + 1) 33 _ _ dj rfl (setRow_new hW2 HR5.out) dj1 (by cases dj <;> first | rfl | exact dj2) (by kernel_rfl)) rfl ?_
    rw [HJ.out, HX.out]
    have hzW : w.heap.size ≤ W3.heap.size := HK3.out.size
    have hne : ∀ b, ((P b ∧ b < w0.heap.size) ∨ W3.heap.size ≤ b) → b ≠ w.heap.size + 1 := fun b hb => by rcases hb with ⟨_, hb⟩ | hb <;> omega
    have hnw : ∀ b, ((P b ∧ b < w0.heap.size) ∨ W3.heap.size ≤ b) → (P b ∨ w.heap.size ≤ b) := fun b hb => by rcases hb with ⟨hb, _⟩ | hb; exact Or.inl hb; exact Or.inr (by omega)
    exact ⟨setRow_kept hW2 HK5.out (by omega), _, _, _, rfl, HFX.out, liesQ_set hW2 HU5.out hne hnw, liesQ_set hW2 HV5.out hne hnw, liesQ_set hW2 HA5.out hne hnw⟩
theorem ckJudgeQ_any (m : Nat) (hm : Mild m) (d : Dv.Tm) (c : List En) (w0 w : World) (hk0 : Kept w0 w) (sc s : Value) (hlc : LiesE w0 c sc) (hl : Dv.Lies w0 d.kids s) (hcs : c.length + d.size ≤ 101) (hsc : Smc c) :
  Calls Try.prog 9 #[sc, Dv.tv d s, .float .f64 m] w (GivesTQ w0.heap.size (judgeT m c d) w) :=
 ckJudgeP_any _ m hm d c w0 w hk0 sc s (Se.liesE_q hlc) hl hcs hsc
theorem ckJudge_any (m : Nat) (hm : Mild m) (d : Dv.Tm) (c : List En) (w : World) (sc s : Value) (hlc : LiesE w c sc) (hl : Dv.Lies w d.kids s) (hcs : c.length + d.size ≤ 101) (hsc : Smc c) :
  Calls Try.prog 9 #[sc, Dv.tv d s, .float .f64 m] w (GivesT (judgeT m c d) w) := by
 refine (ckJudgeQ_any m hm d c w w (kept_refl w) sc s hlc hl hcs hsc).mono fun e w' h => ?_
 obtain ⟨hk, h⟩ := h
 refine ⟨hk, ?_⟩
 cases hr : judgeT m c d with
 | ok j =>
  rw [hr] at h
  obtain ⟨su, sv, sa, rfl, hf, hu, hv, ha⟩ := h
  exact ⟨su, sv, sa, rfl, hf, hu.lies, hv.lies, ha.lies⟩
 | error ea =>
  obtain ⟨er, q⟩ := ea
  rw [hr] at h
  obtain ⟨pv, rfl, hp⟩ := h
  exact ⟨pv, rfl, hp.lies⟩
end Go.Proofs.Ytokgpaajelgakaa.Ck
namespace Go.Proofs.Ytokgpaajelgakaa.Dv
open Go.RowKit
mutual
def Tm.deep : Tm → Nat
  | .mk _ _ l => deeps l + 1
def deeps : List Tm → Nat
  | [] => 0
  | t :: r => max t.deep (deeps r)
end
theorem deeps_take (l : List Tm) (k : Nat) (h : k < l.length) : deeps (l.take (k + 1)) = max (deeps (l.take k)) (l[k]).deep := by
  induction l generalizing k with
  | nil => simp at h
  | cons a r ih =>
    cases k with
    | zero => simp [deeps]
    | succ k => simp only [List.take_succ_cons, deeps, List.getElem_cons_succ]; rw [ih k (by simpa using h)]; omega
theorem Tm.deep_eq (t : Tm) : t.deep = deeps t.kids + 1 := by cases t; rfl
theorem deep_le_size (t : Tm) : t.deep ≤ t.size := by
  induction t using Tm.ind with
  | h t ih =>
    rw [t.deep_eq, t.size_eq]
    have : ∀ l : List Tm, (∀ x ∈ l, x.deep ≤ x.size) → deeps l ≤ sizes l := by
      intro l hl
      induction l with
      | nil => simp [deeps]
      | cons a r ihr => simp only [deeps, sizes]; have := ihr (fun x hx => hl x (List.mem_cons_of_mem _ hx)); have := hl a List.mem_cons_self; omega
    have := this t.kids ih
    omega
end Go.Proofs.Ytokgpaajelgakaa.Dv
namespace Go.Proofs.Ytokgpaajelgakaa.Dv
open Go.RowKit
def Weighed (t : Tm) (most deep : Int) (w : World) (e : Ending) (w' : World) : Prop :=
 ∃ r : Int, e = .returned (.int .i64 r) ∧ 1 ≤ r ∧ r ≤ most + 1 ∧ (r ≤ most → r = t.size ∧ (t.deep : Int) ≤ deep + 1) ∧ Below w.heap.size w w'
set_option maxHeartbeats 800000 in
theorem dweigh_any (t : Tm) : ∀ (w : World) (s : Value) (most deep : Int), Lies w t.kids s → 0 ≤ most → most ≤ 100000 → -1 ≤ deep → deep ≤ 100000 →
  Calls Try.prog 25 #[tv t s, .int .i64 most, .int .i64 deep] w (Weighed t most deep w) := by
 induction t using Tm.ind with
 | h t ih =>
  intro w s most deep hl h0 h1 h2 h3
  obtain ⟨a, cap, S, rfl, hc, hm, hf, hn, hk⟩ := hl.out
  unfold tv
  have hsz := t.size_eq
  have hdp := t.deep_eq
  unfold maxLen at hm
  have IH := Lib.hid ih
  have HN := Lib.hid hn
  have HK := Lib.hid hk
  have HSZ := Lib.hid hsz
  have HDP := Lib.hid hdp
  clear ih hn hk hf hl hsz hdp
  by_cases hd : deep < 0
  ·go_enter Try.func25, Try.ntmps25
   go_wp2
   go_ret
   exact ⟨most + 1, rfl, by omega, by omega, fun h => by omega, (Below.refl _ _).alloc (Nat.le_refl _) _⟩
  go_enter Try.func25, Try.ntmps25
  have hcell : ∀ (wr : World), Below (w.heap.size + 1) (w.alloc (.cells #[.int .i64 t.k, .int .i64 t.i, .slice a t.kids.length cap] 25)) wr → wr.cell? ⟨w.heap.size, 2, none⟩ = some (.slice a t.kids.length cap) := fun wr h => by
   rw [h.cell (p := ⟨w.heap.size, 2, none⟩) (by exact Nat.lt_succ_self _), World.cell?_alloc_at _ _ _ _ rfl]; rfl
  have HC := Lib.hid hcell
  clear hcell
  go_wp2
  go_loopw [7, 8] (fun nv iv wr => ∃ (k : Nat) (n : Int), k ≤ t.kids.length ∧ iv = .int .i64 k ∧ nv = .int .i64 n ∧ 1 ≤ n ∧ n ≤ most + 1 ∧ Hid (n ≤ most → n = ((1 + sizes (t.kids.take k) : Nat) : Int) ∧ (deeps (t.kids.take k) : Int) ≤ deep) ∧
    Below (w.heap.size + 1) (w.alloc (.cells #[.int .i64 t.k, .int .i64 t.i, .slice a t.kids.length cap] 25)) wr) (fun _ i _ => t.kids.length - (intOf i).toNat)
  case atStart => exact ⟨0, 1, Nat.zero_le _, rfl, rfl, by omega, by omega, fun _ => ⟨by simp [sizes], by simp [deeps]; omega⟩, Below.refl _ _⟩
  case round =>
   obtain ⟨k, n, hk, rfl, rfl, hn1, hn2, hrel, hb⟩ := hrel
   have hc4 := HC.out wr hb
   have hb0 : Below w.heap.size w wr := ((Below.refl _ _).alloc (Nat.le_refl _) _).trans (hb.mono (by omega))
   by_cases hlt : k < t.kids.length
   ·by_cases hnm : n ≤ most
    ·obtain ⟨b, o, rfl, hx⟩ := HN.out k hlt
     have hy := hx.below hb0 hx.lt
     obtain ⟨c0, c1, c2⟩ := hy
     have hq := HK.out k hlt
     obtain ⟨a', cap', S', hS, -⟩ := hq.out
     rw [hS] at c2 hq
     have HQ := Lib.hid (hq.keep hb0)
     clear hS hq
     have HM := Lib.hid (List.getElem_mem hlt)
     have HT := Lib.hid (sizes_take t.kids k hlt)
     have HT2 := Lib.hid (deeps_take t.kids k hlt)
     go_wp2_with fail
     refine (IH.out _ HM.out _ _ _ _ HQ.out (by omega) (by omega) (by omega) (by omega)).mono ?_
     rintro e w' ⟨r, rfl, hr1, hr2, hr3, hb'⟩
     have HR3 := Lib.hid hr3
     have HB' := hb.trans (hb'.mono (by have := hb.size; simpa using this))
     clear hb' hb hb0 hc4 hr3
     go_wp2
     go_roundw
     case rel =>
      refine ⟨k + 1, n + r, by omega, by go_num, rfl, by omega, by omega, ?_, HB'⟩
      intro hle
      obtain ⟨e1, e2⟩ := hrel.out hnm
      obtain ⟨e3, e4⟩ := HR3.out (by omega)
      rw [HT.out, HT2.out, e1, e3]
      exact ⟨by simp; omega, by omega⟩
     case measure => simp [intOf]; omega
    ·go_wp2
     go_ret
     exact ⟨n, rfl, by omega, by omega, fun h => absurd h (by omega), hb0⟩
   ·have : k = t.kids.length := by omega
    subst this
    go_wp2
    all_goals go_ret
    all_goals
     refine ⟨n, rfl, by omega, by omega, fun h => ?_, hb0⟩
     obtain ⟨e1, e2⟩ := hrel.out h
     rw [List.take_length] at e1 e2
     rw [HSZ.out, HDP.out]
     exact ⟨by rw [e1]; simp; omega, by omega⟩
def NotGreat (t : Tm) (most : Int) (w : World) (e : Ending) (w' : World) : Prop :=
 ∃ g : Bool, e = .returned (.bool g) ∧ (g = false → (t.size : Int) ≤ most ∧ t.deep ≤ 201) ∧ Below w.heap.size w w'
set_option maxHeartbeats 800000 in
theorem dgreat_any (t : Tm) (w : World) (s : Value) (most : Int) (hl : Lies w t.kids s) (h0 : 0 ≤ most) (h1 : most ≤ 100000) :
  Calls Try.prog 14 #[tv t s, .int .i64 most] w (NotGreat t most w) := by
 obtain ⟨a, cap, S, hs, -⟩ := hl.out
 subst hs
 have HB : Below w.heap.size w (w.alloc (.cells #[.int .i64 t.k, .int .i64 t.i, .slice a t.kids.length cap] 25)) := (Below.refl _ _).alloc (Nat.le_refl _) _
 have HL := Lib.hid (hl.keep HB)
 clear hl
 unfold tv
 go_enter Try.func14, Try.ntmps14
 go_wp2_with fail
 refine (dweigh_any t _ _ _ _ HL.out h0 h1 (by omega) (by omega)).mono ?_
 rintro e w' ⟨r, rfl, hr1, hr2, hr3, hb'⟩
 have HR3 := Lib.hid hr3
 have HB' := HB.trans (hb'.mono HB.size)
 clear hr3 hb' HB
 go_wp2
 go_ret
 refine ⟨_, rfl, fun h => ?_, HB'⟩
 have hrm : r ≤ most := by simpa using h
 obtain ⟨e3, e4⟩ := HR3.out hrm
 omega
end Go.Proofs.Ytokgpaajelgakaa.Dv
namespace Go.Proofs.Ytokgpaajelgakaa.Ck
open Go Go.RowKit
open Se (ofB Sml sizeJ zJ)
theorem held_any (m : Nat) (w : World) : Calls Try.prog 8 #[.float .f64 m] w fun e w' => e = .returned (.float .f64 (heldB m)) ∧ w' = w := by
 cases h : (FloatKind.f64.format.order m 4652007308841189376 == some .gt) with
 | true =>
  have hb : heldB m = 4652007308841189376 := if_pos h
  rw [hb]
  go_enter Try.func8, Try.ntmps8
  go_wp2
  go_ret
  exact ⟨rfl, rfl⟩
 | false =>
  have hb : heldB m = m := if_neg (by rw [h]; decide)
  rw [hb]
  go_enter Try.func8, Try.ntmps8
  go_wp2
  go_ret
  exact ⟨rfl, rfl⟩
def HeavyG (c : List En) (d : Dv.Tm) (w : World) (e : Ending) (w' : World) : Prop :=
 ∃ g : Bool, e = .returned (.bool g) ∧ (g = false → c.length ≤ 60 ∧ (∀ x ∈ c, x.a.size ≤ 60) ∧ d.size ≤ 40) ∧ Kept w w'
set_option maxRecDepth 20000 in
set_option maxHeartbeats 4000000 in
theorem heavy_any (c : List En) (d : Dv.Tm) (w : World) (sc s : Value) (hc : LiesE w c sc) (hl : Dv.Lies w d.kids s) : Calls Try.prog 7 #[sc, Dv.tv d s] w (HeavyG c d w) := by
 obtain ⟨a, cap, S, rfl, -⟩ := hl.out
 unfold Dv.tv
 have HC := Lib.hid hc
 have HL := Lib.hid hl
 have hA : Kept w (w.alloc (.cells #[.int .i64 d.k, .int .i64 d.i, .slice a d.kids.length cap] 25)) := (Below.refl w.heap.size w).alloc (Nat.le_refl _) _
 have HA := Lib.hid hA
 clear hc hl hA
 go_enter Try.func7, Try.ntmps7
 go_upto_region 1 with fail
 have hb0 : (w.alloc (.cells #[.int .i64 d.k, .int .i64 d.i, .slice a d.kids.length cap] 25)).heap[w.heap.size]? = some (Obj.cells #[.int .i64 d.k, .int .i64 d.i, .slice a d.kids.length cap] 25 (0, 0)) := alloc_new _ _
 generalize w.alloc (.cells #[.int .i64 d.k, .int .i64 d.i, .slice a d.kids.length cap] 25) = V at HA hb0 ⊢
 have HB0 := Lib.hid hb0
 clear hb0
 go_wp2_with fail
 refine (greatctx_any c 60 _ _ (HC.out.keep HA.out) (by decide)).mono ?_
 rintro e w1 ⟨g, rfl, hg, hk1⟩
 have HK1 := Lib.hid (kept_trans HA.out hk1)
 have hb1 := (Below.block hk1 _ (Array.getElem?_eq_some_iff.1 HB0.out).1).trans HB0.out
 have y0 : w1.cell? ⟨w.heap.size, 0, none⟩ = some (.int .i64 d.k) := by rw [Lib.cell_of_heap hb1]; rfl
 have y1 : w1.cell? ⟨w.heap.size, 1, none⟩ = some (.int .i64 d.i) := by rw [Lib.cell_of_heap hb1]; rfl
 have y2 : w1.cell? ⟨w.heap.size, 2, none⟩ = some (.slice a d.kids.length cap) := by rw [Lib.cell_of_heap hb1]; rfl
 have HG := Lib.hid hg
 clear hb1 hk1 hg
 cases g with
 | true =>
  go_wp2_with fail
  go_ret
  exact ⟨true, rfl, (fun h => by cases h), HK1.out⟩
 | false =>
  go_wp2_with fail
  refine (Dv.dgreat_any d _ _ 40 (HL.out.keep HK1.out) (by decide) (by decide)).mono ?_
  rintro e w2 ⟨g2, rfl, hg2, hk2⟩
  have HG2 := Lib.hid hg2
  have HK2 := Lib.hid (kept_trans HK1.out hk2)
  clear hg2 hk2 y0 y1 y2
  go_wp2_with fail
  go_ret
  refine ⟨g2, rfl, fun h => ?_, HK2.out⟩
  have h1 := HG.out (by first | rfl | trivial)
  have h2 := HG2.out h
  exact ⟨h1.1, fun x hx => by have := (h1.2 x hx).1; omega, by omega⟩
theorem wake_ok : judgeT 4611686018427387904 [] (.mk 1 0 []) = .ok ⟨false, .mk 1 0 0 0 [], .zero, .mk 1 1 0 0 [], 2⟩ := by kernel_rfl
theorem wake_no : judgeT 4607182418800017408 [] (.mk 1 0 []) = .error (4, []) := by kernel_rfl
theorem dlies_none (w : World) : Dv.Lies w [] (.slice none 0 0) := .mk [] none 0 (fun _ => .nilIface) (Nat.le_refl _) (by decide) (fun _ h => by cases h) (fun _ h => by cases h) (fun _ h => by cases h)
set_option maxRecDepth 20000 in
set_option maxHeartbeats 4000000 in
theorem wakes16_any (w : World) : Calls Try.prog 10 #[] w fun e w' => e = .returned (.bool true) ∧ Kept w w' := by
 have C2 := Lib.hid (fun (W : World) => ckJudge_any 4611686018427387904 mild_2 (.mk 1 0 []) [] W _ _ (liesE_nil W) (dlies_none W) (by decide) ⟨fun _ h => by cases h⟩)
 have C1 := Lib.hid (fun (W : World) => ckJudge_any 4607182418800017408 mild_1 (.mk 1 0 []) [] W _ _ (liesE_nil W) (dlies_none W) (by decide) ⟨fun _ h => by cases h⟩)
 rw [wake_ok] at C2
 rw [wake_no] at C1
 go_enter Try.func10, Try.ntmps10
 go_wp2_with fail
 refine (C2.out _).mono ?_
 rintro e w1 ⟨hk1, su, sv, sa, rfl, hf, hu, hv, ha⟩
 obtain ⟨au, cu, -, rfl, -⟩ := hu.out
 obtain ⟨av, cv, -, rfl, -⟩ := hv.out
 obtain ⟨aa, ca, -, rfl, -⟩ := ha.out
 have HK1 := Lib.hid hk1
 clear hk1 hf hu hv ha
 go_wp2_with (refine stop_store 33 (.tmp 1) (.tmp 10) rfl ?_)
 intro _
 refine wpList_store_part_n (by rfl) 33 (.tmp 1) (.tmp 10) rfl (w1.heap.size) 0 #[.bool false, .int .i64 1, .int .i64 0, .int .i64 0, .int .i64 0, (.slice au 0 cu), .int .i64 0, .int .i64 0, .int .i64 0, .int .i64 0, (.slice av 0 cv), .int .i64 1, .int .i64 1, .int .i64 0, .int .i64 0, (.slice aa 0 ca), .int .i64 2] (by rfl) (by rfl) 33 (by kernel_rfl) (row_ok rfl) ?_
 intro W hW
 subst hW
 refine ⟨_, #[.bool false, .int .i64 1, .int .i64 0, .int .i64 0, .int .i64 0, (.slice au 0 cu), .int .i64 0, .int .i64 0, .int .i64 0, .int .i64 0, (.slice av 0 cv), .int .i64 1, .int .i64 1, .int .i64 0, .int .i64 0, (.slice aa 0 ca), .int .i64 2], alloc_new _ _, rfl, Nat.le_of_ble_eq_true rfl, ?_⟩
 intro w2 hwn
 have hfr := fresh_judg hwn
 clear hwn
 have HK2 := Lib.hid (kept_trans HK1.out hfr.1)
 have HB2 := Lib.hid hfr.2.1
 have HZ2 := Lib.hid hfr.2.2
 clear hfr
 go_wp2_with fail
 refine (C1.out _).mono ?_
 rintro e w3 ⟨hk3, pv, rfl, hp⟩
 obtain ⟨pa, pc, rfl, -⟩ := hp.out
 have HK3 := Lib.hid (kept_trans HK2.out hk3)
 have HB3 := Lib.hid ((Below.block hk3 _ (Array.getElem?_eq_some_iff.1 HB2.out).1).trans HB2.out)
 clear hk3 hp
 go_wp2_with (refine stop_store 33 (.tmp 4) (.tmp 16) rfl ?_)
 intro _
 refine wpList_store_part_n (by rfl) 33 (.tmp 4) (.tmp 16) rfl (w3.heap.size) 0 zAgg (by rfl) (by rfl) 33 (by kernel_rfl) (row_ok rfl) ?_
 intro W hW
 subst hW
 refine ⟨_, zAgg, alloc_new _ _, rfl, Nat.le_of_ble_eq_true rfl, ?_⟩
 intro w4 hwn
 have hfr := fresh_judg hwn
 clear hwn
 have HK4 := Lib.hid (kept_trans HK3.out hfr.1)
 have hb4 := (Below.block hfr.1 _ (Array.getElem?_eq_some_iff.1 HB3.out).1).trans HB3.out
 have y16 : w4.cell? ⟨w1.heap.size, 16, none⟩ = some (.int .i64 2) := by rw [Lib.cell_of_heap hb4]; rfl
 have y12 : w4.cell? ⟨w1.heap.size, 12, none⟩ = some (.int .i64 1) := by rw [Lib.cell_of_heap hb4]; rfl
 clear hfr hb4
 go_wp2_with fail
 go_ret
 exact ⟨rfl, HK4.out⟩
end Go.Proofs.Ytokgpaajelgakaa.Ck
namespace Go.Proofs.Ytokgpaajelgakaa.Ck
open Go Go.RowKit
theorem keepints_any (l : List Int) (w : World) (r s : Value) (hr : LiesI w l r) (hs : LiesI w l s) : Calls Try.prog 11 #[r, s] w fun e w' => e = .returned (.bool true) ∧ Below w.heap.size w w' := by
 obtain ⟨ra, rc, rfl, r1, r2, hR⟩ := hr.out
 obtain ⟨sa, sc, rfl, s1, s2, hS⟩ := hs.out
 unfold maxLen at r2 s2
 have HR := Lib.hid hR
 have HS := Lib.hid hS
 clear hr hs hR hS
 have eN : ((l.length : Int) != (l.length : Int)) = false := by simp
 go_enter Try.func11, Try.ntmps11
 go_wp2
 go_loopw [5] (fun iv wr => ∃ k : Nat, k ≤ l.length ∧ iv = .int .i64 k ∧ Below w.heap.size w wr) (fun iv _ => l.length - (intOf iv).toNat)
 case atStart => exact ⟨0, Nat.zero_le _, rfl, Below.refl _ _⟩
 case round =>
  obtain ⟨k, hk, rfl, hb⟩ := hrel
  by_cases hlt : k < l.length
  ·have hlt' : (k : Int) < (l.length : Int) := by omega
   obtain ⟨b, o, hra, hx⟩ := HR.out k hlt
   obtain ⟨b2, o2, hsa, hy⟩ := HS.out k hlt
   subst hra hsa
   have x0 : wr.cell? ⟨b, o + k, none⟩ = some (.int .i64 l[k]) := (hb.cell (World.block_lt_of_cell? _ _ hx)).trans hx
   have x1 : wr.cell? ⟨b2, o2 + k, none⟩ = some (.int .i64 l[k]) := (hb.cell (World.block_lt_of_cell? _ _ hy)).trans hy
   have e1 : (l[k] != l[k]) = false := by simp
   have hw2 : IntKind.i64.wrap ((k : Int) + 1) = (k : Int) + 1 := IntWalk.i64_in _ (by omega)
   have HB := Lib.hid hb
   clear hx hy hb
   go_wp2_with fail
   go_quiet (fail)
   go_wp2_with fail
   go_roundw
   case rel => exact ⟨k + 1, hlt, by go_num, ⟨HB.out.os, HB.out.tape, HB.out.output, HB.out.size, fun q hq => HB.out.block q hq⟩⟩
   case measure => simp [intOf]; omega
  ·obtain rfl : k = l.length := by omega
   go_wp2_with fail
   go_ret
   exact ⟨rfl, hb⟩
end Go.Proofs.Ytokgpaajelgakaa.Ck
namespace Go.Proofs.Ytokgpaajelgakaa.Ck
open Go Go.RowKit
open Se (ofB Sml sizeJ zJ)
structure BoxK (g : Nat) (B : Array Value) (W w' : World) : Prop where
 box : w'.heap[g]? = some (Obj.cells B 25 (0, 0))
 kept : Kept W w'
theorem BoxK.call {g : Nat} {B : Array Value} {W w1 w2 : World} (h : BoxK g B W w1) (hk : Kept w1 w2) : BoxK g B W w2 := ⟨(Below.block hk _ (Array.getElem?_eq_some_iff.1 h.1).1).trans h.1, kept_trans h.2 hk⟩
theorem BoxK.undrew {g : Nat} {B : Array Value} {W w1 : World} (h : BoxK g B W w1.drew) : BoxK g B W w1 := ⟨h.1, ⟨h.2.os, h.2.tape, h.2.output, h.2.size, fun b hb => h.2.block b hb⟩⟩
theorem BoxK.set {g e : Nat} {B new : Array Value} {W w1 w2 : World} {o : Obj} (h : BoxK g B W w1) (hw : w1.setRow e new = w2) (hg : W.heap[g]? = some o) (he : W.heap.size ≤ e) : BoxK g B W w2 := by
 have hl := (Array.getElem?_eq_some_iff.1 hg).1
 exact ⟨by rw [← hw]; exact (setRow_other _ _ _ _ (by omega)).trans h.1, setRow_kept hw h.2 he⟩
theorem step_store_judg {ops : Array Oper} {o : Oper} {a : Act} {w : World} {L : Act → World → Prop} {Q : Exit → Act → World → Prop} {E : Prop} (hgd : o.guard = none) (x y : Operand) (ho : o.op = .store 33 x y)
  (g : Nat) (cells : Array Value) (hx : a.eval x = .pointer (some ⟨g, 0, none⟩)) (hy : a.eval y = .agg cells) (hi : (Try.prog.info? 33).map (·.size) = some cells.size) (h1 : cells.all (·.oneCell') = true)
  (hg : w.heap[g]? = some (.cells zAgg 33 (0, 0))) (h : ∀ W, w.setRow g cells = W → L (a.put o.dst undef) W) : if Region.wanted o (yielded ops a.tmps) = true then Oper.wp Try.prog o a w L Q else E := by
 have h17 : cells.size = 17 := by
  rw [show (Try.prog.info? 33).map (·.size) = some 17 by kernel_rfl] at hi
  exact (Option.some.inj hi).symm
 refine step_store_part hgd 33 x y ho g 0 cells hx hy 33 hi h1 _ cells hg ?_ (by rw [h17]; decide) h
 rw [h17]
 simp
def outJ : CR → Jd
 | .ok j => j
 | .error _ => zJ
def outE : CR → Int
 | .ok _ => 0
 | .error e => e.1
def outQ : CR → List Int
 | .ok _ => []
 | .error e => e.2
theorem ckJudgeU_any (m : Nat) (hm : Mild m) (d : Dv.Tm) (c : List En) (w0 w : World) (hk0 : Kept w0 w) (sc s : Value) (hlc : LiesE w0 c sc) (hl : Dv.Lies w0 d.kids s) (hcs : c.length + d.size ≤ 101) (hsc : Smc c) :
  Calls Try.prog 9 #[sc, Dv.tv d s, .float .f64 m] w fun e w' => ∃ su sv sa pv, e = .returned (.tuple #[jv (outJ (judgeT m c d)) su sv sa, .int .i64 (outE (judgeT m c d)), pv]) ∧ LiesQ w' (fun b => b < w0.heap.size ∨ w.heap.size ≤ b) (outJ (judgeT m c d)).u.kids su ∧ LiesQ w' (fun b => b < w0.heap.size ∨ w.heap.size ≤ b) (outJ (judgeT m c d)).v.kids sv ∧ LiesQ w' (fun b => b < w0.heap.size ∨ w.heap.size ≤ b) (outJ (judgeT m c d)).a.kids sa ∧ RowI w.heap.size w' pv (outQ (judgeT m c d)) ∧ Kept w w' := by
 refine (ckJudgeQ_any m hm d c w0 w hk0 sc s hlc hl hcs hsc).mono fun e w' h => ?_
 obtain ⟨hk, h⟩ := h
 cases hr : judgeT m c d with
 | ok j =>
  rw [hr] at h
  obtain ⟨su, sv, sa, rfl, -, hu, hv, ha⟩ := h
  exact ⟨su, sv, sa, _, rfl, hu, hv, ha, Or.inl ⟨rfl, rfl⟩, hk⟩
 | error ea =>
  obtain ⟨er, q⟩ := ea
  rw [hr] at h
  obtain ⟨pv, rfl, hp⟩ := h
  exact ⟨.slice none 0 0, .slice none 0 0, .slice none 0 0, pv, rfl, liesQ_nil _ _, liesQ_nil _ _, liesQ_nil _ _, hp, hk⟩
theorem judgeT_len {m : Nat} {c : List En} {d : Dv.Tm} : (outQ (judgeT m c d)).length + 1 ≤ d.size := by
 have hz := dsize_pos d
 cases hr : judgeT m c d with
 | ok j => simpa [outQ] using hz
 | error ea =>
  obtain ⟨er, q⟩ := ea
  unfold judgeT at hr
  split at hr
  ·rename_i h1
   split at hr
   ·exact (judgeB_path d c hr h1).2
   ·cases hr; simpa [outQ] using hz
  ·cases hr; simpa [outQ] using hz
end Go.Proofs.Ytokgpaajelgakaa.Ck
namespace Go.Proofs.Ytokgpaajelgakaa.Ck
open Go Go.RowKit
open Se (ofB Sml sizeJ zJ)
theorem more_eq {m k : Nat} {c : List En} {d : Dv.Tm} (h : (∃ q, judgeT m c d = .error (4, q)) ∨ judgeT m c d = judgeT k c d) (h4 : (outE (judgeT m c d) == 4) = false) : judgeT m c d = judgeT k c d := by
 rcases h with ⟨q, h⟩ | h
 ·rw [h] at h4; cases h4
 ·exact h
def cm3_0 : Oper := { dst := some 27, op := .move (.tmp 0), type := 22, pos := "law.go:65", after := #[], guard := none }
def cm3_1 : Oper := { dst := some 28, op := .load 25 (.tmp 5), type := 25, pos := "law.go:65", after := #[], guard := none }
def cm3_2 : Oper := { dst := some 29, op := .move (.tmp 2), type := 26, pos := "law.go:65", after := #[], guard := none }
def cm3_3 : Oper := { dst := some 30, op := .call { callee := Go.Callee.value (.func 8), args := #[.tmp 29], argTypes := #[26] }, type := 26, pos := "law.go:65", after := #[{ on := 2, ground := .data }], guard := none }
def cm3_4 : Oper := { dst := some 31, op := .call { callee := Go.Callee.value (.func 9), args := #[.tmp 27, .tmp 28, .tmp 30], argTypes := #[22, 25, 26] }, type := 36, pos := "law.go:65", after := #[{ on := 0, ground := .data }, { on := 1, ground := .data }, { on := 3, ground := .data }, { on := 3, ground := .chain }], guard := none }
def cm3_5 : Oper := { dst := some 26, op := .move (.tmp 31), type := 36, pos := "law.go:65", after := #[{ on := 4, ground := .data }], guard := none }
def cm3_6 : Oper := { dst := some 32, op := .extract (.tmp 26) 0, type := 33, pos := "law.go:65", after := #[{ on := 5, ground := .data }], guard := none }
def cm3_7 : Oper := { dst := some 33, op := .extract (.tmp 26) 1, type := 34, pos := "law.go:65", after := #[{ on := 5, ground := .data }, { on := 10, ground := .gcOnly .lateStores }], guard := none }
def cm3_8 : Oper := { dst := some 34, op := .extract (.tmp 26) 2, type := 35, pos := "law.go:65", after := #[{ on := 5, ground := .data }, { on := 11, ground := .gcOnly .lateStores }], guard := none }
def cm3_9 : Oper := { dst := some 9, op := .alloc 33, type := 0, pos := "law.go:65", after := #[], guard := none }
def cm3_10 : Oper := { dst := none, op := .store 33 (.tmp 9) (.tmp 32), type := 0, pos := "law.go:65", after := #[{ on := 9, ground := .data }, { on := 6, ground := .data }, { on := 4, ground := .chain }, { on := 0, ground := .phase }, { on := 1, ground := .phase }, { on := 2, ground := .phase }, { on := 3, ground := .phase }, { on := 4, ground := .phase }, { on := 5, ground := .phase }, { on := 6, ground := .phase }, { on := 7, ground := .textOnly .lateStores }, { on := 8, ground := .textOnly .lateStores }, { on := 9, ground := .phase }], guard := none }
def cm3_11 : Oper := { dst := some 10, op := .assign (.tmp 33), type := 34, pos := "law.go:65", after := #[{ on := 7, ground := .data }, { on := 10, ground := .chain }, { on := 0, ground := .phase }, { on := 1, ground := .phase }, { on := 2, ground := .phase }, { on := 3, ground := .phase }, { on := 4, ground := .phase }, { on := 5, ground := .phase }, { on := 6, ground := .phase }, { on := 7, ground := .phase }, { on := 8, ground := .textOnly .lateStores }, { on := 9, ground := .phase }, { on := 10, ground := .phase }], guard := none }
def cm3_12 : Oper := { dst := some 11, op := .assign (.tmp 34), type := 35, pos := "law.go:65", after := #[{ on := 8, ground := .data }, { on := 11, ground := .chain }, { on := 0, ground := .phase }, { on := 1, ground := .phase }, { on := 2, ground := .phase }, { on := 3, ground := .phase }, { on := 4, ground := .phase }, { on := 5, ground := .phase }, { on := 6, ground := .phase }, { on := 7, ground := .phase }, { on := 8, ground := .phase }, { on := 9, ground := .phase }, { on := 10, ground := .phase }, { on := 11, ground := .phase }], guard := none }
def cm4_0 : Oper := { dst := some 36, op := .move (.tmp 0), type := 22, pos := "law.go:66", after := #[], guard := none }
def cm4_1 : Oper := { dst := some 37, op := .load 25 (.tmp 5), type := 25, pos := "law.go:66", after := #[], guard := none }
def cm4_2 : Oper := { dst := some 38, op := .move (.tmp 3), type := 26, pos := "law.go:66", after := #[], guard := none }
def cm4_3 : Oper := { dst := some 39, op := .call { callee := Go.Callee.value (.func 8), args := #[.tmp 38], argTypes := #[26] }, type := 26, pos := "law.go:66", after := #[{ on := 2, ground := .data }], guard := none }
def cm4_4 : Oper := { dst := some 40, op := .call { callee := Go.Callee.value (.func 9), args := #[.tmp 36, .tmp 37, .tmp 39], argTypes := #[22, 25, 26] }, type := 36, pos := "law.go:66", after := #[{ on := 0, ground := .data }, { on := 1, ground := .data }, { on := 3, ground := .data }, { on := 3, ground := .chain }], guard := none }
def cm4_5 : Oper := { dst := some 35, op := .move (.tmp 40), type := 36, pos := "law.go:66", after := #[{ on := 4, ground := .data }], guard := none }
def cm4_6 : Oper := { dst := some 41, op := .extract (.tmp 35) 0, type := 33, pos := "law.go:66", after := #[{ on := 5, ground := .data }], guard := none }
def cm4_7 : Oper := { dst := some 42, op := .extract (.tmp 35) 1, type := 34, pos := "law.go:66", after := #[{ on := 5, ground := .data }, { on := 10, ground := .gcOnly .lateStores }], guard := none }
def cm4_8 : Oper := { dst := some 43, op := .extract (.tmp 35) 2, type := 35, pos := "law.go:66", after := #[{ on := 5, ground := .data }, { on := 11, ground := .gcOnly .lateStores }], guard := none }
def cm4_9 : Oper := { dst := some 12, op := .alloc 33, type := 0, pos := "law.go:66", after := #[], guard := none }
def cm4_10 : Oper := { dst := none, op := .store 33 (.tmp 12) (.tmp 41), type := 0, pos := "law.go:66", after := #[{ on := 9, ground := .data }, { on := 6, ground := .data }, { on := 4, ground := .chain }, { on := 0, ground := .phase }, { on := 1, ground := .phase }, { on := 2, ground := .phase }, { on := 3, ground := .phase }, { on := 4, ground := .phase }, { on := 5, ground := .phase }, { on := 6, ground := .phase }, { on := 7, ground := .textOnly .lateStores }, { on := 8, ground := .textOnly .lateStores }, { on := 9, ground := .phase }], guard := none }
def cm4_11 : Oper := { dst := some 13, op := .assign (.tmp 42), type := 34, pos := "law.go:66", after := #[{ on := 7, ground := .data }, { on := 10, ground := .chain }, { on := 0, ground := .phase }, { on := 1, ground := .phase }, { on := 2, ground := .phase }, { on := 3, ground := .phase }, { on := 4, ground := .phase }, { on := 5, ground := .phase }, { on := 6, ground := .phase }, { on := 7, ground := .phase }, { on := 8, ground := .textOnly .lateStores }, { on := 9, ground := .phase }, { on := 10, ground := .phase }], guard := none }
def cm4_12 : Oper := { dst := some 14, op := .assign (.tmp 43), type := 35, pos := "law.go:66", after := #[{ on := 8, ground := .data }, { on := 11, ground := .chain }, { on := 0, ground := .phase }, { on := 1, ground := .phase }, { on := 2, ground := .phase }, { on := 3, ground := .phase }, { on := 4, ground := .phase }, { on := 5, ground := .phase }, { on := 6, ground := .phase }, { on := 7, ground := .phase }, { on := 8, ground := .phase }, { on := 9, ground := .phase }, { on := 10, ground := .phase }, { on := 11, ground := .phase }], guard := none }
set_option maxRecDepth 20000 in
set_option maxHeartbeats 8000000 in
theorem checkMore_any (c : List En) (d : Dv.Tm) (m k : Nat) (w : World) (sc s : Value) (hc : LiesE w c sc) (hl : Dv.Lies w d.kids s) : Calls Try.prog 3 #[sc, Dv.tv d s, .float .f64 m, .float .f64 k] w fun e w' => e = .returned (.bool true) ∧ Kept w w' := by
 obtain ⟨dd, dd1, dd2⟩ := under_of 25 (by kernel_rfl)
 obtain ⟨dj, dj1, dj2⟩ := under_of 33 (by kernel_rfl)
 obtain ⟨a, cap, S, rfl, -⟩ := hl.out
 unfold Dv.tv
 have HC := Lib.hid hc
 have HL := Lib.hid hl
 have hA : Kept w (w.alloc (.cells #[.int .i64 d.k, .int .i64 d.i, .slice a d.kids.length cap] 25)) := (Below.refl w.heap.size w).alloc (Nat.le_refl _) _
 have HA := Lib.hid hA
 clear hc hl hA
 go_enter Try.func3, Try.ntmps3
 go_upto_region 1 with fail
 have hb0 : (w.alloc (.cells #[.int .i64 d.k, .int .i64 d.i, .slice a d.kids.length cap] 25)).heap[w.heap.size]? = some (Obj.cells #[.int .i64 d.k, .int .i64 d.i, .slice a d.kids.length cap] 25 (0, 0)) := alloc_new _ _
 generalize w.alloc (.cells #[.int .i64 d.k, .int .i64 d.i, .slice a d.kids.length cap] 25) = V at HA hb0 ⊢
 have HB0 := Lib.hid hb0
 have y0 : V.cell? ⟨w.heap.size, 0, none⟩ = some (.int .i64 d.k) := by rw [Lib.cell_of_heap hb0]; rfl
 have y1 : V.cell? ⟨w.heap.size, 1, none⟩ = some (.int .i64 d.i) := by rw [Lib.cell_of_heap hb0]; rfl
 have y2 : V.cell? ⟨w.heap.size, 2, none⟩ = some (.slice a d.kids.length cap) := by rw [Lib.cell_of_heap hb0]; rfl
 clear hb0
 have HWK := Lib.hid wakes16_any
 go_wp2_with fail
 refine (heavy_any c d _ _ _ (HC.out.keep HA.out) (HL.out.keep HA.out)).mono ?_
 rintro e w1 ⟨g, rfl, hg, hk1⟩
 have HK1 := Lib.hid (kept_trans HA.out hk1)
 have HG := Lib.hid hg
 have HB1 := Lib.hid ((Below.block hk1 _ (Array.getElem?_eq_some_iff.1 HB0.out).1).trans HB0.out)
 clear y0 y1 y2 hk1 hg
 cases g with
 | true =>
  go_wp2_with fail
  go_ret
  exact ⟨rfl, HK1.out⟩
 | false =>
  have hsz := HG.out rfl
  have HSZ := Lib.hid hsz
  obtain ⟨xx, hxx⟩ : ∃ j, outJ (judgeT (heldB m) c d) = j := ⟨_, rfl⟩
  obtain ⟨qx, hqx⟩ : ∃ j, outQ (judgeT (heldB m) c d) = j := ⟨_, rfl⟩
  obtain ⟨ex, hex⟩ : ∃ j, outE (judgeT (heldB m) c d) = j := ⟨_, rfl⟩
  obtain ⟨xy, hxy⟩ : ∃ j, outJ (judgeT (heldB k) c d) = j := ⟨_, rfl⟩
  obtain ⟨qy, hqy⟩ : ∃ j, outQ (judgeT (heldB k) c d) = j := ⟨_, rfl⟩
  obtain ⟨ey, hey⟩ : ∃ j, outE (judgeT (heldB k) c d) = j := ⟨_, rfl⟩
  have HXY := Lib.hid (show outJ (judgeT (heldB k) c d) = xy ∧ outQ (judgeT (heldB k) c d) = qy ∧ outE (judgeT (heldB k) c d) = ey from ⟨hxy, hqy, hey⟩)
  have HLEN := Lib.hid (show (qx.length : Int) ≤ 200 by have h1 := judgeT_len (m := heldB m) (c := c) (d := d); rw [hqx] at h1; omega)
  have HEQ0 := Lib.hid (fun (h : (∃ q, judgeT (heldB m) c d = .error (4, q)) ∨ judgeT (heldB m) c d = judgeT (heldB k) c d) (h4 : (ex == 4) = false) => show xx = xy ∧ qx = qy ∧ ex = ey by
   have h5 := more_eq h (by rw [hex]; exact h4)
   rw [← hxx, ← hqx, ← hex, ← hxy, ← hqy, ← hey, h5]
   exact ⟨rfl, rfl, rfl⟩)
  have HJx := Lib.hid (fun (W : World) (hW : Kept w1 W) => by have h := ckJudgeU_any (heldB m) (mild_held m) d c w1 W hW sc (.slice a d.kids.length cap) (HC.out.keep HK1.out) (HL.out.keep HK1.out) (by omega) ⟨fun x hx => by have := hsz.2.1 x hx; omega⟩; rw [hxx, hqx, hex] at h; exact h)
  clear hxx hqx hex hxy hqy hey
  clear hsz
  go_wp2_with fail
  refine (held_any k _).mono ?_
  rintro e w2 ⟨rfl, hw2⟩
  obtain rfl := hw2.symm
  go_wp2_with fail
  refine (held_any m _).mono ?_
  rintro e w3 ⟨rfl, hw3⟩
  obtain rfl := hw3.symm
  cases hge : (FloatKind.f64.format.order (heldB k) (heldB m) == some .gt || FloatKind.f64.format.order (heldB k) (heldB m) == some .eq) with
  | false =>
   go_wp2_with fail
   go_ret
   exact ⟨rfl, HK1.out⟩
  | true =>
   have HEQ := Lib.hid (HEQ0.out (judgeT_more (le_of hge) c d))
   go_upto_region 3 with fail
   clear hge
   rename_i Q1 K1 aK1
   have HREST : ∀ (Ex : Nat) (aux avx aax pax : Option Addr) (cux cvx cax pcx : Nat) (wx : World), Hid (JLies wx xx (.slice aux xx.u.kids.length cux) (.slice avx xx.v.kids.length cvx) (.slice aax xx.a.kids.length cax)) → Hid (LiesI wx qx (.slice pax qx.length pcx)) → Hid (Kept w wx) → Hid (Kept w1 wx) → Hid (wx.heap[w.heap.size]? = some (Obj.cells #[.int .i64 d.k, .int .i64 d.i, .slice a d.kids.length cap] 25 (0, 0))) → Hid (wx.heap[Ex]? = some (Obj.cells #[.bool xx.eq, .int .i64 xx.u.k, .int .i64 xx.u.i, .int .i64 xx.u.j, .int .i64 xx.u.n, (.slice aux xx.u.kids.length cux), .int .i64 xx.v.k, .int .i64 xx.v.i, .int .i64 xx.v.j, .int .i64 xx.v.n, (.slice avx xx.v.kids.length cvx), .int .i64 xx.a.k, .int .i64 xx.a.i, .int .i64 xx.a.j, .int .i64 xx.a.n, (.slice aax xx.a.kids.length cax), .int .i64 xx.i] 33 (0, 0))) → Exit.then K1 Q1 Exit.normal { tmps := #[sc, (.agg #[.int .i64 d.k, .int .i64 d.i, .slice a d.kids.length cap]), .float .f64 m, .float .f64 k, undef, .pointer (some ⟨w.heap.size, 0, none⟩), undef, undef, .bool false, .pointer (some ⟨Ex, 0, none⟩), (.int .i64 ex), (.slice pax qx.length pcx), undef, undef, undef, sc, (.agg #[.int .i64 d.k, .int .i64 d.i, .slice a d.kids.length cap]), .bool false, .bool false, .float .f64 k, .float .f64 (heldB k), .float .f64 m, .float .f64 (heldB m), .bool true, .bool false, .bool false, (.tuple #[(jv xx (.slice aux xx.u.kids.length cux) (.slice avx xx.v.kids.length cvx) (.slice aax xx.a.kids.length cax)), (.int .i64 ex), (.slice pax qx.length pcx)]), sc, (.agg #[.int .i64 d.k, .int .i64 d.i, .slice a d.kids.length cap]), .float .f64 m, .float .f64 (heldB m), (.tuple #[(jv xx (.slice aux xx.u.kids.length cux) (.slice avx xx.v.kids.length cvx) (.slice aax xx.a.kids.length cax)), (.int .i64 ex), (.slice pax qx.length pcx)]), (jv xx (.slice aux xx.u.kids.length cux) (.slice avx xx.v.kids.length cvx) (.slice aax xx.a.kids.length cax)), (.int .i64 ex), (.slice pax qx.length pcx), undef, undef, undef, undef, undef, undef, undef, undef, undef, undef, undef, undef, undef, undef, undef, undef, undef, undef, undef, undef, undef, undef, undef, undef, undef, undef, undef, undef, undef, undef, undef, undef, undef], defers := [] } wx := by
    intro Ex aux avx aax pax cux cvx cax pcx wx HLx HQx HKx HKKx HBXx HBBx
    have HJy := Lib.hid (fun (W : World) (hW : Kept wx W) => by have h := ckJudgeU_any (heldB k) (mild_held k) d c wx W hW sc (.slice a d.kids.length cap) (HC.out.keep HKx.out) (HL.out.keep HKx.out) (by have := HSZ.out; omega) ⟨fun x hx => by have := HSZ.out.2.1 x hx; omega⟩; rw [HXY.out.1, HXY.out.2.1, HXY.out.2.2] at h; exact h)
    go_upto_region 4 with fail
    rename_i K2 aK2
    have HREST2 : ∀ (Ey : Nat) (auy avy aay pay : Option Addr) (cuy cvy cay pcy : Nat) (wy : World), Hid (JLies wy xy (.slice auy xy.u.kids.length cuy) (.slice avy xy.v.kids.length cvy) (.slice aay xy.a.kids.length cay)) → Hid (LiesI wy qy (.slice pay qy.length pcy)) → Hid (Kept w wy) → Hid (Kept wx wy) → Hid (wy.heap[w.heap.size]? = some (Obj.cells #[.int .i64 d.k, .int .i64 d.i, .slice a d.kids.length cap] 25 (0, 0))) → Hid (wy.heap[Ey]? = some (Obj.cells #[.bool xy.eq, .int .i64 xy.u.k, .int .i64 xy.u.i, .int .i64 xy.u.j, .int .i64 xy.u.n, (.slice auy xy.u.kids.length cuy), .int .i64 xy.v.k, .int .i64 xy.v.i, .int .i64 xy.v.j, .int .i64 xy.v.n, (.slice avy xy.v.kids.length cvy), .int .i64 xy.a.k, .int .i64 xy.a.i, .int .i64 xy.a.j, .int .i64 xy.a.n, (.slice aay xy.a.kids.length cay), .int .i64 xy.i] 33 (0, 0))) → Exit.then K2 Q1 Exit.normal { tmps := #[sc, (.agg #[.int .i64 d.k, .int .i64 d.i, .slice a d.kids.length cap]), .float .f64 m, .float .f64 k, undef, .pointer (some ⟨w.heap.size, 0, none⟩), undef, undef, .bool false, .pointer (some ⟨Ex, 0, none⟩), (.int .i64 ex), (.slice pax qx.length pcx), .pointer (some ⟨Ey, 0, none⟩), (.int .i64 ey), (.slice pay qy.length pcy), sc, (.agg #[.int .i64 d.k, .int .i64 d.i, .slice a d.kids.length cap]), .bool false, .bool false, .float .f64 k, .float .f64 (heldB k), .float .f64 m, .float .f64 (heldB m), .bool true, .bool false, .bool false, (.tuple #[(jv xx (.slice aux xx.u.kids.length cux) (.slice avx xx.v.kids.length cvx) (.slice aax xx.a.kids.length cax)), (.int .i64 ex), (.slice pax qx.length pcx)]), sc, (.agg #[.int .i64 d.k, .int .i64 d.i, .slice a d.kids.length cap]), .float .f64 m, .float .f64 (heldB m), (.tuple #[(jv xx (.slice aux xx.u.kids.length cux) (.slice avx xx.v.kids.length cvx) (.slice aax xx.a.kids.length cax)), (.int .i64 ex), (.slice pax qx.length pcx)]), (jv xx (.slice aux xx.u.kids.length cux) (.slice avx xx.v.kids.length cvx) (.slice aax xx.a.kids.length cax)), (.int .i64 ex), (.slice pax qx.length pcx), (.tuple #[(jv xy (.slice auy xy.u.kids.length cuy) (.slice avy xy.v.kids.length cvy) (.slice aay xy.a.kids.length cay)), (.int .i64 ey), (.slice pay qy.length pcy)]), sc, (.agg #[.int .i64 d.k, .int .i64 d.i, .slice a d.kids.length cap]), .float .f64 k, .float .f64 (heldB k), (.tuple #[(jv xy (.slice auy xy.u.kids.length cuy) (.slice avy xy.v.kids.length cvy) (.slice aay xy.a.kids.length cay)), (.int .i64 ey), (.slice pay qy.length pcy)]), (jv xy (.slice auy xy.u.kids.length cuy) (.slice avy xy.v.kids.length cvy) (.slice aay xy.a.kids.length cay)), (.int .i64 ey), (.slice pay qy.length pcy), undef, undef, undef, undef, undef, undef, undef, undef, undef, undef, undef, undef, undef, undef, undef, undef, undef, undef, undef, undef, undef, undef, undef, undef], defers := [] } wy := by
     intro Ey auy avy aay pay cuy cvy cay pcy wy HLy HQy HKy HKKy HBXy HBBy
     have HLz := Lib.hid (HLx.out.keep HKKy.out)
     have HQz := Lib.hid (HQx.out.keep HKKy.out)
     have HBz := Lib.hid ((Below.block HKKy.out _ (Array.getElem?_eq_some_iff.1 HBBx.out).1).trans HBBx.out)
     cases h4 : (ex == 4) with
     | true =>
      have hle : (qx.length : Int) ≤ 200 := HLEN.out
      go_wp2_with fail
      refine (HWK.out _).mono ?_
      rintro e w8 ⟨rfl, hk8⟩
      go_wp2_with fail
      go_ret
      exact ⟨rfl, kept_trans HKy.out hk8⟩
     | false =>
      have hq3 := HEQ.out h4
      have eE : (ex == ey) = true := by rw [hq3.2.2]; simp
      have HE3 := Lib.hid hq3
      clear hq3
      go_wp2_with fail
      refine (keepints_any qx _ _ _ HQz.out (by have h := HQy.out; rw [← HE3.out.2.1] at h ⊢; exact h)).mono ?_
      rintro e w8 ⟨rfl, hk8⟩
      have HK8 := Lib.hid (kept_trans HKy.out hk8)
      have HBz8 := Lib.hid ((Below.block hk8 _ (Array.getElem?_eq_some_iff.1 HBz.out).1).trans HBz.out)
      have HBy8 := Lib.hid ((Below.block hk8 _ (Array.getElem?_eq_some_iff.1 HBBy.out).1).trans HBBy.out)
      have HLz8 := Lib.hid (HLz.out.keep hk8)
      have HLy8 := Lib.hid (HLy.out.keep hk8)
      clear hk8
      go_wp2_with (refine stop_load 33 (.tmp 9) rfl ?_)
      intro _
      refine wpList_load_part (Ex) (0) 33 (.tmp 9) #[.bool xx.eq, .int .i64 xx.u.k, .int .i64 xx.u.i, .int .i64 xx.u.j, .int .i64 xx.u.n, (.slice aux xx.u.kids.length cux), .int .i64 xx.v.k, .int .i64 xx.v.i, .int .i64 xx.v.j, .int .i64 xx.v.n, (.slice avx xx.v.kids.length cvx), .int .i64 xx.a.k, .int .i64 xx.a.i, .int .i64 xx.a.j, .int .i64 xx.a.n, (.slice aax xx.a.kids.length cax), .int .i64 xx.i] dj HBz8.out (by rfl) rfl (by rfl) (by rfl) dj1 (by cases dj <;> first | rfl | exact dj2) (by kernel_rfl) ?_
      go_wp2_with (refine stop_load 33 (.tmp 12) rfl ?_)
      intro _
      refine wpList_load_part (Ey) (0) 33 (.tmp 12) #[.bool xy.eq, .int .i64 xy.u.k, .int .i64 xy.u.i, .int .i64 xy.u.j, .int .i64 xy.u.n, (.slice auy xy.u.kids.length cuy), .int .i64 xy.v.k, .int .i64 xy.v.i, .int .i64 xy.v.j, .int .i64 xy.v.n, (.slice avy xy.v.kids.length cvy), .int .i64 xy.a.k, .int .i64 xy.a.i, .int .i64 xy.a.j, .int .i64 xy.a.n, (.slice aay xy.a.kids.length cay), .int .i64 xy.i] dj HBy8.out (by rfl) rfl (by rfl) (by rfl) dj1 (by cases dj <;> first | rfl | exact dj2) (by kernel_rfl) ?_
      go_wp2_with fail
      refine (keepjudg_any xx xy _ (.slice aux xx.u.kids.length cux) (.slice avx xx.v.kids.length cvx) (.slice aax xx.a.kids.length cax) (.slice auy xy.u.kids.length cuy) (.slice avy xy.v.kids.length cvy) (.slice aay xy.a.kids.length cay) HLz8.out HLy8.out).mono ?_
      rintro e w9 ⟨rfl, hk9⟩
      rw [show judgB xx xy = true from by rw [HE3.out.1]; exact judgB_self _]
      have HK9 := Lib.hid (kept_trans HK8.out hk9)
      clear hk9
      go_wp2_with fail
      refine (HWK.out _).mono ?_
      rintro e w10 ⟨rfl, hk10⟩
      go_wp2_with fail
      go_ret
      exact ⟨rfl, kept_trans HK9.out hk10⟩
    have hSTART : BoxK w.heap.size #[.int .i64 d.k, .int .i64 d.i, .slice a d.kids.length cap] wx wx.drew := ⟨HBXx.out, ⟨rfl, rfl, rfl, Nat.le_refl _, fun _ _ => rfl⟩⟩
    refine wp_region_held_drew (S := BoxK w.heap.size #[.int .i64 d.k, .int .i64 d.i, .slice a d.kids.length cap] wx) (by kernel_rfl) ?_ (fun hHeld => ?_)
    ·(try dsimp only)
     (first | exact hKEEP | exact hHeld | exact hSTART)
    refine take_at 0 36 cm4_0 (v := ?_) (Or.inl ⟨by rfl, ?_⟩) ?_
    rotate_left 1
    ·((intro w hSw; (try dsimp only at hSw); unfold cm4_0; go_simp) <;> with_reducible rfl)
    (try simp only [Act.put, List.setIfInBounds_toArray, List.set_cons_zero, List.set_cons_succ])
    refine take_at 1 37 cm4_1 (yields_row w.heap.size 25 25 (.tmp 5) #[.int .i64 d.k, .int .i64 d.i, .slice a d.kids.length cap] _ dd (by rfl) rfl (by rfl) (fun w' h => h.1) dd1 (by cases dd <;> first | rfl | exact dd2) (by kernel_rfl)) ?_
    (try simp only [Act.put, List.setIfInBounds_toArray, List.set_cons_zero, List.set_cons_succ])
    refine take_at 2 38 cm4_2 (v := ?_) (Or.inl ⟨by rfl, ?_⟩) ?_
    rotate_left 1
    ·((intro w hSw; (try dsimp only at hSw); unfold cm4_2; go_simp) <;> with_reducible rfl)
    (try simp only [Act.put, List.setIfInBounds_toArray, List.set_cons_zero, List.set_cons_succ])
    refine wpAnyH_ready (rs := [3, 9]) (by kernel_rfl) (by simp) ?_
    refine AllReadyH.cons (o := cm4_3) rfl (fun K hK => ?_) ?_
    ·unfold cm4_3
     go_simp
     (go_at_call 8; with_reducible refine Calls.mono (held_any k _) ?_)
     rintro e why ⟨rfl, hwh⟩
     obtain rfl := hwh.symm
     refine hK.out _ _ ?_ (fun hHeld => ?_)
     ·(try dsimp only)
      (first | exact hKEEP | exact hHeld | exact hSTART)
     clear hK K
     (try simp only [Act.put, List.setIfInBounds_toArray, List.set_cons_zero, List.set_cons_succ])
     refine wpAnyH_ready (rs := [4, 9]) (by kernel_rfl) (by simp) ?_
     refine AllReadyH.cons (o := cm4_4) rfl (fun K hK => ?_) ?_
     ·unfold cm4_4
      go_simp
      (go_at_call 9; with_reducible refine Calls.mono (HJy.out _ hHeld.2) ?_)
      rintro e wny ⟨su, sv, sa, pv, rfl, hu, hv, ha, hp, hk⟩
      obtain ⟨auy, cuy, -, rfl, -⟩ := hu.out
      obtain ⟨avy, cvy, -, rfl, -⟩ := hv.out
      obtain ⟨aay, cay, -, rfl, -⟩ := ha.out
      obtain ⟨pay, pcy, hpe, -, -⟩ := hp.slc
      subst hpe
      have HUy := Lib.hid hu
      have HVy := Lib.hid hv
      have HAy := Lib.hid ha
      have HPy := Lib.hid hp
      have HNy := Lib.hid hk
      have hKEEP := BoxK.call hHeld hk
      have HPREy := Lib.hid hKEEP.2
      clear hu hv ha hp hk
      refine hK.out _ _ ?_ (fun hHeld => ?_)
      ·(try dsimp only)
       (first | exact hKEEP | exact hHeld | exact hSTART)
      clear hK K
      (try simp only [Act.put, List.setIfInBounds_toArray, List.set_cons_zero, List.set_cons_succ])
      refine take_at 5 35 cm4_5 (v := ?_) (Or.inl ⟨by rfl, ?_⟩) ?_
      rotate_left 1
      ·((intro w hSw; (try dsimp only at hSw); unfold cm4_5; go_simp) <;> with_reducible rfl)
      (try simp only [Act.put, List.setIfInBounds_toArray, List.set_cons_zero, List.set_cons_succ])
      refine take_at 6 41 cm4_6 (v := ?_) (Or.inl ⟨by rfl, ?_⟩) ?_
      rotate_left 1
      ·((intro w hSw; (try dsimp only at hSw); unfold cm4_6; go_simp) <;> with_reducible rfl)
      (try simp only [Act.put, List.setIfInBounds_toArray, List.set_cons_zero, List.set_cons_succ])
      refine take_at 7 42 cm4_7 (v := ?_) (Or.inl ⟨by rfl, ?_⟩) ?_
      rotate_left 1
      ·((intro w hSw; (try dsimp only at hSw); unfold cm4_7; go_simp) <;> with_reducible rfl)
      (try simp only [Act.put, List.setIfInBounds_toArray, List.set_cons_zero, List.set_cons_succ])
      refine take_at 8 43 cm4_8 (v := ?_) (Or.inl ⟨by rfl, ?_⟩) ?_
      rotate_left 1
      ·((intro w hSw; (try dsimp only at hSw); unfold cm4_8; go_simp) <;> with_reducible rfl)
      (try simp only [Act.put, List.setIfInBounds_toArray, List.set_cons_zero, List.set_cons_succ])
      refine wpAnyH_ready (rs := [9]) (by kernel_rfl) (by simp) ?_
      refine AllReadyH.cons (o := cm4_9) rfl (fun K hK => ?_) ?_
      ·unfold cm4_9
       go_simp
       obtain ⟨way, hwa⟩ : ∃ wa, (wny.alloc (.cells zAgg 33)) = wa := ⟨_, rfl⟩
       obtain ⟨hka, hba, hsa⟩ : Kept wny way ∧ way.heap[wny.heap.size]? = some (Obj.cells zAgg 33 (0, 0)) ∧ way.heap.size = wny.heap.size + 1 := by
        obtain ⟨h1, h2, h3⟩ := alloc1 (w := wny) (o0 := .cells zAgg 33) rfl
        rw [← hwa]
        exact ⟨⟨h1.os, h1.tape, h1.output, h1.size, fun b hb => h1.block b hb⟩, h2, h3⟩
       have HKAy := Lib.hid (show Kept wny way from ⟨hka.os, hka.tape, hka.output, hka.size, fun b hb => hka.block b hb⟩)
       have HBAy := Lib.hid hba
       have HSAy := Lib.hid hsa
       have hKEEP := BoxK.call (w1 := wny) hHeld hka
       clear hka hba hsa
       rw [hwa]
       clear hwa
       refine hK.out _ _ ?_ (fun hHeld => ?_)
       ·(try dsimp only)
        (first | exact hKEEP | exact hHeld | exact hSTART)
       clear hK K
       (try simp only [Act.put, List.setIfInBounds_toArray, List.set_cons_zero, List.set_cons_succ])
       refine wpAnyH_ready (rs := [10]) (by kernel_rfl) (by simp) ?_
       refine AllReadyH.cons (o := cm4_10) rfl (fun K hK => ?_) ?_
       ·unfold cm4_10
        have hRES := HBAy.out
        refine step_store_judg rfl (.tmp 12) (.tmp 41) rfl (wny.heap.size) #[.bool xy.eq, .int .i64 xy.u.k, .int .i64 xy.u.i, .int .i64 xy.u.j, .int .i64 xy.u.n, (.slice auy xy.u.kids.length cuy), .int .i64 xy.v.k, .int .i64 xy.v.i, .int .i64 xy.v.j, .int .i64 xy.v.n, (.slice avy xy.v.kids.length cvy), .int .i64 xy.a.k, .int .i64 xy.a.i, .int .i64 xy.a.j, .int .i64 xy.a.n, (.slice aay xy.a.kids.length cay), .int .i64 xy.i] rfl rfl (by kernel_rfl) (row_ok rfl) hRES ?_
        intro wy hwy
        have hLE : wx.heap.size ≤ wny.heap.size := HPREy.out.size
        have hKEEP := BoxK.set hHeld hwy HBXx.out hLE
        refine hK.out _ _ ?_ (fun hHeld => ?_)
        ·(try dsimp only)
         (first | exact hKEEP | exact hHeld | exact hSTART)
        clear hK K
        (try simp only [Act.put])
        refine take_at 11 13 cm4_11 (v := ?_) (Or.inl ⟨by rfl, ?_⟩) ?_
        rotate_left 1
        ·((intro w hSw; (try dsimp only at hSw); unfold cm4_11; go_simp) <;> with_reducible rfl)
        (try simp only [Act.put, List.setIfInBounds_toArray, List.set_cons_zero, List.set_cons_succ])
        refine take_at 12 14 cm4_12 (v := ?_) (Or.inl ⟨by rfl, ?_⟩) ?_
        rotate_left 1
        ·((intro w hSw; (try dsimp only at hSw); unfold cm4_12; go_simp) <;> with_reducible rfl)
        (try simp only [Act.put, List.setIfInBounds_toArray, List.set_cons_zero, List.set_cons_succ])
        refine wpAnyH_done (by kernel_rfl) ?_ _
        have hBy := setRow_new hwy hRES
        have HLy := Lib.hid (show JLies wy xy _ _ _ from ⟨(HUy.out.keep (Q := fun _ => True) (fun b _ hlt => by rw [← hwy]; exact (setRow_other _ _ _ _ (by omega)).trans (HKAy.out.block b hlt)) (fun _ _ _ => trivial)).lies, (HVy.out.keep (Q := fun _ => True) (fun b _ hlt => by rw [← hwy]; exact (setRow_other _ _ _ _ (by omega)).trans (HKAy.out.block b hlt)) (fun _ _ _ => trivial)).lies, (HAy.out.keep (Q := fun _ => True) (fun b _ hlt => by rw [← hwy]; exact (setRow_other _ _ _ _ (by omega)).trans (HKAy.out.block b hlt)) (fun _ _ _ => trivial)).lies⟩)
        have HQy := Lib.hid (rowI_set hwy hRES (HPy.out.later HKAy.out)).lies
        have HKy := Lib.hid (kept_trans HKx.out hKEEP.2)
        have HBXy := Lib.hid hKEEP.1
        have HKKy := Lib.hid hKEEP.2
        obtain ⟨Ey, hEy⟩ : ∃ E, wny.heap.size = E := ⟨_, rfl⟩
        rw [hEy] at hBy
        rw [hEy]
        have HBBy := Lib.hid hBy
        have HELy := Lib.hid (show wx.heap.size ≤ Ey from by rw [← hEy]; exact hLE)
        clear hBy hEy hRES hLE hKEEP hwy hHeld HUy HVy HAy HPy HKAy HNy
        exact HREST2 Ey auy avy aay pay cuy cvy cay pcy wy HLy HQy HKy HKKy HBXy HBBy
       exact AllReadyH.nil
      exact AllReadyH.nil
     refine AllReadyH.cons (o := cm4_9) rfl (fun K hK => ?_) ?_
     ·unfold cm4_9
      go_simp
      obtain ⟨way, hwa⟩ : ∃ wa, (wx.alloc (.cells zAgg 33)).drew = wa := ⟨_, rfl⟩
      obtain ⟨hka, hba, hsa⟩ : Kept wx way ∧ way.heap[wx.heap.size]? = some (Obj.cells zAgg 33 (0, 0)) ∧ way.heap.size = wx.heap.size + 1 := by
       obtain ⟨h1, h2, h3⟩ := alloc1 (w := wx) (o0 := .cells zAgg 33) rfl
       rw [← hwa]
       exact ⟨⟨h1.os, h1.tape, h1.output, h1.size, fun b hb => h1.block b hb⟩, h2, h3⟩
      have HKAy := Lib.hid (show Kept wx way from ⟨hka.os, hka.tape, hka.output, hka.size, fun b hb => hka.block b hb⟩)
      have HBAy := Lib.hid hba
      have HSAy := Lib.hid hsa
      have hKEEP := BoxK.call (w1 := wx) hHeld.undrew hka
      clear hka hba hsa
      rw [hwa]
      clear hwa
      refine hK.out _ _ ?_ (fun hHeld => ?_)
      ·(try dsimp only)
       (first | exact hKEEP | exact hHeld | exact hSTART)
      clear hK K
      (try simp only [Act.put, List.setIfInBounds_toArray, List.set_cons_zero, List.set_cons_succ])
      refine wpAnyH_ready (rs := [4]) (by kernel_rfl) (by simp) ?_
      refine AllReadyH.cons (o := cm4_4) rfl (fun K hK => ?_) ?_
      ·unfold cm4_4
       go_simp
       (go_at_call 9; with_reducible refine Calls.mono (HJy.out _ hHeld.2) ?_)
       rintro e wny ⟨su, sv, sa, pv, rfl, hu, hv, ha, hp, hk⟩
       obtain ⟨auy, cuy, -, rfl, -⟩ := hu.out
       obtain ⟨avy, cvy, -, rfl, -⟩ := hv.out
       obtain ⟨aay, cay, -, rfl, -⟩ := ha.out
       obtain ⟨pay, pcy, hpe, -, -⟩ := hp.slc
       subst hpe
       have HUy := Lib.hid hu
       have HVy := Lib.hid hv
       have HAy := Lib.hid ha
       have HPy := Lib.hid hp
       have HNy := Lib.hid hk
       have hKEEP := BoxK.call hHeld hk
       have HPREy := Lib.hid hKEEP.2
       clear hu hv ha hp hk
       refine hK.out _ _ ?_ (fun hHeld => ?_)
       ·(try dsimp only)
        (first | exact hKEEP | exact hHeld | exact hSTART)
       clear hK K
       (try simp only [Act.put, List.setIfInBounds_toArray, List.set_cons_zero, List.set_cons_succ])
       refine take_at 5 35 cm4_5 (v := ?_) (Or.inl ⟨by rfl, ?_⟩) ?_
       rotate_left 1
       ·((intro w hSw; (try dsimp only at hSw); unfold cm4_5; go_simp) <;> with_reducible rfl)
       (try simp only [Act.put, List.setIfInBounds_toArray, List.set_cons_zero, List.set_cons_succ])
       refine take_at 6 41 cm4_6 (v := ?_) (Or.inl ⟨by rfl, ?_⟩) ?_
       rotate_left 1
       ·((intro w hSw; (try dsimp only at hSw); unfold cm4_6; go_simp) <;> with_reducible rfl)
       (try simp only [Act.put, List.setIfInBounds_toArray, List.set_cons_zero, List.set_cons_succ])
       refine take_at 7 42 cm4_7 (v := ?_) (Or.inl ⟨by rfl, ?_⟩) ?_
       rotate_left 1
       ·((intro w hSw; (try dsimp only at hSw); unfold cm4_7; go_simp) <;> with_reducible rfl)
       (try simp only [Act.put, List.setIfInBounds_toArray, List.set_cons_zero, List.set_cons_succ])
       refine take_at 8 43 cm4_8 (v := ?_) (Or.inl ⟨by rfl, ?_⟩) ?_
       rotate_left 1
       ·((intro w hSw; (try dsimp only at hSw); unfold cm4_8; go_simp) <;> with_reducible rfl)
       (try simp only [Act.put, List.setIfInBounds_toArray, List.set_cons_zero, List.set_cons_succ])
       refine wpAnyH_ready (rs := [10]) (by kernel_rfl) (by simp) ?_
       refine AllReadyH.cons (o := cm4_10) rfl (fun K hK => ?_) ?_
       ·unfold cm4_10
        have hRES := ((Below.block HNy.out _ (Array.getElem?_eq_some_iff.1 HBAy.out).1).trans HBAy.out)
        refine step_store_judg rfl (.tmp 12) (.tmp 41) rfl (wx.heap.size) #[.bool xy.eq, .int .i64 xy.u.k, .int .i64 xy.u.i, .int .i64 xy.u.j, .int .i64 xy.u.n, (.slice auy xy.u.kids.length cuy), .int .i64 xy.v.k, .int .i64 xy.v.i, .int .i64 xy.v.j, .int .i64 xy.v.n, (.slice avy xy.v.kids.length cvy), .int .i64 xy.a.k, .int .i64 xy.a.i, .int .i64 xy.a.j, .int .i64 xy.a.n, (.slice aay xy.a.kids.length cay), .int .i64 xy.i] rfl rfl (by kernel_rfl) (row_ok rfl) hRES ?_
        intro wy hwy
        have hLE : wx.heap.size ≤ wx.heap.size := Nat.le_refl _
        have hKEEP := BoxK.set hHeld hwy HBXx.out hLE
        refine hK.out _ _ ?_ (fun hHeld => ?_)
        ·(try dsimp only)
         (first | exact hKEEP | exact hHeld | exact hSTART)
        clear hK K
        (try simp only [Act.put])
        refine take_at 11 13 cm4_11 (v := ?_) (Or.inl ⟨by rfl, ?_⟩) ?_
        rotate_left 1
        ·((intro w hSw; (try dsimp only at hSw); unfold cm4_11; go_simp) <;> with_reducible rfl)
        (try simp only [Act.put, List.setIfInBounds_toArray, List.set_cons_zero, List.set_cons_succ])
        refine take_at 12 14 cm4_12 (v := ?_) (Or.inl ⟨by rfl, ?_⟩) ?_
        rotate_left 1
        ·((intro w hSw; (try dsimp only at hSw); unfold cm4_12; go_simp) <;> with_reducible rfl)
        (try simp only [Act.put, List.setIfInBounds_toArray, List.set_cons_zero, List.set_cons_succ])
        refine wpAnyH_done (by kernel_rfl) ?_ _
        have hBy := setRow_new hwy hRES
        have HLy := Lib.hid (show JLies wy xy _ _ _ from ⟨(liesQ_set (Q := fun _ => True) hwy HUy.out (fun b hb => by have := HSAy.out; have h1 : b < wx.heap.size ∨ way.heap.size ≤ b := hb; have h2 : wx.drew.heap.size = wx.heap.size := rfl; omega) (fun _ _ => trivial)).lies, (liesQ_set (Q := fun _ => True) hwy HVy.out (fun b hb => by have := HSAy.out; have h1 : b < wx.heap.size ∨ way.heap.size ≤ b := hb; have h2 : wx.drew.heap.size = wx.heap.size := rfl; omega) (fun _ _ => trivial)).lies, (liesQ_set (Q := fun _ => True) hwy HAy.out (fun b hb => by have := HSAy.out; have h1 : b < wx.heap.size ∨ way.heap.size ≤ b := hb; have h2 : wx.drew.heap.size = wx.heap.size := rfl; omega) (fun _ _ => trivial)).lies⟩)
        have HQy := Lib.hid (rowI_set hwy hRES HPy.out).lies
        have HKy := Lib.hid (kept_trans HKx.out hKEEP.2)
        have HBXy := Lib.hid hKEEP.1
        have HKKy := Lib.hid hKEEP.2
        obtain ⟨Ey, hEy⟩ : ∃ E, wx.heap.size = E := ⟨_, rfl⟩
        rw [hEy] at hBy
        rw [hEy]
        have HBBy := Lib.hid hBy
        have HELy := Lib.hid (show wx.heap.size ≤ Ey from by rw [← hEy]; exact hLE)
        clear hBy hEy hRES hLE hKEEP hwy hHeld HUy HVy HAy HPy HKAy HNy
        exact HREST2 Ey auy avy aay pay cuy cvy cay pcy wy HLy HQy HKy HKKy HBXy HBBy
       exact AllReadyH.nil
      exact AllReadyH.nil
     exact AllReadyH.nil
    refine AllReadyH.cons (o := cm4_9) rfl (fun K hK => ?_) ?_
    ·unfold cm4_9
     go_simp
     obtain ⟨way, hwa⟩ : ∃ wa, (wx.alloc (.cells zAgg 33)).drew = wa := ⟨_, rfl⟩
     obtain ⟨hka, hba, hsa⟩ : Kept wx way ∧ way.heap[wx.heap.size]? = some (Obj.cells zAgg 33 (0, 0)) ∧ way.heap.size = wx.heap.size + 1 := by
      obtain ⟨h1, h2, h3⟩ := alloc1 (w := wx) (o0 := .cells zAgg 33) rfl
      rw [← hwa]
      exact ⟨⟨h1.os, h1.tape, h1.output, h1.size, fun b hb => h1.block b hb⟩, h2, h3⟩
     have HKAy := Lib.hid (show Kept wx way from ⟨hka.os, hka.tape, hka.output, hka.size, fun b hb => hka.block b hb⟩)
     have HBAy := Lib.hid hba
     have HSAy := Lib.hid hsa
     have hKEEP := BoxK.call (w1 := wx) hHeld.undrew hka
     clear hka hba hsa
     rw [hwa]
     clear hwa
     refine hK.out _ _ ?_ (fun hHeld => ?_)
     ·(try dsimp only)
      (first | exact hKEEP | exact hHeld | exact hSTART)
     clear hK K
     (try simp only [Act.put, List.setIfInBounds_toArray, List.set_cons_zero, List.set_cons_succ])
     refine wpAnyH_ready (rs := [3]) (by kernel_rfl) (by simp) ?_
     refine AllReadyH.cons (o := cm4_3) rfl (fun K hK => ?_) ?_
     ·unfold cm4_3
      go_simp
      (go_at_call 8; with_reducible refine Calls.mono (held_any k _) ?_)
      rintro e why ⟨rfl, hwh⟩
      obtain rfl := hwh.symm
      refine hK.out _ _ ?_ (fun hHeld => ?_)
      ·(try dsimp only)
       (first | exact hKEEP | exact hHeld | exact hSTART)
      clear hK K
      (try simp only [Act.put, List.setIfInBounds_toArray, List.set_cons_zero, List.set_cons_succ])
      refine wpAnyH_ready (rs := [4]) (by kernel_rfl) (by simp) ?_
      refine AllReadyH.cons (o := cm4_4) rfl (fun K hK => ?_) ?_
      ·unfold cm4_4
       go_simp
       (go_at_call 9; with_reducible refine Calls.mono (HJy.out _ hHeld.2) ?_)
       rintro e wny ⟨su, sv, sa, pv, rfl, hu, hv, ha, hp, hk⟩
       obtain ⟨auy, cuy, -, rfl, -⟩ := hu.out
       obtain ⟨avy, cvy, -, rfl, -⟩ := hv.out
       obtain ⟨aay, cay, -, rfl, -⟩ := ha.out
       obtain ⟨pay, pcy, hpe, -, -⟩ := hp.slc
       subst hpe
       have HUy := Lib.hid hu
       have HVy := Lib.hid hv
       have HAy := Lib.hid ha
       have HPy := Lib.hid hp
       have HNy := Lib.hid hk
       have hKEEP := BoxK.call hHeld hk
       have HPREy := Lib.hid hKEEP.2
       clear hu hv ha hp hk
       refine hK.out _ _ ?_ (fun hHeld => ?_)
       ·(try dsimp only)
        (first | exact hKEEP | exact hHeld | exact hSTART)
       clear hK K
       (try simp only [Act.put, List.setIfInBounds_toArray, List.set_cons_zero, List.set_cons_succ])
       refine take_at 5 35 cm4_5 (v := ?_) (Or.inl ⟨by rfl, ?_⟩) ?_
       rotate_left 1
       ·((intro w hSw; (try dsimp only at hSw); unfold cm4_5; go_simp) <;> with_reducible rfl)
       (try simp only [Act.put, List.setIfInBounds_toArray, List.set_cons_zero, List.set_cons_succ])
       refine take_at 6 41 cm4_6 (v := ?_) (Or.inl ⟨by rfl, ?_⟩) ?_
       rotate_left 1
       ·((intro w hSw; (try dsimp only at hSw); unfold cm4_6; go_simp) <;> with_reducible rfl)
       (try simp only [Act.put, List.setIfInBounds_toArray, List.set_cons_zero, List.set_cons_succ])
       refine take_at 7 42 cm4_7 (v := ?_) (Or.inl ⟨by rfl, ?_⟩) ?_
       rotate_left 1
       ·((intro w hSw; (try dsimp only at hSw); unfold cm4_7; go_simp) <;> with_reducible rfl)
       (try simp only [Act.put, List.setIfInBounds_toArray, List.set_cons_zero, List.set_cons_succ])
       refine take_at 8 43 cm4_8 (v := ?_) (Or.inl ⟨by rfl, ?_⟩) ?_
       rotate_left 1
       ·((intro w hSw; (try dsimp only at hSw); unfold cm4_8; go_simp) <;> with_reducible rfl)
       (try simp only [Act.put, List.setIfInBounds_toArray, List.set_cons_zero, List.set_cons_succ])
       refine wpAnyH_ready (rs := [10]) (by kernel_rfl) (by simp) ?_
       refine AllReadyH.cons (o := cm4_10) rfl (fun K hK => ?_) ?_
       ·unfold cm4_10
        have hRES := ((Below.block HNy.out _ (Array.getElem?_eq_some_iff.1 HBAy.out).1).trans HBAy.out)
        refine step_store_judg rfl (.tmp 12) (.tmp 41) rfl (wx.heap.size) #[.bool xy.eq, .int .i64 xy.u.k, .int .i64 xy.u.i, .int .i64 xy.u.j, .int .i64 xy.u.n, (.slice auy xy.u.kids.length cuy), .int .i64 xy.v.k, .int .i64 xy.v.i, .int .i64 xy.v.j, .int .i64 xy.v.n, (.slice avy xy.v.kids.length cvy), .int .i64 xy.a.k, .int .i64 xy.a.i, .int .i64 xy.a.j, .int .i64 xy.a.n, (.slice aay xy.a.kids.length cay), .int .i64 xy.i] rfl rfl (by kernel_rfl) (row_ok rfl) hRES ?_
        intro wy hwy
        have hLE : wx.heap.size ≤ wx.heap.size := Nat.le_refl _
        have hKEEP := BoxK.set hHeld hwy HBXx.out hLE
        refine hK.out _ _ ?_ (fun hHeld => ?_)
        ·(try dsimp only)
         (first | exact hKEEP | exact hHeld | exact hSTART)
        clear hK K
        (try simp only [Act.put])
        refine take_at 11 13 cm4_11 (v := ?_) (Or.inl ⟨by rfl, ?_⟩) ?_
        rotate_left 1
        ·((intro w hSw; (try dsimp only at hSw); unfold cm4_11; go_simp) <;> with_reducible rfl)
        (try simp only [Act.put, List.setIfInBounds_toArray, List.set_cons_zero, List.set_cons_succ])
        refine take_at 12 14 cm4_12 (v := ?_) (Or.inl ⟨by rfl, ?_⟩) ?_
        rotate_left 1
        ·((intro w hSw; (try dsimp only at hSw); unfold cm4_12; go_simp) <;> with_reducible rfl)
        (try simp only [Act.put, List.setIfInBounds_toArray, List.set_cons_zero, List.set_cons_succ])
        refine wpAnyH_done (by kernel_rfl) ?_ _
        have hBy := setRow_new hwy hRES
        have HLy := Lib.hid (show JLies wy xy _ _ _ from ⟨(liesQ_set (Q := fun _ => True) hwy HUy.out (fun b hb => by have := HSAy.out; have h1 : b < wx.heap.size ∨ way.heap.size ≤ b := hb; have h2 : wx.drew.heap.size = wx.heap.size := rfl; omega) (fun _ _ => trivial)).lies, (liesQ_set (Q := fun _ => True) hwy HVy.out (fun b hb => by have := HSAy.out; have h1 : b < wx.heap.size ∨ way.heap.size ≤ b := hb; have h2 : wx.drew.heap.size = wx.heap.size := rfl; omega) (fun _ _ => trivial)).lies, (liesQ_set (Q := fun _ => True) hwy HAy.out (fun b hb => by have := HSAy.out; have h1 : b < wx.heap.size ∨ way.heap.size ≤ b := hb; have h2 : wx.drew.heap.size = wx.heap.size := rfl; omega) (fun _ _ => trivial)).lies⟩)
        have HQy := Lib.hid (rowI_set hwy hRES HPy.out).lies
        have HKy := Lib.hid (kept_trans HKx.out hKEEP.2)
        have HBXy := Lib.hid hKEEP.1
        have HKKy := Lib.hid hKEEP.2
        obtain ⟨Ey, hEy⟩ : ∃ E, wx.heap.size = E := ⟨_, rfl⟩
        rw [hEy] at hBy
        rw [hEy]
        have HBBy := Lib.hid hBy
        have HELy := Lib.hid (show wx.heap.size ≤ Ey from by rw [← hEy]; exact hLE)
        clear hBy hEy hRES hLE hKEEP hwy hHeld HUy HVy HAy HPy HKAy HNy
        exact HREST2 Ey auy avy aay pay cuy cvy cay pcy wy HLy HQy HKy HKKy HBXy HBBy
       exact AllReadyH.nil
      exact AllReadyH.nil
     exact AllReadyH.nil
    exact AllReadyH.nil
   have hSTART : BoxK w.heap.size #[.int .i64 d.k, .int .i64 d.i, .slice a d.kids.length cap] w1 w1.drew := ⟨HB1.out, ⟨rfl, rfl, rfl, Nat.le_refl _, fun _ _ => rfl⟩⟩
   refine wp_region_held_drew (S := BoxK w.heap.size #[.int .i64 d.k, .int .i64 d.i, .slice a d.kids.length cap] w1) (by kernel_rfl) ?_ (fun hHeld => ?_)
   ·(try dsimp only)
    (first | exact hKEEP | exact hHeld | exact hSTART)
   refine take_at 0 27 cm3_0 (v := ?_) (Or.inl ⟨by rfl, ?_⟩) ?_
   rotate_left 1
   ·((intro w hSw; (try dsimp only at hSw); unfold cm3_0; go_simp) <;> with_reducible rfl)
   (try simp only [Act.put, List.setIfInBounds_toArray, List.set_cons_zero, List.set_cons_succ])
   refine take_at 1 28 cm3_1 (yields_row w.heap.size 25 25 (.tmp 5) #[.int .i64 d.k, .int .i64 d.i, .slice a d.kids.length cap] _ dd (by rfl) rfl (by rfl) (fun w' h => h.1) dd1 (by cases dd <;> first | rfl | exact dd2) (by kernel_rfl)) ?_
   (try simp only [Act.put, List.setIfInBounds_toArray, List.set_cons_zero, List.set_cons_succ])
   refine take_at 2 29 cm3_2 (v := ?_) (Or.inl ⟨by rfl, ?_⟩) ?_
   rotate_left 1
   ·((intro w hSw; (try dsimp only at hSw); unfold cm3_2; go_simp) <;> with_reducible rfl)
   (try simp only [Act.put, List.setIfInBounds_toArray, List.set_cons_zero, List.set_cons_succ])
   refine wpAnyH_ready (rs := [3, 9]) (by kernel_rfl) (by simp) ?_
   refine AllReadyH.cons (o := cm3_3) rfl (fun K hK => ?_) ?_
   ·unfold cm3_3
    go_simp
    (go_at_call 8; with_reducible refine Calls.mono (held_any m _) ?_)
    rintro e whx ⟨rfl, hwh⟩
    obtain rfl := hwh.symm
    refine hK.out _ _ ?_ (fun hHeld => ?_)
    ·(try dsimp only)
     (first | exact hKEEP | exact hHeld | exact hSTART)
    clear hK K
    (try simp only [Act.put, List.setIfInBounds_toArray, List.set_cons_zero, List.set_cons_succ])
    refine wpAnyH_ready (rs := [4, 9]) (by kernel_rfl) (by simp) ?_
    refine AllReadyH.cons (o := cm3_4) rfl (fun K hK => ?_) ?_
    ·unfold cm3_4
     go_simp
     (go_at_call 9; with_reducible refine Calls.mono (HJx.out _ hHeld.2) ?_)
     rintro e wnx ⟨su, sv, sa, pv, rfl, hu, hv, ha, hp, hk⟩
     obtain ⟨aux, cux, -, rfl, -⟩ := hu.out
     obtain ⟨avx, cvx, -, rfl, -⟩ := hv.out
     obtain ⟨aax, cax, -, rfl, -⟩ := ha.out
     obtain ⟨pax, pcx, hpe, -, -⟩ := hp.slc
     subst hpe
     have HUx := Lib.hid hu
     have HVx := Lib.hid hv
     have HAx := Lib.hid ha
     have HPx := Lib.hid hp
     have HNx := Lib.hid hk
     have hKEEP := BoxK.call hHeld hk
     have HPREx := Lib.hid hKEEP.2
     clear hu hv ha hp hk
     refine hK.out _ _ ?_ (fun hHeld => ?_)
     ·(try dsimp only)
      (first | exact hKEEP | exact hHeld | exact hSTART)
     clear hK K
     (try simp only [Act.put, List.setIfInBounds_toArray, List.set_cons_zero, List.set_cons_succ])
     refine take_at 5 26 cm3_5 (v := ?_) (Or.inl ⟨by rfl, ?_⟩) ?_
     rotate_left 1
     ·((intro w hSw; (try dsimp only at hSw); unfold cm3_5; go_simp) <;> with_reducible rfl)
     (try simp only [Act.put, List.setIfInBounds_toArray, List.set_cons_zero, List.set_cons_succ])
     refine take_at 6 32 cm3_6 (v := ?_) (Or.inl ⟨by rfl, ?_⟩) ?_
     rotate_left 1
     ·((intro w hSw; (try dsimp only at hSw); unfold cm3_6; go_simp) <;> with_reducible rfl)
     (try simp only [Act.put, List.setIfInBounds_toArray, List.set_cons_zero, List.set_cons_succ])
     refine take_at 7 33 cm3_7 (v := ?_) (Or.inl ⟨by rfl, ?_⟩) ?_
     rotate_left 1
     ·((intro w hSw; (try dsimp only at hSw); unfold cm3_7; go_simp) <;> with_reducible rfl)
     (try simp only [Act.put, List.setIfInBounds_toArray, List.set_cons_zero, List.set_cons_succ])
     refine take_at 8 34 cm3_8 (v := ?_) (Or.inl ⟨by rfl, ?_⟩) ?_
     rotate_left 1
     ·((intro w hSw; (try dsimp only at hSw); unfold cm3_8; go_simp) <;> with_reducible rfl)
     (try simp only [Act.put, List.setIfInBounds_toArray, List.set_cons_zero, List.set_cons_succ])
     refine wpAnyH_ready (rs := [9]) (by kernel_rfl) (by simp) ?_
     refine AllReadyH.cons (o := cm3_9) rfl (fun K hK => ?_) ?_
     ·unfold cm3_9
      go_simp
      obtain ⟨wax, hwa⟩ : ∃ wa, (wnx.alloc (.cells zAgg 33)) = wa := ⟨_, rfl⟩
      obtain ⟨hka, hba, hsa⟩ : Kept wnx wax ∧ wax.heap[wnx.heap.size]? = some (Obj.cells zAgg 33 (0, 0)) ∧ wax.heap.size = wnx.heap.size + 1 := by
       obtain ⟨h1, h2, h3⟩ := alloc1 (w := wnx) (o0 := .cells zAgg 33) rfl
       rw [← hwa]
       exact ⟨⟨h1.os, h1.tape, h1.output, h1.size, fun b hb => h1.block b hb⟩, h2, h3⟩
      have HKAx := Lib.hid (show Kept wnx wax from ⟨hka.os, hka.tape, hka.output, hka.size, fun b hb => hka.block b hb⟩)
      have HBAx := Lib.hid hba
      have HSAx := Lib.hid hsa
      have hKEEP := BoxK.call (w1 := wnx) hHeld hka
      clear hka hba hsa
      rw [hwa]
      clear hwa
      refine hK.out _ _ ?_ (fun hHeld => ?_)
      ·(try dsimp only)
       (first | exact hKEEP | exact hHeld | exact hSTART)
      clear hK K
      (try simp only [Act.put, List.setIfInBounds_toArray, List.set_cons_zero, List.set_cons_succ])
      refine wpAnyH_ready (rs := [10]) (by kernel_rfl) (by simp) ?_
      refine AllReadyH.cons (o := cm3_10) rfl (fun K hK => ?_) ?_
      ·unfold cm3_10
       have hRES := HBAx.out
       refine step_store_judg rfl (.tmp 9) (.tmp 32) rfl (wnx.heap.size) #[.bool xx.eq, .int .i64 xx.u.k, .int .i64 xx.u.i, .int .i64 xx.u.j, .int .i64 xx.u.n, (.slice aux xx.u.kids.length cux), .int .i64 xx.v.k, .int .i64 xx.v.i, .int .i64 xx.v.j, .int .i64 xx.v.n, (.slice avx xx.v.kids.length cvx), .int .i64 xx.a.k, .int .i64 xx.a.i, .int .i64 xx.a.j, .int .i64 xx.a.n, (.slice aax xx.a.kids.length cax), .int .i64 xx.i] rfl rfl (by kernel_rfl) (row_ok rfl) hRES ?_
       intro wx hwx
       have hLE : w1.heap.size ≤ wnx.heap.size := HPREx.out.size
       have hKEEP := BoxK.set hHeld hwx HB1.out hLE
       refine hK.out _ _ ?_ (fun hHeld => ?_)
       ·(try dsimp only)
        (first | exact hKEEP | exact hHeld | exact hSTART)
       clear hK K
       (try simp only [Act.put])
       refine take_at 11 10 cm3_11 (v := ?_) (Or.inl ⟨by rfl, ?_⟩) ?_
       rotate_left 1
       ·((intro w hSw; (try dsimp only at hSw); unfold cm3_11; go_simp) <;> with_reducible rfl)
       (try simp only [Act.put, List.setIfInBounds_toArray, List.set_cons_zero, List.set_cons_succ])
       refine take_at 12 11 cm3_12 (v := ?_) (Or.inl ⟨by rfl, ?_⟩) ?_
       rotate_left 1
       ·((intro w hSw; (try dsimp only at hSw); unfold cm3_12; go_simp) <;> with_reducible rfl)
       (try simp only [Act.put, List.setIfInBounds_toArray, List.set_cons_zero, List.set_cons_succ])
       refine wpAnyH_done (by kernel_rfl) ?_ _
       have hBx := setRow_new hwx hRES
       have HLx := Lib.hid (show JLies wx xx _ _ _ from ⟨(HUx.out.keep (Q := fun _ => True) (fun b _ hlt => by rw [← hwx]; exact (setRow_other _ _ _ _ (by omega)).trans (HKAx.out.block b hlt)) (fun _ _ _ => trivial)).lies, (HVx.out.keep (Q := fun _ => True) (fun b _ hlt => by rw [← hwx]; exact (setRow_other _ _ _ _ (by omega)).trans (HKAx.out.block b hlt)) (fun _ _ _ => trivial)).lies, (HAx.out.keep (Q := fun _ => True) (fun b _ hlt => by rw [← hwx]; exact (setRow_other _ _ _ _ (by omega)).trans (HKAx.out.block b hlt)) (fun _ _ _ => trivial)).lies⟩)
       have HQx := Lib.hid (rowI_set hwx hRES (HPx.out.later HKAx.out)).lies
       have HKx := Lib.hid (kept_trans HK1.out hKEEP.2)
       have HBXx := Lib.hid hKEEP.1
       have HKKx := Lib.hid hKEEP.2
       obtain ⟨Ex, hEx⟩ : ∃ E, wnx.heap.size = E := ⟨_, rfl⟩
       rw [hEx] at hBx
       rw [hEx]
       have HBBx := Lib.hid hBx
       have HELx := Lib.hid (show w1.heap.size ≤ Ex from by rw [← hEx]; exact hLE)
       clear hBx hEx hRES hLE hKEEP hwx hHeld HUx HVx HAx HPx HKAx HNx
       exact HREST Ex aux avx aax pax cux cvx cax pcx wx HLx HQx HKx HKKx HBXx HBBx
      exact AllReadyH.nil
     exact AllReadyH.nil
    refine AllReadyH.cons (o := cm3_9) rfl (fun K hK => ?_) ?_
    ·unfold cm3_9
     go_simp
     obtain ⟨wax, hwa⟩ : ∃ wa, (w1.alloc (.cells zAgg 33)).drew = wa := ⟨_, rfl⟩
     obtain ⟨hka, hba, hsa⟩ : Kept w1 wax ∧ wax.heap[w1.heap.size]? = some (Obj.cells zAgg 33 (0, 0)) ∧ wax.heap.size = w1.heap.size + 1 := by
      obtain ⟨h1, h2, h3⟩ := alloc1 (w := w1) (o0 := .cells zAgg 33) rfl
      rw [← hwa]
      exact ⟨⟨h1.os, h1.tape, h1.output, h1.size, fun b hb => h1.block b hb⟩, h2, h3⟩
     have HKAx := Lib.hid (show Kept w1 wax from ⟨hka.os, hka.tape, hka.output, hka.size, fun b hb => hka.block b hb⟩)
     have HBAx := Lib.hid hba
     have HSAx := Lib.hid hsa
     have hKEEP := BoxK.call (w1 := w1) hHeld.undrew hka
     clear hka hba hsa
     rw [hwa]
     clear hwa
     refine hK.out _ _ ?_ (fun hHeld => ?_)
     ·(try dsimp only)
      (first | exact hKEEP | exact hHeld | exact hSTART)
     clear hK K
     (try simp only [Act.put, List.setIfInBounds_toArray, List.set_cons_zero, List.set_cons_succ])
     refine wpAnyH_ready (rs := [4]) (by kernel_rfl) (by simp) ?_
     refine AllReadyH.cons (o := cm3_4) rfl (fun K hK => ?_) ?_
     ·unfold cm3_4
      go_simp
      (go_at_call 9; with_reducible refine Calls.mono (HJx.out _ hHeld.2) ?_)
      rintro e wnx ⟨su, sv, sa, pv, rfl, hu, hv, ha, hp, hk⟩
      obtain ⟨aux, cux, -, rfl, -⟩ := hu.out
      obtain ⟨avx, cvx, -, rfl, -⟩ := hv.out
      obtain ⟨aax, cax, -, rfl, -⟩ := ha.out
      obtain ⟨pax, pcx, hpe, -, -⟩ := hp.slc
      subst hpe
      have HUx := Lib.hid hu
      have HVx := Lib.hid hv
      have HAx := Lib.hid ha
      have HPx := Lib.hid hp
      have HNx := Lib.hid hk
      have hKEEP := BoxK.call hHeld hk
      have HPREx := Lib.hid hKEEP.2
      clear hu hv ha hp hk
      refine hK.out _ _ ?_ (fun hHeld => ?_)
      ·(try dsimp only)
       (first | exact hKEEP | exact hHeld | exact hSTART)
      clear hK K
      (try simp only [Act.put, List.setIfInBounds_toArray, List.set_cons_zero, List.set_cons_succ])
      refine take_at 5 26 cm3_5 (v := ?_) (Or.inl ⟨by rfl, ?_⟩) ?_
      rotate_left 1
      ·((intro w hSw; (try dsimp only at hSw); unfold cm3_5; go_simp) <;> with_reducible rfl)
      (try simp only [Act.put, List.setIfInBounds_toArray, List.set_cons_zero, List.set_cons_succ])
      refine take_at 6 32 cm3_6 (v := ?_) (Or.inl ⟨by rfl, ?_⟩) ?_
      rotate_left 1
      ·((intro w hSw; (try dsimp only at hSw); unfold cm3_6; go_simp) <;> with_reducible rfl)
      (try simp only [Act.put, List.setIfInBounds_toArray, List.set_cons_zero, List.set_cons_succ])
      refine take_at 7 33 cm3_7 (v := ?_) (Or.inl ⟨by rfl, ?_⟩) ?_
      rotate_left 1
      ·((intro w hSw; (try dsimp only at hSw); unfold cm3_7; go_simp) <;> with_reducible rfl)
      (try simp only [Act.put, List.setIfInBounds_toArray, List.set_cons_zero, List.set_cons_succ])
      refine take_at 8 34 cm3_8 (v := ?_) (Or.inl ⟨by rfl, ?_⟩) ?_
      rotate_left 1
      ·((intro w hSw; (try dsimp only at hSw); unfold cm3_8; go_simp) <;> with_reducible rfl)
      (try simp only [Act.put, List.setIfInBounds_toArray, List.set_cons_zero, List.set_cons_succ])
      refine wpAnyH_ready (rs := [10]) (by kernel_rfl) (by simp) ?_
      refine AllReadyH.cons (o := cm3_10) rfl (fun K hK => ?_) ?_
      ·unfold cm3_10
       have hRES := ((Below.block HNx.out _ (Array.getElem?_eq_some_iff.1 HBAx.out).1).trans HBAx.out)
       refine step_store_judg rfl (.tmp 9) (.tmp 32) rfl (w1.heap.size) #[.bool xx.eq, .int .i64 xx.u.k, .int .i64 xx.u.i, .int .i64 xx.u.j, .int .i64 xx.u.n, (.slice aux xx.u.kids.length cux), .int .i64 xx.v.k, .int .i64 xx.v.i, .int .i64 xx.v.j, .int .i64 xx.v.n, (.slice avx xx.v.kids.length cvx), .int .i64 xx.a.k, .int .i64 xx.a.i, .int .i64 xx.a.j, .int .i64 xx.a.n, (.slice aax xx.a.kids.length cax), .int .i64 xx.i] rfl rfl (by kernel_rfl) (row_ok rfl) hRES ?_
       intro wx hwx
       have hLE : w1.heap.size ≤ w1.heap.size := Nat.le_refl _
       have hKEEP := BoxK.set hHeld hwx HB1.out hLE
       refine hK.out _ _ ?_ (fun hHeld => ?_)
       ·(try dsimp only)
        (first | exact hKEEP | exact hHeld | exact hSTART)
       clear hK K
       (try simp only [Act.put])
       refine take_at 11 10 cm3_11 (v := ?_) (Or.inl ⟨by rfl, ?_⟩) ?_
       rotate_left 1
       ·((intro w hSw; (try dsimp only at hSw); unfold cm3_11; go_simp) <;> with_reducible rfl)
       (try simp only [Act.put, List.setIfInBounds_toArray, List.set_cons_zero, List.set_cons_succ])
       refine take_at 12 11 cm3_12 (v := ?_) (Or.inl ⟨by rfl, ?_⟩) ?_
       rotate_left 1
       ·((intro w hSw; (try dsimp only at hSw); unfold cm3_12; go_simp) <;> with_reducible rfl)
       (try simp only [Act.put, List.setIfInBounds_toArray, List.set_cons_zero, List.set_cons_succ])
       refine wpAnyH_done (by kernel_rfl) ?_ _
       have hBx := setRow_new hwx hRES
       have HLx := Lib.hid (show JLies wx xx _ _ _ from ⟨(liesQ_set (Q := fun _ => True) hwx HUx.out (fun b hb => by have := HSAx.out; have h1 : b < w1.heap.size ∨ wax.heap.size ≤ b := hb; have h2 : w1.drew.heap.size = w1.heap.size := rfl; omega) (fun _ _ => trivial)).lies, (liesQ_set (Q := fun _ => True) hwx HVx.out (fun b hb => by have := HSAx.out; have h1 : b < w1.heap.size ∨ wax.heap.size ≤ b := hb; have h2 : w1.drew.heap.size = w1.heap.size := rfl; omega) (fun _ _ => trivial)).lies, (liesQ_set (Q := fun _ => True) hwx HAx.out (fun b hb => by have := HSAx.out; have h1 : b < w1.heap.size ∨ wax.heap.size ≤ b := hb; have h2 : w1.drew.heap.size = w1.heap.size := rfl; omega) (fun _ _ => trivial)).lies⟩)
       have HQx := Lib.hid (rowI_set hwx hRES HPx.out).lies
       have HKx := Lib.hid (kept_trans HK1.out hKEEP.2)
       have HBXx := Lib.hid hKEEP.1
       have HKKx := Lib.hid hKEEP.2
       obtain ⟨Ex, hEx⟩ : ∃ E, w1.heap.size = E := ⟨_, rfl⟩
       rw [hEx] at hBx
       rw [hEx]
       have HBBx := Lib.hid hBx
       have HELx := Lib.hid (show w1.heap.size ≤ Ex from by rw [← hEx]; exact hLE)
       clear hBx hEx hRES hLE hKEEP hwx hHeld HUx HVx HAx HPx HKAx HNx
       exact HREST Ex aux avx aax pax cux cvx cax pcx wx HLx HQx HKx HKKx HBXx HBBx
      exact AllReadyH.nil
     exact AllReadyH.nil
    exact AllReadyH.nil
   refine AllReadyH.cons (o := cm3_9) rfl (fun K hK => ?_) ?_
   ·unfold cm3_9
    go_simp
    obtain ⟨wax, hwa⟩ : ∃ wa, (w1.alloc (.cells zAgg 33)).drew = wa := ⟨_, rfl⟩
    obtain ⟨hka, hba, hsa⟩ : Kept w1 wax ∧ wax.heap[w1.heap.size]? = some (Obj.cells zAgg 33 (0, 0)) ∧ wax.heap.size = w1.heap.size + 1 := by
     obtain ⟨h1, h2, h3⟩ := alloc1 (w := w1) (o0 := .cells zAgg 33) rfl
     rw [← hwa]
     exact ⟨⟨h1.os, h1.tape, h1.output, h1.size, fun b hb => h1.block b hb⟩, h2, h3⟩
    have HKAx := Lib.hid (show Kept w1 wax from ⟨hka.os, hka.tape, hka.output, hka.size, fun b hb => hka.block b hb⟩)
    have HBAx := Lib.hid hba
    have HSAx := Lib.hid hsa
    have hKEEP := BoxK.call (w1 := w1) hHeld.undrew hka
    clear hka hba hsa
    rw [hwa]
    clear hwa
    refine hK.out _ _ ?_ (fun hHeld => ?_)
    ·(try dsimp only)
     (first | exact hKEEP | exact hHeld | exact hSTART)
    clear hK K
    (try simp only [Act.put, List.setIfInBounds_toArray, List.set_cons_zero, List.set_cons_succ])
    refine wpAnyH_ready (rs := [3]) (by kernel_rfl) (by simp) ?_
    refine AllReadyH.cons (o := cm3_3) rfl (fun K hK => ?_) ?_
    ·unfold cm3_3
     go_simp
     (go_at_call 8; with_reducible refine Calls.mono (held_any m _) ?_)
     rintro e whx ⟨rfl, hwh⟩
     obtain rfl := hwh.symm
     refine hK.out _ _ ?_ (fun hHeld => ?_)
     ·(try dsimp only)
      (first | exact hKEEP | exact hHeld | exact hSTART)
     clear hK K
     (try simp only [Act.put, List.setIfInBounds_toArray, List.set_cons_zero, List.set_cons_succ])
     refine wpAnyH_ready (rs := [4]) (by kernel_rfl) (by simp) ?_
     refine AllReadyH.cons (o := cm3_4) rfl (fun K hK => ?_) ?_
     ·unfold cm3_4
      go_simp
      (go_at_call 9; with_reducible refine Calls.mono (HJx.out _ hHeld.2) ?_)
      rintro e wnx ⟨su, sv, sa, pv, rfl, hu, hv, ha, hp, hk⟩
      obtain ⟨aux, cux, -, rfl, -⟩ := hu.out
      obtain ⟨avx, cvx, -, rfl, -⟩ := hv.out
      obtain ⟨aax, cax, -, rfl, -⟩ := ha.out
      obtain ⟨pax, pcx, hpe, -, -⟩ := hp.slc
      subst hpe
      have HUx := Lib.hid hu
      have HVx := Lib.hid hv
      have HAx := Lib.hid ha
      have HPx := Lib.hid hp
      have HNx := Lib.hid hk
      have hKEEP := BoxK.call hHeld hk
      have HPREx := Lib.hid hKEEP.2
      clear hu hv ha hp hk
      refine hK.out _ _ ?_ (fun hHeld => ?_)
      ·(try dsimp only)
       (first | exact hKEEP | exact hHeld | exact hSTART)
      clear hK K
      (try simp only [Act.put, List.setIfInBounds_toArray, List.set_cons_zero, List.set_cons_succ])
      refine take_at 5 26 cm3_5 (v := ?_) (Or.inl ⟨by rfl, ?_⟩) ?_
      rotate_left 1
      ·((intro w hSw; (try dsimp only at hSw); unfold cm3_5; go_simp) <;> with_reducible rfl)
      (try simp only [Act.put, List.setIfInBounds_toArray, List.set_cons_zero, List.set_cons_succ])
      refine take_at 6 32 cm3_6 (v := ?_) (Or.inl ⟨by rfl, ?_⟩) ?_
      rotate_left 1
      ·((intro w hSw; (try dsimp only at hSw); unfold cm3_6; go_simp) <;> with_reducible rfl)
      (try simp only [Act.put, List.setIfInBounds_toArray, List.set_cons_zero, List.set_cons_succ])
      refine take_at 7 33 cm3_7 (v := ?_) (Or.inl ⟨by rfl, ?_⟩) ?_
      rotate_left 1
      ·((intro w hSw; (try dsimp only at hSw); unfold cm3_7; go_simp) <;> with_reducible rfl)
      (try simp only [Act.put, List.setIfInBounds_toArray, List.set_cons_zero, List.set_cons_succ])
      refine take_at 8 34 cm3_8 (v := ?_) (Or.inl ⟨by rfl, ?_⟩) ?_
      rotate_left 1
      ·((intro w hSw; (try dsimp only at hSw); unfold cm3_8; go_simp) <;> with_reducible rfl)
      (try simp only [Act.put, List.setIfInBounds_toArray, List.set_cons_zero, List.set_cons_succ])
      refine wpAnyH_ready (rs := [10]) (by kernel_rfl) (by simp) ?_
      refine AllReadyH.cons (o := cm3_10) rfl (fun K hK => ?_) ?_
      ·unfold cm3_10
       have hRES := ((Below.block HNx.out _ (Array.getElem?_eq_some_iff.1 HBAx.out).1).trans HBAx.out)
       refine step_store_judg rfl (.tmp 9) (.tmp 32) rfl (w1.heap.size) #[.bool xx.eq, .int .i64 xx.u.k, .int .i64 xx.u.i, .int .i64 xx.u.j, .int .i64 xx.u.n, (.slice aux xx.u.kids.length cux), .int .i64 xx.v.k, .int .i64 xx.v.i, .int .i64 xx.v.j, .int .i64 xx.v.n, (.slice avx xx.v.kids.length cvx), .int .i64 xx.a.k, .int .i64 xx.a.i, .int .i64 xx.a.j, .int .i64 xx.a.n, (.slice aax xx.a.kids.length cax), .int .i64 xx.i] rfl rfl (by kernel_rfl) (row_ok rfl) hRES ?_
       intro wx hwx
       have hLE : w1.heap.size ≤ w1.heap.size := Nat.le_refl _
       have hKEEP := BoxK.set hHeld hwx HB1.out hLE
       refine hK.out _ _ ?_ (fun hHeld => ?_)
       ·(try dsimp only)
        (first | exact hKEEP | exact hHeld | exact hSTART)
       clear hK K
       (try simp only [Act.put])
       refine take_at 11 10 cm3_11 (v := ?_) (Or.inl ⟨by rfl, ?_⟩) ?_
       rotate_left 1
       ·((intro w hSw; (try dsimp only at hSw); unfold cm3_11; go_simp) <;> with_reducible rfl)
       (try simp only [Act.put, List.setIfInBounds_toArray, List.set_cons_zero, List.set_cons_succ])
       refine take_at 12 11 cm3_12 (v := ?_) (Or.inl ⟨by rfl, ?_⟩) ?_
       rotate_left 1
       ·((intro w hSw; (try dsimp only at hSw); unfold cm3_12; go_simp) <;> with_reducible rfl)
       (try simp only [Act.put, List.setIfInBounds_toArray, List.set_cons_zero, List.set_cons_succ])
       refine wpAnyH_done (by kernel_rfl) ?_ _
       have hBx := setRow_new hwx hRES
       have HLx := Lib.hid (show JLies wx xx _ _ _ from ⟨(liesQ_set (Q := fun _ => True) hwx HUx.out (fun b hb => by have := HSAx.out; have h1 : b < w1.heap.size ∨ wax.heap.size ≤ b := hb; have h2 : w1.drew.heap.size = w1.heap.size := rfl; omega) (fun _ _ => trivial)).lies, (liesQ_set (Q := fun _ => True) hwx HVx.out (fun b hb => by have := HSAx.out; have h1 : b < w1.heap.size ∨ wax.heap.size ≤ b := hb; have h2 : w1.drew.heap.size = w1.heap.size := rfl; omega) (fun _ _ => trivial)).lies, (liesQ_set (Q := fun _ => True) hwx HAx.out (fun b hb => by have := HSAx.out; have h1 : b < w1.heap.size ∨ wax.heap.size ≤ b := hb; have h2 : w1.drew.heap.size = w1.heap.size := rfl; omega) (fun _ _ => trivial)).lies⟩)
       have HQx := Lib.hid (rowI_set hwx hRES HPx.out).lies
       have HKx := Lib.hid (kept_trans HK1.out hKEEP.2)
       have HBXx := Lib.hid hKEEP.1
       have HKKx := Lib.hid hKEEP.2
       obtain ⟨Ex, hEx⟩ : ∃ E, w1.heap.size = E := ⟨_, rfl⟩
       rw [hEx] at hBx
       rw [hEx]
       have HBBx := Lib.hid hBx
       have HELx := Lib.hid (show w1.heap.size ≤ Ex from by rw [← hEx]; exact hLE)
       clear hBx hEx hRES hLE hKEEP hwx hHeld HUx HVx HAx HPx HKAx HNx
       exact HREST Ex aux avx aax pax cux cvx cax pcx wx HLx HQx HKx HKKx HBXx HBBx
      exact AllReadyH.nil
     exact AllReadyH.nil
    exact AllReadyH.nil
   exact AllReadyH.nil
end Go.Proofs.Ytokgpaajelgakaa.Ck
namespace Go.Proofs.Ytokgpaajelgakaa
open Go.ChangeShapes Go.WideShapes Go.ChangeAt Go.RowKit
theorem own : ownKnob Try.prog.godebug = none := by kernel_rfl
theorem cells_int : Try.prog.cellsOf 3 = 1 := by kernel_rfl
theorem cells_kids : Try.prog.cellsOf 29 = 1 := by kernel_rfl
theorem cells_term : Try.prog.cellsOf 31 = 5 := by kernel_rfl
theorem laidOut : laidOutB Try.prog = true := by kernel_rfl
instance instOpenTm : Inhabited (Tm × Value) := ⟨(.mk 0 0 0 0 [], .nilIface)⟩
theorem list5 {α : Type} {l : List α} (h : l.length = 5) : ∃ a b c d e, l = [a, b, c, d, e] := by
  match l, h with
  | [a, b, c, d, e], _ => exact ⟨a, b, c, d, e, rfl⟩
set_option maxRecDepth 100000 in
theorem open_term {H : Type} {enc : TypeId × Value → H} {w : World} {base : Nat} {sp : Nat → Bool} {hd : Bool} : ∀ (fuel : Nat) (cs : List Value) (x : DataW H × List MemPlace),
    DataW.trod enc Try.prog w base sp hd fuel 31 cs = some x → ∃ (t : Tm) (s : Value), cs = [.int .i64 t.k, .int .i64 t.i, .int .i64 t.j, .int .i64 t.n, s] ∧ t.fine ∧ Lies w t.kids s := by
  intro fuel
  induction fuel using Nat.strongRecOn with
  | _ fuel ih =>
    intro cs x h
    obtain ⟨xs, n, rfl, rfl, hl, hlen, hf⟩ := DataW.trod_struct Try.underlying31 h
    rw [cells_term] at hl
    obtain ⟨v0, v1, v2, v3, v4, rfl⟩ := list5 hl
    obtain ⟨y0, y1, y2, y3, y4, rfl⟩ := list5 hlen
    have g0 := hf 0 _ rfl
    have g1 := hf 1 _ rfl
    have g2 := hf 2 _ rfl
    have g3 := hf 3 _ rfl
    have g4 := hf 4 _ rfl
    simp [cells_int, cells_kids] at g0 g1 g2 g3 g4
    obtain ⟨k, e0, -, w0⟩ := DataW.trod_int Try.underlying3 g0
    obtain ⟨i, e1, -, w1⟩ := DataW.trod_int Try.underlying3 g1
    obtain ⟨j, e2, -, w2⟩ := DataW.trod_int Try.underlying3 g2
    obtain ⟨m, e3, -, w3⟩ := DataW.trod_int Try.underlying3 g3
    simp at e0 e1 e2 e3
    subst e0 e1 e2 e3
    rcases DataW.trod_slice Try.underlying29 g4 with ⟨e4, -⟩ | ⟨a, len, cap, elems, rest, n', rfl, e4, -, hb, hlc, hm, hlen', hel, -, -⟩
    · simp at e4
      subst e4
      exact ⟨.mk k i j m [], _, rfl, ⟨wf_I64 w0, wf_I64 w1, wf_I64 w2, wf_I64 w3⟩, .mk [] none 0 (fun _ => .nilIface) (Nat.le_refl _) (by decide) (fun _ h => by cases h) (fun _ h => by cases h) (fun _ h => by cases h)⟩
    · simp at e4
      subst e4
      have key : ∀ i, i < len → ∃ p : Tm × Value, p.1.fine ∧ Lies w p.1.kids p.2 ∧ ∃ b o, a = ⟨b, o, none⟩ ∧ Node w b (o + i * 5) p.1 p.2 := by
        intro i hi
        have h1 := hel i hi
        rw [cells_term, List.getElem?_eq_getElem (by omega)] at h1
        obtain ⟨cs', h2, h3⟩ := Option.bind_eq_some_iff.1 h1
        obtain ⟨t, s, rfl, hfine, hlies⟩ := ih n' (by omega) _ _ h3
        obtain ⟨-, -, hcell⟩ := World.cells?_some h2
        have hs0 : a.spot = none := by
          have h1 := hel 0 (by omega)
          rw [cells_term, List.getElem?_eq_getElem (by omega)] at h1
          obtain ⟨cs0, h2, -⟩ := Option.bind_eq_some_iff.1 h1
          obtain ⟨-, hl0, hc0⟩ := World.cells?_some h2
          have c0 := hc0 0 (by omega)
          rw [List.getElem?_eq_getElem (by omega)] at c0
          simpa [Addr.add] using World.cell?_spot c0
        obtain ⟨b, o, spot⟩ := a
        simp only at hs0
        subst hs0
        refine ⟨(t, s), hfine, hlies, b, o, rfl, ?_⟩
        have hc : ∀ q, q < 5 → w.cell? ⟨b, o + i * 5 + q, none⟩ = [Value.int .i64 t.k, .int .i64 t.i, .int .i64 t.j, .int .i64 t.n, s][q]? := fun q hq => by
          have := hcell q hq
          rwa [add_plain, add_plain] at this
        exact ⟨hc 0 (by omega), hc 1 (by omega), hc 2 (by omega), hc 3 (by omega), hc 4 (by omega)⟩
      obtain ⟨f, hf'⟩ := Go.Deep.choose_lt (α := Tm × Value) (p := fun i p => p.1.fine ∧ Lies w p.1.kids p.2 ∧ ∃ b o, a = ⟨b, o, none⟩ ∧ Node w b (o + i * 5) p.1 p.2) key
      have hl5 : ((List.range len).map fun i => (f i).1).length = len := by simp
      refine ⟨.mk k i j m ((List.range len).map fun i => (f i).1), _, rfl, ⟨wf_I64 w0, wf_I64 w1, wf_I64 w2, wf_I64 w3⟩, ?_⟩
      have := Lies.mk (w := w) ((List.range len).map fun i => (f i).1) (some a) cap (fun i => (f i).2) (by simpa using hlc) hm
        (fun x hx => by
          obtain ⟨i, hi, rfl⟩ := List.mem_map.1 hx
          exact (hf' i (List.mem_range.1 hi)).1)
        (fun i hi => by
          obtain ⟨b, o, ha, hn⟩ := (hf' i (by simpa using hi)).2.2
          exact ⟨b, o, by rw [ha], by simpa using hn⟩)
        (fun i hi => by simpa using (hf' i (by simpa using hi)).2.1)
      rwa [hl5] at this
set_option maxRecDepth 100000 in
theorem open_arg {H : Type} {enc : TypeId × Value → H} {W : World} {r : Reach} {b0 base : Nat} {sp : Nat → Bool} {hd : Bool} {v : Value} {d : DataW H} {p : List MemPlace} (hv : Value.okWide Try.prog W r b0 31 v)
    (h : DataW.Trod enc Try.prog W base sp hd 31 v d p) : ∃ (t : Tm) (s : Value), Lies W t.kids s ∧ v = tv t s := by
  obtain ⟨cs, rfl, hsz⟩ := okWide_struct Try.underlying31 hv
  obtain ⟨fuel, hf⟩ := h
  obtain ⟨t, s, hcs, -, hl⟩ := open_term fuel _ _ hf
  refine ⟨t, s, hl, ?_⟩
  have : cs.toList = [.int .i64 t.k, .int .i64 t.i, .int .i64 t.j, .int .i64 t.n, s] := by simpa [Value.cells] using hcs
  rw [show cs = #[.int .i64 t.k, .int .i64 t.i, .int .i64 t.j, .int .i64 t.n, s] from by cases cs; simp_all]
end Go.Proofs.Ytokgpaajelgakaa
namespace Go.Proofs.Ytokgpaajelgakaa
open Go.ChangeShapes Go.WideShapes Go.ChangeAt Go.RowKit
theorem cells_entry : Try.prog.cellsOf 74 = 6 := by kernel_rfl
instance instOpenEn : Inhabited (En × Value) := ⟨(⟨.mk 0 0 0 0 [], 0⟩, .nilIface)⟩
theorem list6 {α : Type} {l : List α} (h : l.length = 6) : ∃ a b c d e f, l = [a, b, c, d, e, f] := by
  match l, h with
  | [a, b, c, d, e, f], _ => exact ⟨a, b, c, d, e, f, rfl⟩
theorem list2 {α : Type} {l : List α} (h : l.length = 2) : ∃ a b, l = [a, b] := by
  match l, h with
  | [a, b], _ => exact ⟨a, b, rfl⟩
set_option maxRecDepth 100000 in
theorem open_entry {H : Type} {enc : TypeId × Value → H} {w : World} {base : Nat} {sp : Nat → Bool} {hd : Bool} (fuel : Nat) (cs : List Value) (x : DataW H × List MemPlace)
    (h : DataW.trod enc Try.prog w base sp hd fuel 74 cs = some x) : ∃ (e : En) (s : Value), cs = [.int .i64 e.a.k, .int .i64 e.a.i, .int .i64 e.a.j, .int .i64 e.a.n, s, .int .i64 e.i] ∧ e.fine ∧ Lies w e.a.kids s := by
  obtain ⟨xs, n, rfl, rfl, hl, hlen, hf⟩ := DataW.trod_struct Try.underlying74 h
  rw [cells_entry] at hl
  obtain ⟨v0, v1, v2, v3, v4, v5, rfl⟩ := list6 hl
  obtain ⟨y0, y1, rfl⟩ := list2 hlen
  have g0 := hf 0 _ rfl
  have g1 := hf 1 _ rfl
  simp [cells_int, cells_term] at g0 g1
  obtain ⟨t, s, hcs, hfine, hlies⟩ := open_term n _ _ g0
  obtain ⟨i, e1, -, w1⟩ := DataW.trod_int Try.underlying3 g1
  simp at e1 hcs
  subst e1
  obtain ⟨rfl, rfl, rfl, rfl, rfl⟩ := hcs
  exact ⟨⟨t, i⟩, v4, rfl, ⟨hfine, wf_I64 w1⟩, hlies⟩
set_option maxRecDepth 100000 in
theorem open_argE {H : Type} {enc : TypeId × Value → H} {w : World} {r : Reach} {b0 base : Nat} {sp : Nat → Bool} {hd : Bool} {v : Value} {d : DataW H} {p : List MemPlace} (hv : Value.okWide Try.prog w r b0 22 v)
    (h : DataW.Trod enc Try.prog w base sp hd 22 v d p) : ∃ l : List En, LiesE w l v := by
  obtain ⟨a0, len0, cap0, rfl⟩ := okWide_slice Try.underlying22 hv
  obtain ⟨fuel, hf⟩ := h
  rcases DataW.trod_slice Try.underlying22 hf with ⟨e4, -⟩ | ⟨a, len, cap, elems, rest, n', rfl, e4, -, hb, hlc, hm, hlen', hel, -, -⟩
  · simp [Value.cells] at e4
    obtain ⟨rfl, rfl, rfl⟩ := e4
    exact ⟨[], liesE_nil _⟩
  · simp [Value.cells] at e4
    obtain ⟨rfl, rfl, rfl⟩ := e4
    have key : ∀ i, i < len0 → ∃ p : En × Value, p.1.fine ∧ Lies w p.1.a.kids p.2 ∧ ∃ b o, a = ⟨b, o, none⟩ ∧ ENode w b (o + i * 6) p.1 p.2 := by
      intro i hi
      have h1 := hel i hi
      rw [cells_entry, List.getElem?_eq_getElem (by omega)] at h1
      obtain ⟨cs', h2, h3⟩ := Option.bind_eq_some_iff.1 h1
      obtain ⟨t, s, rfl, hfine, hlies⟩ := open_entry n' _ _ h3
      obtain ⟨-, -, hcell⟩ := World.cells?_some h2
      have hs0 : a.spot = none := by
        have h1 := hel 0 (by omega)
        rw [cells_entry, List.getElem?_eq_getElem (by omega)] at h1
        obtain ⟨cs0, h2, -⟩ := Option.bind_eq_some_iff.1 h1
        obtain ⟨-, hl0, hc0⟩ := World.cells?_some h2
        have c0 := hc0 0 (by omega)
        rw [List.getElem?_eq_getElem (by omega)] at c0
        simpa [Addr.add] using World.cell?_spot c0
      obtain ⟨b, o, spot⟩ := a
      simp only at hs0
      subst hs0
      refine ⟨(t, s), hfine, hlies, b, o, rfl, ?_⟩
      have hc : ∀ q, q < 6 → w.cell? ⟨b, o + i * 6 + q, none⟩ = [Value.int .i64 t.a.k, .int .i64 t.a.i, .int .i64 t.a.j, .int .i64 t.a.n, s, .int .i64 t.i][q]? := fun q hq => by
        have := hcell q hq
        rwa [add_plain, add_plain] at this
      exact ⟨hc 0 (by omega), hc 1 (by omega), hc 2 (by omega), hc 3 (by omega), hc 4 (by omega), hc 5 (by omega)⟩
    obtain ⟨f, hf'⟩ := Go.Deep.choose_lt (α := En × Value) (p := fun i p => p.1.fine ∧ Lies w p.1.a.kids p.2 ∧ ∃ b o, a = ⟨b, o, none⟩ ∧ ENode w b (o + i * 6) p.1 p.2) key
    have hl5 : ((List.range len0).map fun i => (f i).1).length = len0 := by simp
    refine ⟨(List.range len0).map fun i => (f i).1, some a, cap0, (fun i => (f i).2), by rw [hl5], by simpa using hlc, hm, ?_, ?_, ?_⟩
    · intro x hx
      obtain ⟨i, hi, rfl⟩ := List.mem_map.1 hx
      exact (hf' i (List.mem_range.1 hi)).1
    · intro i hi
      obtain ⟨b, o, ha, hn⟩ := (hf' i (by simpa using hi)).2.2
      exact ⟨b, o, by rw [ha], by simpa using hn⟩
    · intro i hi
      simpa using (hf' i (by simpa using hi)).2.1
end Go.Proofs.Ytokgpaajelgakaa
namespace Go.Proofs.Ytokgpaajelgakaa.Dv
open Go.ChangeShapes Go.WideShapes Go.ChangeAt Go.RowKit
theorem cells_kids : Try.prog.cellsOf 23 = 1 := by kernel_rfl
theorem cells_term : Try.prog.cellsOf 25 = 3 := by kernel_rfl
instance instOpenTm : Inhabited (Tm × Value) := ⟨(.mk 0 0 [], .nilIface)⟩
theorem list3 {α : Type} {l : List α} (h : l.length = 3) : ∃ a b c, l = [a, b, c] := by
  match l, h with
  | [a, b, c], _ => exact ⟨a, b, c, rfl⟩
set_option maxRecDepth 100000 in
theorem open_term {H : Type} {enc : TypeId × Value → H} {w : World} {base : Nat} {sp : Nat → Bool} {hd : Bool} : ∀ (fuel : Nat) (cs : List Value) (x : DataW H × List MemPlace),
    DataW.trod enc Try.prog w base sp hd fuel 25 cs = some x → ∃ (t : Tm) (s : Value), cs = [.int .i64 t.k, .int .i64 t.i, s] ∧ t.fine ∧ Lies w t.kids s := by
  intro fuel
  induction fuel using Nat.strongRecOn with
  | _ fuel ih =>
    intro cs x h
    obtain ⟨xs, n, rfl, rfl, hl, hlen, hf⟩ := DataW.trod_struct Try.underlying25 h
    rw [cells_term] at hl
    obtain ⟨v0, v1, v2, rfl⟩ := list3 hl
    obtain ⟨y0, y1, y2, rfl⟩ := list3 hlen
    have g0 := hf 0 _ rfl
    have g1 := hf 1 _ rfl
    have g2 := hf 2 _ rfl
    simp [cells_int, cells_kids] at g0 g1 g2
    obtain ⟨k, e0, -, w0⟩ := DataW.trod_int Try.underlying3 g0
    obtain ⟨i, e1, -, w1⟩ := DataW.trod_int Try.underlying3 g1
    simp at e0 e1
    subst e0 e1
    rcases DataW.trod_slice Try.underlying23 g2 with ⟨e4, -⟩ | ⟨a, len, cap, elems, rest, n', rfl, e4, -, hb, hlc, hm, hlen', hel, -, -⟩
    · simp at e4
      subst e4
      exact ⟨.mk k i [], _, rfl, ⟨wf_I64 w0, wf_I64 w1⟩, .mk [] none 0 (fun _ => .nilIface) (Nat.le_refl _) (by decide) (fun _ h => by cases h) (fun _ h => by cases h) (fun _ h => by cases h)⟩
    · simp at e4
      subst e4
      have key : ∀ i, i < len → ∃ p : Tm × Value, p.1.fine ∧ Lies w p.1.kids p.2 ∧ ∃ b o, a = ⟨b, o, none⟩ ∧ Node w b (o + i * 3) p.1 p.2 := by
        intro i hi
        have h1 := hel i hi
        rw [cells_term, List.getElem?_eq_getElem (by omega)] at h1
        obtain ⟨cs', h2, h3⟩ := Option.bind_eq_some_iff.1 h1
        obtain ⟨t, s, rfl, hfine, hlies⟩ := ih n' (by omega) _ _ h3
        obtain ⟨-, -, hcell⟩ := World.cells?_some h2
        have hs0 : a.spot = none := by
          have h1 := hel 0 (by omega)
          rw [cells_term, List.getElem?_eq_getElem (by omega)] at h1
          obtain ⟨cs0, h2, -⟩ := Option.bind_eq_some_iff.1 h1
          obtain ⟨-, hl0, hc0⟩ := World.cells?_some h2
          have c0 := hc0 0 (by omega)
          rw [List.getElem?_eq_getElem (by omega)] at c0
          simpa [Addr.add] using World.cell?_spot c0
        obtain ⟨b, o, spot⟩ := a
        simp only at hs0
        subst hs0
        refine ⟨(t, s), hfine, hlies, b, o, rfl, ?_⟩
        have hc : ∀ q, q < 3 → w.cell? ⟨b, o + i * 3 + q, none⟩ = [Value.int .i64 t.k, .int .i64 t.i, s][q]? := fun q hq => by
          have := hcell q hq
          rwa [add_plain, add_plain] at this
        exact ⟨hc 0 (by omega), hc 1 (by omega), hc 2 (by omega)⟩
      obtain ⟨f, hf'⟩ := Go.Deep.choose_lt (α := Tm × Value) (p := fun i p => p.1.fine ∧ Lies w p.1.kids p.2 ∧ ∃ b o, a = ⟨b, o, none⟩ ∧ Node w b (o + i * 3) p.1 p.2) key
      have hl5 : ((List.range len).map fun i => (f i).1).length = len := by simp
      refine ⟨.mk k i ((List.range len).map fun i => (f i).1), _, rfl, ⟨wf_I64 w0, wf_I64 w1⟩, ?_⟩
      have := Lies.mk (w := w) ((List.range len).map fun i => (f i).1) (some a) cap (fun i => (f i).2) (by simpa using hlc) hm
        (fun x hx => by
          obtain ⟨i, hi, rfl⟩ := List.mem_map.1 hx
          exact (hf' i (List.mem_range.1 hi)).1)
        (fun i hi => by
          obtain ⟨b, o, ha, hn⟩ := (hf' i (by simpa using hi)).2.2
          exact ⟨b, o, by rw [ha], by simpa using hn⟩)
        (fun i hi => by simpa using (hf' i (by simpa using hi)).2.1)
      rwa [hl5] at this
set_option maxRecDepth 100000 in
theorem open_arg {H : Type} {enc : TypeId × Value → H} {W : World} {r : Reach} {b0 base : Nat} {sp : Nat → Bool} {hd : Bool} {v : Value} {d : DataW H} {p : List MemPlace} (hv : Value.okWide Try.prog W r b0 25 v)
    (h : DataW.Trod enc Try.prog W base sp hd 25 v d p) : ∃ (t : Tm) (s : Value), Lies W t.kids s ∧ v = tv t s := by
  obtain ⟨cs, rfl, hsz⟩ := okWide_struct Try.underlying25 hv
  obtain ⟨fuel, hf⟩ := h
  obtain ⟨t, s, hcs, -, hl⟩ := open_term fuel _ _ hf
  refine ⟨t, s, hl, ?_⟩
  have : cs.toList = [.int .i64 t.k, .int .i64 t.i, s] := by simpa [Value.cells] using hcs
  rw [show cs = #[.int .i64 t.k, .int .i64 t.i, s] from by cases cs; simp_all]
end Go.Proofs.Ytokgpaajelgakaa.Dv
namespace Go.Proofs.Ytokgpaajelgakaa
open Go.RowKit Go.ChangeShapes Go.WideShapes Go.ChangeAt
end Go.Proofs.Ytokgpaajelgakaa
namespace Go.Proofs.Ytokgpaajelgakaa
open Go.ChangeShapes Go.WideShapes
def code (l : List Nat) : List Char := l.map Char.ofNat
def joinN : List (List Nat) → List Nat
  | [] => []
  | [a] => a
  | a :: b :: r => a ++ 32 :: joinN (b :: r)
theorem words_one : ∀ a : List Nat, (a.all fun n => Char.ofNat n != Char.ofNat 32) = true → wordsSigns (code a) = [code a]
  | [], _ => rfl
  | n :: a, h => by
    simp only [List.all_cons, Bool.and_eq_true, bne_iff_ne] at h
    have ih := words_one a h.2
    show wordsSigns (Char.ofNat n :: code a) = _
    rw [wordsSigns]
    · rw [ih]; rfl
    · exact h.1
theorem words_more : ∀ (a : List Nat) (r : List Char), (a.all fun n => Char.ofNat n != Char.ofNat 32) = true → wordsSigns (code a ++ Char.ofNat 32 :: r) = code a :: wordsSigns r
  | [], r, _ => by
    show wordsSigns (Char.ofNat 32 :: r) = _
    rw [show Char.ofNat 32 = _ from rfl, wordsSigns]; rfl
  | n :: a, r, h => by
    simp only [List.all_cons, Bool.and_eq_true, bne_iff_ne] at h
    have ih := words_more a r h.2
    show wordsSigns (Char.ofNat n :: (code a ++ Char.ofNat 32 :: r)) = _
    rw [wordsSigns]
    · rw [ih]; rfl
    · exact h.1
theorem words_join : ∀ ws : List (List Nat), ws ≠ [] → (ws.all fun w => w.all fun n => Char.ofNat n != Char.ofNat 32) = true → wordsSigns (code (joinN ws)) = ws.map code
  | [], h, _ => absurd rfl h
  | [a], _, h => by simp only [List.all_cons, List.all_nil, Bool.and_true] at h; exact words_one a h
  | a :: b :: r, _, h => by
    have h' := h
    rw [List.all_cons, Bool.and_eq_true] at h'
    have ih := words_join (b :: r) (by simp) h'.2
    show wordsSigns (code (a ++ 32 :: joinN (b :: r))) = _
    rw [show code (a ++ 32 :: joinN (b :: r)) = code a ++ Char.ofNat 32 :: code (joinN (b :: r)) from by simp [code], words_more a _ h'.1, ih]; rfl
def cutWords : List (List Nat) := [[104, 97, 114, 110, 101, 115, 115],
  [102, 53, 48, 101, 53, 50, 99, 100, 53, 98, 50, 97, 54, 56, 54, 52, 100, 97, 97, 97, 100, 97, 49, 99, 56, 56, 50, 48, 49, 99, 99, 98, 53, 54, 99, 48, 97, 54, 50, 101, 52, 48, 57, 52, 100, 51, 53, 51, 54, 99, 53, 99, 51, 101, 98, 100, 100, 50, 56, 98, 56, 51, 102, 57],
  [99, 117, 116],
  [97, 116],
  [116, 114, 97, 110, 115, 104, 105, 112, 47, 116, 114, 97, 110, 115, 104, 105, 112, 108, 97, 119, 49, 54, 46, 67, 104, 101, 99, 107, 77, 111, 114, 101],
  [116, 114, 97, 110, 115, 104, 105, 112, 47, 116, 114, 97, 110, 115, 104, 105, 112, 108, 97, 119, 49, 54, 46, 67, 104, 101, 99, 107, 76, 101, 118, 101, 108, 115],
  [116, 114, 97, 110, 115, 104, 105, 112, 47, 116, 114, 97, 110, 115, 104, 105, 112, 108, 97, 119, 49, 54, 46, 67, 104, 101, 99, 107, 80, 97, 114, 116, 115],
  [116, 114, 97, 110, 115, 104, 105, 112, 47, 116, 114, 97, 110, 115, 104, 105, 112, 108, 97, 119, 49, 54, 46, 67, 104, 101, 99, 107, 70, 97, 117, 108, 116, 115]]
set_option maxRecDepth 100000 in
theorem cut_words : wordsSigns Try.prog.initOrder.toList = cutWords.map code := by
  have h : Try.prog.initOrder.toList = code (joinN cutWords) := by
    show (String.ofList (code (joinN cutWords))).toList = _
    exact String.toList_ofList
  rw [h]
  exact words_join cutWords (by simp [cutWords]) (by decide +kernel)
theorem cut_behind : behindMainWord (cutWords.map code) = code [99, 117, 116] :: cutWords.tail.tail.tail.map code := by kernel_rfl
theorem cut_lifts : stripLifts liftWords (code [99, 117, 116] :: cutWords.tail.tail.tail.map code) = ([], code [99, 117, 116] :: cutWords.tail.tail.tail.map code) := by kernel_rfl
theorem cut1 : (code [99, 117, 116] == "gc".toList) = false := by kernel_rfl
theorem cut2 : (code [99, 117, 116] == "spec".toList) = false := by kernel_rfl
theorem cut3 : (code [99, 117, 116] == "cut".toList) = true := by kernel_rfl
theorem cut_all : behindMainWord (wordsSigns Try.prog.initOrder.toList) = code [99, 117, 116] :: cutWords.tail.tail.tail.map code := by rw [cut_words, cut_behind]
theorem make_of (P : Program) {c : List Char} {rest : List (List Char)} (h : behindMainWord (wordsSigns P.initOrder.toList) = c :: rest) (h1 : (c == "gc".toList) = false) (h2 : (c == "spec".toList) = false) (h3 : (c == "cut".toList) = true) : P.make = some .cut := by
  unfold Program.make; rw [h]
  simp only [h1, h2, h3, Bool.or_self, Bool.false_eq_true, if_false, Bool.true_or, if_true]
theorem mayEnter_of (P : Program) {c : List Char} {rest : List (List Char)} (h : behindMainWord (wordsSigns P.initOrder.toList) = c :: rest) (h3 : ((stripLifts liftWords (c :: rest)).2.head? == some "cut".toList) = true)
    (h4 : (stripLifts liftWords (c :: rest)).1 = []) (h5 : P.laysLater = false) (h6 : P.bearsReflect = false) (h7 : P.doorFits [] = true) : P.mayEnter = true := by
  unfold Program.mayEnter; rw [h]
  refine Bool.or_eq_true_iff.2 (Or.inr ?_)
  rw [h3, h4, h5, h6, h7]; rfl
theorem row_make : Try.prog.make = some .cut := make_of Try.prog cut_all cut1 cut2 cut3
theorem row_mayEnter : Try.prog.mayEnter = true := mayEnter_of Try.prog cut_all (by rw [cut_lifts]; kernel_rfl) (by rw [cut_lifts]) (by kernel_rfl) (by kernel_rfl) (by kernel_rfl)
theorem row_lifts : Try.prog.liftsFinal = false := by unfold Program.liftsFinal Program.headLifts; rw [cut_all, cut_lifts]; kernel_rfl
end Go.Proofs.Ytokgpaajelgakaa
namespace Go.Proofs.Ytokgpaajelgakaa.lawCheckMore
open Go.ChangeShapes Go.WideShapes Go.ChangeAt Go.RowKit
set_option maxRecDepth 100000 in
theorem lifted (os : Os) (started : os.Started) (H : Type) (enc : TypeId × Value → H) :
    ReturnsInHanded {} Try.checked os 3 .any (Rows.checkMoreSpec.pre6 enc Try.prog Try.f3 Rows.checkMoreRow.domain false) (Rows.checkMoreSpec.post enc Try.prog Try.f3 false true false false) := by
  refine returnsInHanded_of_change (C := Try.checked) own started (by kernel_rfl) Try.func3
    (ChangeSpec.witness6 (enc := enc) (C := Try.checked) false ⟨#[], #[.slice none 0 0, .agg #[.int .i64 0, .int .i64 0, .slice none 0 0], .float .f64 0, .float .f64 0], []⟩ 8 (by kernel_rfl) (by kernel_rfl) (by kernel_rfl) (by kernel_rfl)) ?_
  intro W base args ds gs before hval0 hW hcnd _
  have hval : ∀ (j : Nat) t v, Try.f3.params[j]? = some t → args[j]? = some v → Value.okWide Try.prog W .any base t v := hval0
  have hW' := hW
  obtain ⟨p, q, hA0, hV, rfl, hfz, hnd⟩ := hW
  have hA : DataW.TrodAll enc Try.prog W 0 (fun _ => true) true Try.f3.params.toList args.toList ds p := hA0
  rw [Try.params3] at hA hval
  obtain ⟨v0, vs0, d0, ds0, p0, q0, hargs0, rfl, rfl, h0, r0⟩ := trodAll_cons hA
  obtain ⟨v1, vs1, d1, ds1, p1, q1, hargs1, rfl, rfl, h1, r1⟩ := trodAll_cons r0
  obtain ⟨v2, vs2, d2, ds2, p2, q2, hargs2, rfl, rfl, h2, r2⟩ := trodAll_cons r1
  obtain ⟨v3, vs3, d3, ds3, p3, q3, hargs3, rfl, rfl, h3, r3⟩ := trodAll_cons r2
  obtain ⟨rfl, rfl, rfl⟩ := trodAll_nil r3
  obtain rfl : args = #[v0, v1, v2, v3] := by cases args; simp_all
  obtain ⟨rfl, rfl⟩ := trodVars_none hV
  have h0k := h0
  have hlt0 : ∀ x ∈ p0, x.block < W.heap.size := fun x hx => by have := hW'.lt x (by simp [hx]); simpa using this
  obtain ⟨l0, hl0⟩ := open_argE (hval 0 22 v0 rfl rfl) h0
  have h1k := h1
  have hlt1 : ∀ x ∈ p1, x.block < W.heap.size := fun x hx => by have := hW'.lt x (by simp [hx]); simpa using this
  obtain ⟨t1, s1, hl1, hv1⟩ := Dv.open_arg (hval 1 25 v1 rfl rfl) h1
  subst hv1
  obtain ⟨a2, rfl, rfl, rfl, w2⟩ := open_float Try.underlying26 (hval 2 26 v2 rfl rfl) h2
  obtain ⟨a3, rfl, rfl, rfl, w3⟩ := open_float Try.underlying26 (hval 3 26 v3 rfl rfl) h3
  clear hA0 hval0
  simp only [List.append_nil] at hW'
  refine (Ck.checkMore_any l0 t1 a2 a3 W _ s1 hl0 hl1).mono fun e W' ⟨he, hb⟩ => ?_
  subst he
  exact ⟨_, rfl, _, _, _, [], _, [], hW', trodAll_cons_mk (shut_bool Try.underlying4 _) trodAll_mk0, (trodAll_cons_mk (Below.trod laidOut (by kernel_rfl) (of_decide_eq_true (by kernel_rfl)) h0k hb hlt0) (trodAll_cons_mk (Below.trod laidOut (by kernel_rfl) (of_decide_eq_true (by kernel_rfl)) h1k hb hlt1) (trodAll_cons_mk (shut_float Try.underlying26 w2) (trodAll_cons_mk (shut_float Try.underlying26 w3) trodAll_mk0)))), rfl, hb.frame _, fun h => by cases h⟩
theorem closed : joinedFacts Try.prog 3 Try.f3 Rows.checkMoreSpec Rows.checkMoreRow = true := by
  unfold joinedFacts
  rw [row_mayEnter, row_lifts, row_make]
  kernel_rfl
theorem proved : Rows.CheckMoreSaid :=
  OpenClaim.holds_of_wide 3 Try.f3 rfl rfl rfl rfl rfl rfl rfl ⟨rfl, rfl, rfl, rfl, rfl⟩ rfl rfl rfl rfl rfl (by kernel_rfl) Try.func3 closed
    (of_decide_eq_true (by kernel_rfl)) (by unfold Func.isWrapper; first | (rw [if_pos (by decide +kernel)]; kernel_rfl) | (rw [if_neg (by decide +kernel)]; exact ⟨rfl, rfl⟩))
    (fun os started H enc _ => lifted os started H enc)
#print axioms proved
end Go.Proofs.Ytokgpaajelgakaa.lawCheckMore