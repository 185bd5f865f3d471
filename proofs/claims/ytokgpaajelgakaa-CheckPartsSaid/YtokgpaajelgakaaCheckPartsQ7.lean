/-
  CheckParts holds: for every input the call returns true, and the arguments read as before. No condition.
-/
import Derived.WalkKit
import Derived.Lib.Hide
import Derived.Deep.RegionHeld3
import Derived.Test.YtokgpaajelgakaaRows
import Derived.KernelRfl
import Derived.Deep.RegionWith
import Derived.Deep.AppendLies
import Derived.Laws.Rows
import Derived.Laws.IdiomCopy
import Derived.Deep.Slices
import Derived.Deep.QuietTactic
import Derived.BigQuiet
import Derived.Lib.QuietBelow
import Derived.StillTailTactics
import Derived.IntWalk
import Derived.OwnWalk
import Derived.OrdersHeld
import Derived.Deep.DeepCutAuto
import Derived.Maps.AppendAt
import Derived.Lib.Builder
import Derived.Deep.RegionLaw
import Derived.Below
import Derived.Laws.CopyRow
import Derived.Lib.MinMax
import Derived.Deep.LoopGhost
import Derived.Deep.MidRow
import Derived.Laws.Tables
import Derived.Laws.CopyOwn
import Derived.Deep.RegionHeld
import Derived.Deep.Upon
import Derived.ArgAppend
import Derived.Laws.EntriesVeiled
import GoSem.Core.Float
import Derived.ProofKit
import Derived.LoopTactic
import Derived.Laws.Cover2
import Derived.Laws.FloatArith
import Derived.Laws.Externs
import Derived.OpenShut
import Derived.Carry
import Derived.ChangeSlices
import Derived.JoinedOf
import Derived.Test.YtokgpaajelgakaaCheckPartsQ6
namespace Go.Proofs.Ytokgpaajelgakaa.Ck
open Go Go.RowKit
open Se (ofB Sml sizeJ zJ)
def GivesTP (P : Nat → Prop) (x : CR) (w : World) (e : Ending) (w' : World) : Prop := Kept w w' ∧ match x with
 | .ok j => ∃ su sv sa, e = .returned (.tuple #[jv j su sv sa, .int .i64 0, .slice none 0 0]) ∧ j.fine ∧ LiesQ w' (fun b => P b ∨ w.heap.size ≤ b) j.u.kids su ∧ LiesQ w' (fun b => P b ∨ w.heap.size ≤ b) j.v.kids sv ∧ LiesQ w' (fun b => P b ∨ w.heap.size ≤ b) j.a.kids sa
 | .error (er, q) => ∃ pv, e = .returned (.tuple #[.agg zAgg, .int .i64 er, pv]) ∧ RowI w.heap.size w' pv q
abbrev GivesTQ (N : Nat) := GivesTP (fun b => b < N)
def GivesT (x : CR) (w : World) (e : Ending) (w' : World) : Prop := Kept w w' ∧ match x with
 | .ok j => ∃ su sv sa, e = .returned (.tuple #[jv j su sv sa, .int .i64 0, .slice none 0 0]) ∧ j.fine ∧ JLies w' j su sv sa
 | .error (er, q) => ∃ pv, e = .returned (.tuple #[.agg zAgg, .int .i64 er, pv]) ∧ LiesI w' q pv
theorem RowI.lies {N0 : Nat} {w : World} {pv : Value} {p : List Int} (h : RowI N0 w pv p) : LiesI w p pv := by
 rcases h with ⟨rfl, rfl⟩ | ⟨g, cap, cur, rfl, -, hh, h1, h2, h3, h4, -⟩
 ·exact ⟨none, 0, rfl, Nat.le_refl _, by decide, fun _ h => by cases h⟩
 ·refine ⟨_, cap, rfl, h1, h2, fun i hi => ⟨g, 0, rfl, ?_⟩⟩
  rw [Lib.cell_of_heap hh, Nat.zero_add]
  have := congrArg (fun l => l[i]?) h4
  simp only [List.getElem?_take, if_pos hi, List.getElem?_map, List.getElem?_eq_getElem hi, Option.map_some] at this
  simpa using this
theorem fresh_any {w W : World} {T : TypeId} {old new : Array Value} (hW : (w.alloc (.cells old T)).setRow w.heap.size new = W) : Kept w W ∧ W.heap[w.heap.size]? = some (Obj.cells new T (0, 0)) ∧ W.heap.size = w.heap.size + 1 :=
 ⟨setRow_kept hW (((Below.refl w.heap.size w).alloc (Nat.le_refl _) _) : Kept w _) (Nat.le_refl _), by subst hW; exact setRow_heap _ _ _ _ _ _ (alloc_new _ _), by subst hW; simp⟩
theorem rowI_set {N0 : Nat} {w' W : World} {g : Nat} {old new : Array Value} {pv : Value} {p : List Int} (hW : w'.setRow g new = W) (h : w'.heap[g]? = some (Obj.cells old 33 (0, 0))) (hr : RowI N0 w' pv p) : RowI N0 W pv p := by
 subst hW
 exact hr.same fun b _ hb => setRow_other w' g b _ fun e => by subst e; exact not_row h (by decide) hb
def ckr_0 : Oper := { dst := some 31, op := Go.Op.build 33 #[], type := 33, pos := "check.go:23", after := #[], guard := none }
def ckr_1 : Oper := { dst := some 32, op := Go.Op.move (Go.Operand.tmp 11), type := 34, pos := "check.go:23", after := #[{ on := 4, ground := Go.Ground.gcOnly Go.Departure.lateStores }], guard := none }
def ckr_2 : Oper := { dst := some 33, op := Go.Op.fieldAddr 61 (Go.Operand.tmp 9) 1, type := 0, pos := "check.go:23", after := #[{ on := 5, ground := Go.Ground.gcOnly Go.Departure.lateStores }], guard := none }
def ckr_3 : Oper := { dst := some 34, op := Go.Op.load 35 (Go.Operand.tmp 33), type := 35, pos := "check.go:23", after := #[{ on := 2, ground := Go.Ground.data }, { on := 5, ground := Go.Ground.gcOnly Go.Departure.lateStores }], guard := none }
def ckr_4 : Oper := { dst := none, op := Go.Op.store 33 (Go.Operand.tmp 6) (Go.Operand.tmp 31), type := 0, pos := "check.go:23", after := #[{ on := 0, ground := Go.Ground.data }, { on := 0, ground := Go.Ground.phase }, { on := 1, ground := Go.Ground.textOnly Go.Departure.lateStores }, { on := 2, ground := Go.Ground.textOnly Go.Departure.lateStores }, { on := 3, ground := Go.Ground.textOnly Go.Departure.lateStores }], guard := none }
def ckr_5 : Oper := { dst := some 7, op := Go.Op.assign (Go.Operand.tmp 32), type := 34, pos := "check.go:23", after := #[{ on := 1, ground := Go.Ground.data }, { on := 4, ground := Go.Ground.chain }, { on := 0, ground := Go.Ground.phase }, { on := 1, ground := Go.Ground.phase }, { on := 2, ground := Go.Ground.textOnly Go.Departure.lateStores }, { on := 3, ground := Go.Ground.textOnly Go.Departure.lateStores }, { on := 4, ground := Go.Ground.phase }], guard := none }
def ckr_6 : Oper := { dst := some 8, op := Go.Op.assign (Go.Operand.tmp 34), type := 35, pos := "check.go:23", after := #[{ on := 3, ground := Go.Ground.data }, { on := 5, ground := Go.Ground.chain }, { on := 0, ground := Go.Ground.phase }, { on := 1, ground := Go.Ground.phase }, { on := 2, ground := Go.Ground.phase }, { on := 3, ground := Go.Ground.phase }, { on := 4, ground := Go.Ground.phase }, { on := 5, ground := Go.Ground.phase }], guard := none }
set_option maxRecDepth 20000 in
set_option maxHeartbeats 8000000 in
theorem ckJudgeP_any (P : Nat → Prop) (m : Nat) (hm : Mild m) (d : Dv.Tm) (c : List En) (w0 w : World) (hk0 : Kept w0 w) (sc s : Value) (hlc : Se.LiesEQ w0 P c sc) (hl : Dv.Lies w0 d.kids s) (hcs : c.length + d.size ≤ 101) (hsc : Smc c) :
  Calls Try.prog 9 #[sc, Dv.tv d s, .float .f64 m] w (GivesTP P (judgeT m c d) w) := by
 obtain ⟨a, cap, S, rfl, hc, hmx, -, -, -⟩ := hl.out
 obtain ⟨dj, dj1, dj2⟩ := under_of 33 (by kernel_rfl)
 unfold Dv.tv
 have HL := Lib.hid hl
 have HC := Lib.hid hlc
 have HK0 := Lib.hid hk0
 have hz0 := hk0.size
 clear hl hlc hk0
 go_enter Try.func9, Try.ntmps9
 go_upto_region 1 with fail
 obtain ⟨V, hV⟩ : ∃ V, (w.alloc (.cells #[.int .i64 d.k, .int .i64 d.i, .slice a d.kids.length cap] 25)).alloc (.cells zAgg 33) = V := ⟨_, rfl⟩
 obtain ⟨hkV, hb0, hb1, hsV⟩ := alloc2 hV
 rw [hV]
 have HKV := Lib.hid hkV
 have HB1 := Lib.hid hb1
 have HSV := Lib.hid hsV
 have y0 : V.cell? ⟨w.heap.size, 0, none⟩ = some (.int .i64 d.k) := by rw [Lib.cell_of_heap hb0]; rfl
 have y1 : V.cell? ⟨w.heap.size, 1, none⟩ = some (.int .i64 d.i) := by rw [Lib.cell_of_heap hb0]; rfl
 have y2 : V.cell? ⟨w.heap.size, 2, none⟩ = some (.slice a d.kids.length cap) := by rw [Lib.cell_of_heap hb0]; rfl
 have HB0 := Lib.hid hb0
 clear hV hkV hb0 hb1 hsV
 cases hr : d.rightB with
 | false =>
  as_aux_lemma =>
   have HJ := Lib.hid (show judgeT m c d = .error (1, []) by unfold judgeT; rw [hr]; rfl)
   have HR := Lib.hid hr
   clear hr
   go_wp2_with fail
   refine (Dv.dright_any d _ _ (HL.out.keep (kept_trans HK0.out HKV.out))).mono ?_
   rintro e w1 ⟨rfl, hk1⟩
   rw [HR.out]
   have HK1 := Lib.hid (kept_trans HKV.out hk1)
   have HB1n := Lib.hid ((Below.block hk1 _ (by have := HSV.out; omega)).trans HB1.out)
   clear y0 y1 y2 hk1
   go_wp2_with (refine stop_store 33 (.tmp 6) (.tmp 20) rfl ?_)
   intro _
   refine wpList_store_part_n (by rfl) 33 (.tmp 6) (.tmp 20) rfl (w.heap.size + 1) 0 zAgg (by rfl) (by rfl) 33 (by kernel_rfl) (row_ok rfl) ?_
   intro W hW
   subst hW
   refine ⟨_, zAgg, HB1n.out, rfl, Nat.le_of_ble_eq_true rfl, ?_⟩
   intro W2 hW2
   go_wp2_with fail
   (try simp only [Exit.inBlock, Exit.then])
   refine bodyPost_ret (results_cell_tmp2 rfl _ _ (w.heap.size + 1) 33 _ _ dj rfl (setRow_new hW2 HB1n.out) dj1 (by cases dj <;> first | rfl | exact dj2) (by kernel_rfl)) rfl ?_
   rw [HJ.out]
   exact ⟨setRow_kept hW2 HK1.out (by omega), _, rfl, Or.inl ⟨rfl, rfl⟩⟩
 | true =>
  have HR := Lib.hid hr
  cases hp : purC c with
  | false =>
   as_aux_lemma =>
    have HJ := Lib.hid (show judgeT m c d = .error (1, []) by unfold judgeT; rw [hr, hp]; rfl)
    have HP := Lib.hid hp
    clear hr hp
    go_wp2_with fail
    refine (Dv.dright_any d _ _ (HL.out.keep (kept_trans HK0.out HKV.out))).mono ?_
    rintro e w1 ⟨rfl, hk1⟩
    rw [HR.out]
    have HK1 := Lib.hid (kept_trans HKV.out hk1)
    have HB1n := Lib.hid ((Below.block hk1 _ (by have := HSV.out; omega)).trans HB1.out)
    clear y0 y1 y2 hk1
    go_wp2_with fail
    refine (ckpure_any c _ _ ((Se.liesEQ_lies HC.out).keep (kept_trans HK0.out HK1.out))).mono ?_
    rintro e w2 ⟨rfl, hk2⟩
    rw [HP.out]
    have HK2 := Lib.hid (kept_trans HK1.out hk2)
    have HB2n := Lib.hid ((Below.block hk2 _ (Array.getElem?_eq_some_iff.1 HB1n.out).1).trans HB1n.out)
    clear hk2
    go_wp2_with (refine stop_store 33 (.tmp 6) (.tmp 20) rfl ?_)
    intro _
    refine wpList_store_part_n (by rfl) 33 (.tmp 6) (.tmp 20) rfl (w.heap.size + 1) 0 zAgg (by rfl) (by rfl) 33 (by kernel_rfl) (row_ok rfl) ?_
    intro W hW
    subst hW
    refine ⟨_, zAgg, HB2n.out, rfl, Nat.le_of_ble_eq_true rfl, ?_⟩
    intro W2 hW2
    go_wp2_with fail
    (try simp only [Exit.inBlock, Exit.then])
    refine bodyPost_ret (results_cell_tmp2 rfl _ _ (w.heap.size + 1) 33 _ _ dj rfl (setRow_new hW2 HB2n.out) dj1 (by cases dj <;> first | rfl | exact dj2) (by kernel_rfl)) rfl ?_
    rw [HJ.out]
    exact ⟨setRow_kept hW2 HK2.out (by omega), _, rfl, Or.inl ⟨rfl, rfl⟩⟩
  | true =>
   have HJ := Lib.hid (show judgeT m c d = judgeB m c d by unfold judgeT; rw [hr, hp]; rfl)
   have hfd := dright_fine hr
   have HP := Lib.hid hp
   clear hr hp
   go_wp2_with fail
   refine (Dv.dright_any d _ _ (HL.out.keep (kept_trans HK0.out HKV.out))).mono ?_
   rintro e w1 ⟨rfl, hk1⟩
   rw [HR.out]
   have HK1 := Lib.hid (kept_trans HKV.out hk1)
   have HB1n := Lib.hid ((Below.block hk1 _ (by have := HSV.out; omega)).trans HB1.out)
   have HB0n := Lib.hid ((Below.block hk1 _ (Array.getElem?_eq_some_iff.1 HB0.out).1).trans HB0.out)
   clear y0 y1 y2 hk1
   go_wp2_with fail
   refine (ckpure_any c _ _ ((Se.liesEQ_lies HC.out).keep (kept_trans HK0.out HK1.out))).mono ?_
   rintro e w2 ⟨rfl, hk2⟩
   rw [HP.out]
   have HK2 := Lib.hid (kept_trans HK1.out hk2)
   have HB2n := Lib.hid ((Below.block hk2 _ (Array.getElem?_eq_some_iff.1 HB1n.out).1).trans HB1n.out)
   have HB3n := Lib.hid ((Below.block hk2 _ (Array.getElem?_eq_some_iff.1 HB0n.out).1).trans HB0n.out)
   clear hk2
   go_wp2_with (refine stop_store 61 (.tmp 9) (.tmp 22) rfl ?_)
   intro _
   refine wpList_store_part_n (by rfl) 61 (.tmp 9) (.tmp 22) rfl (w2.heap.size) 0 #[.float .f64 m, .slice none 0 0] (by rfl) (by rfl) 61 (by kernel_rfl) (row_ok rfl) ?_
   intro W hW
   subst hW
   refine ⟨_, #[.float .f64 m, .slice none 0 0], alloc_new _ _, rfl, Nat.le_of_ble_eq_true rfl, ?_⟩
   intro W3 hW3
   obtain ⟨hk3, hb3, hs3⟩ := fresh_any hW3
   obtain ⟨K, hK⟩ : ∃ K, w2.heap.size = K := ⟨_, rfl⟩
   rw [hK] at hb3 hs3
   rw [hK]
   have HK3 := Lib.hid (kept_trans HK2.out hk3)
   have HR3 := Lib.hid ((Below.block hk3 _ (Array.getElem?_eq_some_iff.1 HB2n.out).1).trans HB2n.out)
   have hb0' := (Below.block hk3 _ (Array.getElem?_eq_some_iff.1 HB3n.out).1).trans HB3n.out
   have y0 : W3.cell? ⟨w.heap.size, 0, none⟩ = some (.int .i64 d.k) := by rw [Lib.cell_of_heap hb0']; rfl
   have y1 : W3.cell? ⟨w.heap.size, 1, none⟩ = some (.int .i64 d.i) := by rw [Lib.cell_of_heap hb0']; rfl
   have y2 : W3.cell? ⟨w.heap.size, 2, none⟩ = some (.slice a d.kids.length cap) := by rw [Lib.cell_of_heap hb0']; rfl
   have hwK : w.heap.size + 1 < K := by have := (Array.getElem?_eq_some_iff.1 HB2n.out).1; omega
   have HST := Lib.hid (show St w.heap.size K m (.slice none 0 0) [] W3 from ⟨hb3, by omega, Or.inl ⟨rfl, rfl⟩⟩)
   have HCALL := Lib.hid (ckjudge_any w.heap.size K m hm d c W3 sc (.slice a d.kids.length cap) (.slice none 0 0) [] (fun b => P b ∧ b < w0.heap.size) (Se.liesEQ_keep HC.out (fun b _ hb => (kept_trans HK0.out HK3.out).block b hb) (fun b h hlt => ⟨h, hlt⟩)) (HL.out.keep (kept_trans HK0.out HK3.out)) hfd HST.out hcs hsc (by simp; omega))
   clear hb0' hW3 hk3 hb3 hs3 hK
   go_wp2_with fail
   cases hx : judgeB m c d with
   | error ea =>
    obtain ⟨er, q⟩ := ea
    have her := judgeB_err m _ _ hx
    have HCE := HCALL.out
    rw [hx] at HCE
    have HCE2 := Lib.hid HCE
    have HX := Lib.hid hx
    clear HCALL HCE hx
    refine HCE2.out.mono ?_
    rintro e w4 ⟨hf4, pv4, rfl, hs4⟩
    obtain ⟨ap, cp, he, hpc, hpm⟩ := hs4.row.slc
    subst he
    have HK4 := Lib.hid ((((Fr.of HK3.out : Fr w.heap.size K w W3).trans hf4).kept rfl) : Kept w w4)
    have hr4 := (hf4.block (w.heap.size + 1) (Array.getElem?_eq_some_iff.1 HR3.out).1 (Or.inr ⟨by omega, not_row HR3.out (by decide)⟩)).trans HR3.out
    have HST4 := Lib.hid hs4
    have HR4 := Lib.hid hr4
    clear hs4 hr4 HCE2
    rcases her with her | her
    ·obtain rfl : er = 3 := her
     go_wp2_with (refine stop_store 33 (.tmp 10) (.tmp 27) rfl ?_)
     intro _
     refine wpList_store_part_n (by rfl) 33 (.tmp 10) (.tmp 27) rfl (w4.heap.size) 0 zAgg (by rfl) (by rfl) 33 (by kernel_rfl) (row_ok rfl) ?_
     intro W hW
     subst hW
     refine ⟨_, zAgg, alloc_new _ _, rfl, Nat.le_of_ble_eq_true rfl, ?_⟩
     intro w5 hwn
     have hfr := fresh_judg hwn
     clear hwn
     have hk5 := hfr.1
     go_upto_region 6 with fail
     have HST5 := Lib.hid (HST4.out.later hk5)
     have HR5 := Lib.hid ((Below.block hk5 _ (Array.getElem?_eq_some_iff.1 HR4.out).1).trans HR4.out)
     have HK5 := Lib.hid (kept_trans HK4.out hk5)
     clear hk5 hfr
     have k1 := HST5.out.cells.2
     have HNK := Lib.hid (show K ≠ w.heap.size + 1 by omega)
     have HK5D := Lib.hid (show Kept w w5.drew from ⟨HK5.out.os, HK5.out.tape, HK5.out.output, HK5.out.size, fun b hb => HK5.out.block b hb⟩)
     refine wp_region_held_drew (S := fun w' => w'.cell? ⟨K, 1, none⟩ = some (.slice ap ([] ++ q).length cp) ∧ w'.heap[w.heap.size + 1]? = some (Obj.cells zAgg 33 (0, 0))) (by kernel_rfl) ?_ (fun hHeld => ?_)
     ·(try dsimp only)
      (first | exact ⟨(by rw [← hW2]; exact (cell_setRow_other _ _ _ _ (show _ ≠ _ from HNK.out)).trans k1), setRow_new hW2 HR5.out⟩ | exact ⟨k1, HR5.out⟩)
     refine take_at 0 31 ckr_0 (v := ?_) (Or.inl ⟨by rfl, ?_⟩) ?_
     rotate_left 1
     ·((intro w hSw; (try dsimp only at hSw); unfold ckr_0; go_simp) <;> with_reducible rfl)
     (try simp only [Act.put, List.setIfInBounds_toArray, List.set_cons_zero, List.set_cons_succ])
     refine take_at 1 32 ckr_1 (v := ?_) (Or.inl ⟨by rfl, ?_⟩) ?_
     rotate_left 1
     ·((intro w hSw; (try dsimp only at hSw); unfold ckr_1; go_simp) <;> with_reducible rfl)
     (try simp only [Act.put, List.setIfInBounds_toArray, List.set_cons_zero, List.set_cons_succ])
     refine take_at 2 33 ckr_2 (v := ?_) (Or.inl ⟨by rfl, ?_⟩) ?_
     rotate_left 1
     ·((intro w hSw; (try dsimp only at hSw); unfold ckr_2; go_simp) <;> with_reducible rfl)
     (try simp only [Act.put, List.setIfInBounds_toArray, List.set_cons_zero, List.set_cons_succ])
     refine take_at 3 34 ckr_3 (v := ?_) (Or.inl ⟨by rfl, ?_⟩) ?_
     rotate_left 1
     ·((intro w hSw; (try dsimp only at hSw); obtain ⟨hS0, hS1⟩ := hSw; unfold ckr_3; go_simp) <;> with_reducible rfl)
     (try simp only [Act.put, List.setIfInBounds_toArray, List.set_cons_zero, List.set_cons_succ])
     refine wpAnyH_ready (rs := [4]) (by kernel_rfl) (by simp) ?_
     refine AllReadyH.cons (o := ckr_4) rfl (fun K hK => ?_) ?_
     ·unfold ckr_4
      refine step_store_part rfl 33 (.tmp 6) (.tmp 31) rfl (w.heap.size + 1) 0 zAgg rfl rfl 33 (by kernel_rfl) (row_ok rfl) _ zAgg HR5.out rfl (Nat.le_of_ble_eq_true rfl) ?_
      intro W2 hW2
      refine hK.out _ _ ?_ (fun hHeld => ?_)
      ·(try dsimp only)
       (first | exact ⟨(by rw [← hW2]; exact (cell_setRow_other _ _ _ _ (show _ ≠ _ from HNK.out)).trans k1), setRow_new hW2 HR5.out⟩ | exact ⟨k1, HR5.out⟩)
      clear hK K
      (try simp only [Act.put])
      refine take_at 5 7 ckr_5 (v := ?_) (Or.inl ⟨by rfl, ?_⟩) ?_
      rotate_left 1
      ·((intro w hSw; (try dsimp only at hSw); unfold ckr_5; go_simp) <;> with_reducible rfl)
      (try simp only [Act.put, List.setIfInBounds_toArray, List.set_cons_zero, List.set_cons_succ])
      refine take_at 6 8 ckr_6 (v := ?_) (Or.inl ⟨by rfl, ?_⟩) ?_
      rotate_left 1
      ·((intro w hSw; (try dsimp only at hSw); unfold ckr_6; go_simp) <;> with_reducible rfl)
      (try simp only [Act.put, List.setIfInBounds_toArray, List.set_cons_zero, List.set_cons_succ])
      refine wpAnyH_done (by kernel_rfl) ?_ _
      clear hHeld
      go_wp2_with fail
      (try simp only [Exit.inBlock, Exit.then])
      refine bodyPost_ret (results_cell_tmp2 rfl _ _ (w.heap.size + 1) 33 _ _ dj rfl (setRow_new hW2 HR5.out) dj1 (by cases dj <;> first | rfl | exact dj2) (by kernel_rfl)) rfl ?_
      rw [HJ.out, HX.out]
      exact ⟨setRow_kept hW2 HK5D.out (by omega), _, rfl, by simpa using rowI_set hW2 HR5.out HST5.out.drew.row⟩
     exact AllReadyH.nil
    ·obtain rfl : er = 4 := her
     go_wp2_with (refine stop_store 33 (.tmp 10) (.tmp 27) rfl ?_)
     intro _
     refine wpList_store_part_n (by rfl) 33 (.tmp 10) (.tmp 27) rfl (w4.heap.size) 0 zAgg (by rfl) (by rfl) 33 (by kernel_rfl) (row_ok rfl) ?_
     intro W hW
     subst hW
     refine ⟨_, zAgg, alloc_new _ _, rfl, Nat.le_of_ble_eq_true rfl, ?_⟩
     intro w5 hwn
     have hfr := fresh_judg hwn
     clear hwn
     have hk5 := hfr.1
     go_upto_region 6 with fail
     have HST5 := Lib.hid (HST4.out.later hk5)
     have HR5 := Lib.hid ((Below.block hk5 _ (Array.getElem?_eq_some_iff.1 HR4.out).1).trans HR4.out)
     have HK5 := Lib.hid (kept_trans HK4.out hk5)
     clear hk5 hfr
     have k1 := HST5.out.cells.2
     have HNK := Lib.hid (show K ≠ w.heap.size + 1 by omega)
     have HK5D := Lib.hid (show Kept w w5.drew from ⟨HK5.out.os, HK5.out.tape, HK5.out.output, HK5.out.size, fun b hb => HK5.out.block b hb⟩)
     refine wp_region_held_drew (S := fun w' => w'.cell? ⟨K, 1, none⟩ = some (.slice ap ([] ++ q).length cp) ∧ w'.heap[w.heap.size + 1]? = some (Obj.cells zAgg 33 (0, 0))) (by kernel_rfl) ?_ (fun hHeld => ?_)
     ·(try dsimp only)
      (first | exact ⟨(by rw [← hW2]; exact (cell_setRow_other _ _ _ _ (show _ ≠ _ from HNK.out)).trans k1), setRow_new hW2 HR5.out⟩ | exact ⟨k1, HR5.out⟩)
     refine take_at 0 31 ckr_0 (v := ?_) (Or.inl ⟨by rfl, ?_⟩) ?_
     rotate_left 1
     ·((intro w hSw; (try dsimp only at hSw); unfold ckr_0; go_simp) <;> with_reducible rfl)
     (try simp only [Act.put, List.setIfInBounds_toArray, List.set_cons_zero, List.set_cons_succ])
     refine take_at 1 32 ckr_1 (v := ?_) (Or.inl ⟨by rfl, ?_⟩) ?_
     rotate_left 1
     ·((intro w hSw; (try dsimp only at hSw); unfold ckr_1; go_simp) <;> with_reducible rfl)
     (try simp only [Act.put, List.setIfInBounds_toArray, List.set_cons_zero, List.set_cons_succ])
     refine take_at 2 33 ckr_2 (v := ?_) (Or.inl ⟨by rfl, ?_⟩) ?_
     rotate_left 1
     ·((intro w hSw; (try dsimp only at hSw); unfold ckr_2; go_simp) <;> with_reducible rfl)
     (try simp only [Act.put, List.setIfInBounds_toArray, List.set_cons_zero, List.set_cons_succ])
     refine take_at 3 34 ckr_3 (v := ?_) (Or.inl ⟨by rfl, ?_⟩) ?_
     rotate_left 1
     ·((intro w hSw; (try dsimp only at hSw); obtain ⟨hS0, hS1⟩ := hSw; unfold ckr_3; go_simp) <;> with_reducible rfl)
     (try simp only [Act.put, List.setIfInBounds_toArray, List.set_cons_zero, List.set_cons_succ])
     refine wpAnyH_ready (rs := [4]) (by kernel_rfl) (by simp) ?_
     refine AllReadyH.cons (o := ckr_4) rfl (fun K hK => ?_) ?_
     ·unfold ckr_4
      refine step_store_part rfl 33 (.tmp 6) (.tmp 31) rfl (w.heap.size + 1) 0 zAgg rfl rfl 33 (by kernel_rfl) (row_ok rfl) _ zAgg HR5.out rfl (Nat.le_of_ble_eq_true rfl) ?_
      intro W2 hW2
      refine hK.out _ _ ?_ (fun hHeld => ?_)
      ·(try dsimp only)
       (first | exact ⟨(by rw [← hW2]; exact (cell_setRow_other _ _ _ _ (show _ ≠ _ from HNK.out)).trans k1), setRow_new hW2 HR5.out⟩ | exact ⟨k1, HR5.out⟩)
      clear hK K
      (try simp only [Act.put])
      refine take_at 5 7 ckr_5 (v := ?_) (Or.inl ⟨by rfl, ?_⟩) ?_
      rotate_left 1
      ·((intro w hSw; (try dsimp only at hSw); unfold ckr_5; go_simp) <;> with_reducible rfl)
      (try simp only [Act.put, List.setIfInBounds_toArray, List.set_cons_zero, List.set_cons_succ])
      refine take_at 6 8 ckr_6 (v := ?_) (Or.inl ⟨by rfl, ?_⟩) ?_
      rotate_left 1
      ·((intro w hSw; (try dsimp only at hSw); unfold ckr_6; go_simp) <;> with_reducible rfl)
      (try simp only [Act.put, List.setIfInBounds_toArray, List.set_cons_zero, List.set_cons_succ])
      refine wpAnyH_done (by kernel_rfl) ?_ _
      clear hHeld
      go_wp2_with fail
      (try simp only [Exit.inBlock, Exit.then])
      refine bodyPost_ret (results_cell_tmp2 rfl _ _ (w.heap.size + 1) 33 _ _ dj rfl (setRow_new hW2 HR5.out) dj1 (by cases dj <;> first | rfl | exact dj2) (by kernel_rfl)) rfl ?_
      rw [HJ.out, HX.out]
      exact ⟨setRow_kept hW2 HK5D.out (by omega), _, rfl, by simpa using rowI_set hW2 HR5.out HST5.out.drew.row⟩
     exact AllReadyH.nil
   | ok x =>
    have HCE := HCALL.out
    rw [hx] at HCE
    have HCE2 := Lib.hid HCE
    have HX := Lib.hid hx
    clear HCALL HCE hx
    refine HCE2.out.mono ?_
    rintro e w4 ⟨hf4, su, sv, sa, pv4, rfl, hs4, hfx, hu, hv, ha⟩
    obtain ⟨au, cu, Su, rfl, -⟩ := hu.out
    obtain ⟨av, cv, Sv, rfl, -⟩ := hv.out
    obtain ⟨aa, ca, Sa, rfl, -⟩ := ha.out
    have HK4 := Lib.hid ((((Fr.of HK3.out : Fr w.heap.size K w W3).trans hf4).kept rfl) : Kept w w4)
    have hr4 := (hf4.block (w.heap.size + 1) (Array.getElem?_eq_some_iff.1 HR3.out).1 (Or.inr ⟨by omega, not_row HR3.out (by decide)⟩)).trans HR3.out
    have hsz3 : K + 1 ≤ W3.heap.size := HST.out.lt
    have hsz4 := hf4.size
    go_wp2_with (refine stop_store 33 (.tmp 10) (.tmp 27) rfl ?_)
    intro _
    refine wpList_store_part_n (by rfl) 33 (.tmp 10) (.tmp 27) rfl (w4.heap.size) 0 #[.bool x.eq, .int .i64 x.u.k, .int .i64 x.u.i, .int .i64 x.u.j, .int .i64 x.u.n, (.slice au x.u.kids.length cu), .int .i64 x.v.k, .int .i64 x.v.i, .int .i64 x.v.j, .int .i64 x.v.n, (.slice av x.v.kids.length cv), .int .i64 x.a.k, .int .i64 x.a.i, .int .i64 x.a.j, .int .i64 x.a.n, (.slice aa x.a.kids.length ca), .int .i64 x.i] (by rfl) (by rfl) 33 (by kernel_rfl) (row_ok rfl) ?_
    intro W hW
    subst hW
    refine ⟨_, #[.bool x.eq, .int .i64 x.u.k, .int .i64 x.u.i, .int .i64 x.u.j, .int .i64 x.u.n, (.slice au x.u.kids.length cu), .int .i64 x.v.k, .int .i64 x.v.i, .int .i64 x.v.j, .int .i64 x.v.n, (.slice av x.v.kids.length cv), .int .i64 x.a.k, .int .i64 x.a.i, .int .i64 x.a.j, .int .i64 x.a.n, (.slice aa x.a.kids.length ca), .int .i64 x.i], alloc_new _ _, rfl, Nat.le_of_ble_eq_true rfl, ?_⟩
    intro W5 hwn
    have hfr := fresh_judg hwn
    clear hwn
    obtain ⟨hk5, hb5, hs5⟩ := hfr
    obtain ⟨E, hE⟩ : ∃ E, w4.heap.size = E := ⟨_, rfl⟩
    rw [hE] at hb5 hs5
    rw [hE]
    go_upto_region 7 with fail
    have HK5 := Lib.hid (kept_trans HK4.out hk5)
    have HR5 := Lib.hid ((Below.block hk5 _ (Array.getElem?_eq_some_iff.1 hr4).1).trans hr4)
    have HB5 := Lib.hid hb5
    have HU5 := Lib.hid (hu.later hk5)
    have HV5 := Lib.hid (hv.later hk5)
    have HA5 := Lib.hid (ha.later hk5)
    have HFX := Lib.hid hfx
    clear hk5 hb5 hs5 hE hu hv ha hfx hs4 hf4 HCE2
    go_wp2_with (refine stop_load 33 (.tmp 10) rfl ?_)
    intro _
    refine wpList_load_part (E) (0) 33 (.tmp 10) #[.bool x.eq, .int .i64 x.u.k, .int .i64 x.u.i, .int .i64 x.u.j, .int .i64 x.u.n, (.slice au x.u.kids.length cu), .int .i64 x.v.k, .int .i64 x.v.i, .int .i64 x.v.j, .int .i64 x.v.n, (.slice av x.v.kids.length cv), .int .i64 x.a.k, .int .i64 x.a.i, .int .i64 x.a.j, .int .i64 x.a.n, (.slice aa x.a.kids.length ca), .int .i64 x.i] dj HB5.out (by rfl) rfl (by rfl) (by rfl) dj1 (by cases dj <;> first | rfl | exact dj2) (by kernel_rfl) ?_
    go_wp2_with (refine stop_store 33 (.tmp 6) (.tmp 35) rfl ?_)
    intro _
    refine wpList_store_part_n (by rfl) 33 (.tmp 6) (.tmp 35) rfl (w.heap.size + 1) 0 #[.bool x.eq, .int .i64 x.u.k, .int .i64 x.u.i, .int .i64 x.u.j, .int .i64 x.u.n, (.slice au x.u.kids.length cu), .int .i64 x.v.k, .int .i64 x.v.i, .int .i64 x.v.j, .int .i64 x.v.n, (.slice av x.v.kids.length cv), .int .i64 x.a.k, .int .i64 x.a.i, .int .i64 x.a.j, .int .i64 x.a.n, (.slice aa x.a.kids.length ca), .int .i64 x.i] (by rfl) (by rfl) 33 (by kernel_rfl) (row_ok rfl) ?_
    intro W hW
    subst hW
    refine ⟨_, #[.bool x.eq, .int .i64 x.u.k, .int .i64 x.u.i, .int .i64 x.u.j, .int .i64 x.u.n, (.slice au x.u.kids.length cu), .int .i64 x.v.k, .int .i64 x.v.i, .int .i64 x.v.j, .int .i64 x.v.n, (.slice av x.v.kids.length cv), .int .i64 x.a.k, .int .i64 x.a.i, .int .i64 x.a.j, .int .i64 x.a.n, (.slice aa x.a.kids.length ca), .int .i64 x.i], HR5.out, rfl, Nat.le_of_ble_eq_true rfl, ?_⟩
    intro W2 hW2
    go_wp2_with fail
    (try simp only [Exit.inBlock, Exit.then])
    refine bodyPost_ret (results_cell_tmp2 rfl _ _ (w.heap.size + 1) 33 _ _ dj rfl (setRow_new hW2 HR5.out) dj1 (by cases dj <;> first | rfl | exact dj2) (by kernel_rfl)) rfl ?_
    rw [HJ.out, HX.out]
    have hzW : w.heap.size ≤ W3.heap.size := HK3.out.size
    have hne : ∀ b, ((P b ∧ b < w0.heap.size) ∨ W3.heap.size ≤ b) → b ≠ w.heap.size + 1 := fun b hb => by rcases hb with ⟨_, hb⟩ | hb <;> omega
    have hnw : ∀ b, ((P b ∧ b < w0.heap.size) ∨ W3.heap.size ≤ b) → (P b ∨ w.heap.size ≤ b) := fun b hb => by rcases hb with ⟨hb, _⟩ | hb; exact Or.inl hb; exact Or.inr (by omega)
    exact ⟨setRow_kept hW2 HK5.out (by omega), _, _, _, rfl, HFX.out, liesQ_set hW2 HU5.out hne hnw, liesQ_set hW2 HV5.out hne hnw, liesQ_set hW2 HA5.out hne hnw⟩
theorem ckJudgeQ_any (m : Nat) (hm : Mild m) (d : Dv.Tm) (c : List En) (w0 w : World) (hk0 : Kept w0 w) (sc s : Value) (hlc : LiesE w0 c sc) (hl : Dv.Lies w0 d.kids s) (hcs : c.length + d.size ≤ 101) (hsc : Smc c) :
  Calls Try.prog 9 #[sc, Dv.tv d s, .float .f64 m] w (GivesTQ w0.heap.size (judgeT m c d) w) :=
 ckJudgeP_any _ m hm d c w0 w hk0 sc s (Se.liesE_q hlc) hl hcs hsc
theorem ckJudge_any (m : Nat) (hm : Mild m) (d : Dv.Tm) (c : List En) (w : World) (sc s : Value) (hlc : LiesE w c sc) (hl : Dv.Lies w d.kids s) (hcs : c.length + d.size ≤ 101) (hsc : Smc c) :
  Calls Try.prog 9 #[sc, Dv.tv d s, .float .f64 m] w (GivesT (judgeT m c d) w) := by
 refine (ckJudgeQ_any m hm d c w w (kept_refl w) sc s hlc hl hcs hsc).mono fun e w' h => ?_
 obtain ⟨hk, h⟩ := h
 refine ⟨hk, ?_⟩
 cases hr : judgeT m c d with
 | ok j =>
  rw [hr] at h
  obtain ⟨su, sv, sa, rfl, hf, hu, hv, ha⟩ := h
  exact ⟨su, sv, sa, rfl, hf, hu.lies, hv.lies, ha.lies⟩
 | error ea =>
  obtain ⟨er, q⟩ := ea
  rw [hr] at h
  obtain ⟨pv, rfl, hp⟩ := h
  exact ⟨pv, rfl, hp.lies⟩
end Go.Proofs.Ytokgpaajelgakaa.Ck
namespace Go.Proofs.Ytokgpaajelgakaa.Dv
open Go.RowKit
mutual
def Tm.deep : Tm → Nat
  | .mk _ _ l => deeps l + 1
def deeps : List Tm → Nat
  | [] => 0
  | t :: r => max t.deep (deeps r)
end
theorem deeps_take (l : List Tm) (k : Nat) (h : k < l.length) : deeps (l.take (k + 1)) = max (deeps (l.take k)) (l[k]).deep := by
  induction l generalizing k with
  | nil => simp at h
  | cons a r ih =>
    cases k with
    | zero => simp [deeps]
    | succ k => simp only [List.take_succ_cons, deeps, List.getElem_cons_succ]; rw [ih k (by simpa using h)]; omega
theorem Tm.deep_eq (t : Tm) : t.deep = deeps t.kids + 1 := by cases t; rfl
theorem deep_le_size (t : Tm) : t.deep ≤ t.size := by
  induction t using Tm.ind with
  | h t ih =>
    rw [t.deep_eq, t.size_eq]
    have : ∀ l : List Tm, (∀ x ∈ l, x.deep ≤ x.size) → deeps l ≤ sizes l := by
      intro l hl
      induction l with
      | nil => simp [deeps]
      | cons a r ihr => simp only [deeps, sizes]; have := ihr (fun x hx => hl x (List.mem_cons_of_mem _ hx)); have := hl a List.mem_cons_self; omega
    have := this t.kids ih
    omega
end Go.Proofs.Ytokgpaajelgakaa.Dv
namespace Go.Proofs.Ytokgpaajelgakaa.Dv
open Go.RowKit
def Weighed (t : Tm) (most deep : Int) (w : World) (e : Ending) (w' : World) : Prop :=
 ∃ r : Int, e = .returned (.int .i64 r) ∧ 1 ≤ r ∧ r ≤ most + 1 ∧ (r ≤ most → r = t.size ∧ (t.deep : Int) ≤ deep + 1) ∧ Below w.heap.size w w'
set_option maxHeartbeats 800000 in
theorem dweigh_any (t : Tm) : ∀ (w : World) (s : Value) (most deep : Int), Lies w t.kids s → 0 ≤ most → most ≤ 100000 → -1 ≤ deep → deep ≤ 100000 →
  Calls Try.prog 25 #[tv t s, .int .i64 most, .int .i64 deep] w (Weighed t most deep w) := by
 induction t using Tm.ind with
 | h t ih =>
  intro w s most deep hl h0 h1 h2 h3
  obtain ⟨a, cap, S, rfl, hc, hm, hf, hn, hk⟩ := hl.out
  unfold tv
  have hsz := t.size_eq
  have hdp := t.deep_eq
  unfold maxLen at hm
  have IH := Lib.hid ih
  have HN := Lib.hid hn
  have HK := Lib.hid hk
  have HSZ := Lib.hid hsz
  have HDP := Lib.hid hdp
  clear ih hn hk hf hl hsz hdp
  by_cases hd : deep < 0
  ·go_enter Try.func25, Try.ntmps25
   go_wp2
   go_ret
   exact ⟨most + 1, rfl, by omega, by omega, fun h => by omega, (Below.refl _ _).alloc (Nat.le_refl _) _⟩
  go_enter Try.func25, Try.ntmps25
  have hcell : ∀ (wr : World), Below (w.heap.size + 1) (w.alloc (.cells #[.int .i64 t.k, .int .i64 t.i, .slice a t.kids.length cap] 25)) wr → wr.cell? ⟨w.heap.size, 2, none⟩ = some (.slice a t.kids.length cap) := fun wr h => by
   rw [h.cell (p := ⟨w.heap.size, 2, none⟩) (by exact Nat.lt_succ_self _), World.cell?_alloc_at _ _ _ _ rfl]; rfl
  have HC := Lib.hid hcell
  clear hcell
  go_wp2
  go_loopw [7, 8] (fun nv iv wr => ∃ (k : Nat) (n : Int), k ≤ t.kids.length ∧ iv = .int .i64 k ∧ nv = .int .i64 n ∧ 1 ≤ n ∧ n ≤ most + 1 ∧ Hid (n ≤ most → n = ((1 + sizes (t.kids.take k) : Nat) : Int) ∧ (deeps (t.kids.take k) : Int) ≤ deep) ∧
    Below (w.heap.size + 1) (w.alloc (.cells #[.int .i64 t.k, .int .i64 t.i, .slice a t.kids.length cap] 25)) wr) (fun _ i _ => t.kids.length - (intOf i).toNat)
  case atStart => exact ⟨0, 1, Nat.zero_le _, rfl, rfl, by omega, by omega, fun _ => ⟨by simp [sizes], by simp [deeps]; omega⟩, Below.refl _ _⟩
  case round =>
   obtain ⟨k, n, hk, rfl, rfl, hn1, hn2, hrel, hb⟩ := hrel
   have hc4 := HC.out wr hb
   have hb0 : Below w.heap.size w wr := ((Below.refl _ _).alloc (Nat.le_refl _) _).trans (hb.mono (by omega))
   by_cases hlt : k < t.kids.length
   ·by_cases hnm : n ≤ most
    ·obtain ⟨b, o, rfl, hx⟩ := HN.out k hlt
     have hy := hx.below hb0 hx.lt
     obtain ⟨c0, c1, c2⟩ := hy
     have hq := HK.out k hlt
     obtain ⟨a', cap', S', hS, -⟩ := hq.out
     rw [hS] at c2 hq
     have HQ := Lib.hid (hq.keep hb0)
     clear hS hq
     have HM := Lib.hid (List.getElem_mem hlt)
     have HT := Lib.hid (sizes_take t.kids k hlt)
     have HT2 := Lib.hid (deeps_take t.kids k hlt)
     go_wp2_with fail
     refine (IH.out _ HM.out _ _ _ _ HQ.out (by omega) (by omega) (by omega) (by omega)).mono ?_
     rintro e w' ⟨r, rfl, hr1, hr2, hr3, hb'⟩
     have HR3 := Lib.hid hr3
     have HB' := hb.trans (hb'.mono (by have := hb.size; simpa using this))
     clear hb' hb hb0 hc4 hr3
     go_wp2
     go_roundw
     case rel =>
      refine ⟨k + 1, n + r, by omega, by go_num, rfl, by omega, by omega, ?_, HB'⟩
      intro hle
      obtain ⟨e1, e2⟩ := hrel.out hnm
      obtain ⟨e3, e4⟩ := HR3.out (by omega)
      rw [HT.out, HT2.out, e1, e3]
      exact ⟨by simp; omega, by omega⟩
     case measure => simp [intOf]; omega
    ·go_wp2
     go_ret
     exact ⟨n, rfl, by omega, by omega, fun h => absurd h (by omega), hb0⟩
   ·have : k = t.kids.length := by omega
    subst this
    go_wp2
    all_goals go_ret
    all_goals
     refine ⟨n, rfl, by omega, by omega, fun h => ?_, hb0⟩
     obtain ⟨e1, e2⟩ := hrel.out h
     rw [List.take_length] at e1 e2
     rw [HSZ.out, HDP.out]
     exact ⟨by rw [e1]; simp; omega, by omega⟩
def NotGreat (t : Tm) (most : Int) (w : World) (e : Ending) (w' : World) : Prop :=
 ∃ g : Bool, e = .returned (.bool g) ∧ (g = false → (t.size : Int) ≤ most ∧ t.deep ≤ 201) ∧ Below w.heap.size w w'
set_option maxHeartbeats 800000 in
theorem dgreat_any (t : Tm) (w : World) (s : Value) (most : Int) (hl : Lies w t.kids s) (h0 : 0 ≤ most) (h1 : most ≤ 100000) :
  Calls Try.prog 14 #[tv t s, .int .i64 most] w (NotGreat t most w) := by
 obtain ⟨a, cap, S, hs, -⟩ := hl.out
 subst hs
 have HB : Below w.heap.size w (w.alloc (.cells #[.int .i64 t.k, .int .i64 t.i, .slice a t.kids.length cap] 25)) := (Below.refl _ _).alloc (Nat.le_refl _) _
 have HL := Lib.hid (hl.keep HB)
 clear hl
 unfold tv
 go_enter Try.func14, Try.ntmps14
 go_wp2_with fail
 refine (dweigh_any t _ _ _ _ HL.out h0 h1 (by omega) (by omega)).mono ?_
 rintro e w' ⟨r, rfl, hr1, hr2, hr3, hb'⟩
 have HR3 := Lib.hid hr3
 have HB' := HB.trans (hb'.mono HB.size)
 clear hr3 hb' HB
 go_wp2
 go_ret
 refine ⟨_, rfl, fun h => ?_, HB'⟩
 have hrm : r ≤ most := by simpa using h
 obtain ⟨e3, e4⟩ := HR3.out hrm
 omega
end Go.Proofs.Ytokgpaajelgakaa.Dv
namespace Go.Proofs.Ytokgpaajelgakaa.Ck
open Go Go.RowKit
open Se (ofB Sml sizeJ zJ)
def HeavyG (c : List En) (d : Dv.Tm) (w : World) (e : Ending) (w' : World) : Prop :=
 ∃ g : Bool, e = .returned (.bool g) ∧ (g = false → c.length ≤ 60 ∧ (∀ x ∈ c, x.a.size ≤ 60) ∧ d.size ≤ 40) ∧ Kept w w'
set_option maxRecDepth 20000 in
set_option maxHeartbeats 4000000 in
theorem heavy_any (c : List En) (d : Dv.Tm) (w : World) (sc s : Value) (hc : LiesE w c sc) (hl : Dv.Lies w d.kids s) : Calls Try.prog 7 #[sc, Dv.tv d s] w (HeavyG c d w) := by
 obtain ⟨a, cap, S, rfl, -⟩ := hl.out
 unfold Dv.tv
 have HC := Lib.hid hc
 have HL := Lib.hid hl
 have hA : Kept w (w.alloc (.cells #[.int .i64 d.k, .int .i64 d.i, .slice a d.kids.length cap] 25)) := (Below.refl w.heap.size w).alloc (Nat.le_refl _) _
 have HA := Lib.hid hA
 clear hc hl hA
 go_enter Try.func7, Try.ntmps7
 go_upto_region 1 with fail
 have hb0 : (w.alloc (.cells #[.int .i64 d.k, .int .i64 d.i, .slice a d.kids.length cap] 25)).heap[w.heap.size]? = some (Obj.cells #[.int .i64 d.k, .int .i64 d.i, .slice a d.kids.length cap] 25 (0, 0)) := alloc_new _ _
 generalize w.alloc (.cells #[.int .i64 d.k, .int .i64 d.i, .slice a d.kids.length cap] 25) = V at HA hb0 ⊢
 have HB0 := Lib.hid hb0
 clear hb0
 go_wp2_with fail
 refine (greatctx_any c 60 _ _ (HC.out.keep HA.out) (by decide)).mono ?_
 rintro e w1 ⟨g, rfl, hg, hk1⟩
 have HK1 := Lib.hid (kept_trans HA.out hk1)
 have hb1 := (Below.block hk1 _ (Array.getElem?_eq_some_iff.1 HB0.out).1).trans HB0.out
 have y0 : w1.cell? ⟨w.heap.size, 0, none⟩ = some (.int .i64 d.k) := by rw [Lib.cell_of_heap hb1]; rfl
 have y1 : w1.cell? ⟨w.heap.size, 1, none⟩ = some (.int .i64 d.i) := by rw [Lib.cell_of_heap hb1]; rfl
 have y2 : w1.cell? ⟨w.heap.size, 2, none⟩ = some (.slice a d.kids.length cap) := by rw [Lib.cell_of_heap hb1]; rfl
 have HG := Lib.hid hg
 clear hb1 hk1 hg
 cases g with
 | true =>
  go_wp2_with fail
  go_ret
  exact ⟨true, rfl, (fun h => by cases h), HK1.out⟩
 | false =>
  go_wp2_with fail
  refine (Dv.dgreat_any d _ _ 40 (HL.out.keep HK1.out) (by decide) (by decide)).mono ?_
  rintro e w2 ⟨g2, rfl, hg2, hk2⟩
  have HG2 := Lib.hid hg2
  have HK2 := Lib.hid (kept_trans HK1.out hk2)
  clear hg2 hk2 y0 y1 y2
  go_wp2_with fail
  go_ret
  refine ⟨g2, rfl, fun h => ?_, HK2.out⟩
  have h1 := HG.out (by first | rfl | trivial)
  have h2 := HG2.out h
  exact ⟨h1.1, fun x hx => by have := (h1.2 x hx).1; omega, by omega⟩
theorem wake_ok : judgeT 4611686018427387904 [] (.mk 1 0 []) = .ok ⟨false, .mk 1 0 0 0 [], .zero, .mk 1 1 0 0 [], 2⟩ := by kernel_rfl
theorem wake_no : judgeT 4607182418800017408 [] (.mk 1 0 []) = .error (4, []) := by kernel_rfl
theorem dlies_none (w : World) : Dv.Lies w [] (.slice none 0 0) := .mk [] none 0 (fun _ => .nilIface) (Nat.le_refl _) (by decide) (fun _ h => by cases h) (fun _ h => by cases h) (fun _ h => by cases h)
set_option maxRecDepth 20000 in
set_option maxHeartbeats 4000000 in
theorem wakes16_any (w : World) : Calls Try.prog 10 #[] w fun e w' => e = .returned (.bool true) ∧ Kept w w' := by
 have C2 := Lib.hid (fun (W : World) => ckJudge_any 4611686018427387904 mild_2 (.mk 1 0 []) [] W _ _ (liesE_nil W) (dlies_none W) (by decide) ⟨fun _ h => by cases h⟩)
 have C1 := Lib.hid (fun (W : World) => ckJudge_any 4607182418800017408 mild_1 (.mk 1 0 []) [] W _ _ (liesE_nil W) (dlies_none W) (by decide) ⟨fun _ h => by cases h⟩)
 rw [wake_ok] at C2
 rw [wake_no] at C1
 go_enter Try.func10, Try.ntmps10
 go_wp2_with fail
 refine (C2.out _).mono ?_
 rintro e w1 ⟨hk1, su, sv, sa, rfl, hf, hu, hv, ha⟩
 obtain ⟨au, cu, -, rfl, -⟩ := hu.out
 obtain ⟨av, cv, -, rfl, -⟩ := hv.out
 obtain ⟨aa, ca, -, rfl, -⟩ := ha.out
 have HK1 := Lib.hid hk1
 clear hk1 hf hu hv ha
 go_wp2_with (refine stop_store 33 (.tmp 1) (.tmp 10) rfl ?_)
 intro _
 refine wpList_store_part_n (by rfl) 33 (.tmp 1) (.tmp 10) rfl (w1.heap.size) 0 #[.bool false, .int .i64 1, .int .i64 0, .int .i64 0, .int .i64 0, (.slice au 0 cu), .int .i64 0, .int .i64 0, .int .i64 0, .int .i64 0, (.slice av 0 cv), .int .i64 1, .int .i64 1, .int .i64 0, .int .i64 0, (.slice aa 0 ca), .int .i64 2] (by rfl) (by rfl) 33 (by kernel_rfl) (row_ok rfl) ?_
 intro W hW
 subst hW
 refine ⟨_, #[.bool false, .int .i64 1, .int .i64 0, .int .i64 0, .int .i64 0, (.slice au 0 cu), .int .i64 0, .int .i64 0, .int .i64 0, .int .i64 0, (.slice av 0 cv), .int .i64 1, .int .i64 1, .int .i64 0, .int .i64 0, (.slice aa 0 ca), .int .i64 2], alloc_new _ _, rfl, Nat.le_of_ble_eq_true rfl, ?_⟩
 intro w2 hwn
 have hfr := fresh_judg hwn
 clear hwn
 have HK2 := Lib.hid (kept_trans HK1.out hfr.1)
 have HB2 := Lib.hid hfr.2.1
 have HZ2 := Lib.hid hfr.2.2
 clear hfr
 go_wp2_with fail
 refine (C1.out _).mono ?_
 rintro e w3 ⟨hk3, pv, rfl, hp⟩
 obtain ⟨pa, pc, rfl, -⟩ := hp.out
 have HK3 := Lib.hid (kept_trans HK2.out hk3)
 have HB3 := Lib.hid ((Below.block hk3 _ (Array.getElem?_eq_some_iff.1 HB2.out).1).trans HB2.out)
 clear hk3 hp
 go_wp2_with (refine stop_store 33 (.tmp 4) (.tmp 16) rfl ?_)
 intro _
 refine wpList_store_part_n (by rfl) 33 (.tmp 4) (.tmp 16) rfl (w3.heap.size) 0 zAgg (by rfl) (by rfl) 33 (by kernel_rfl) (row_ok rfl) ?_
 intro W hW
 subst hW
 refine ⟨_, zAgg, alloc_new _ _, rfl, Nat.le_of_ble_eq_true rfl, ?_⟩
 intro w4 hwn
 have hfr := fresh_judg hwn
 clear hwn
 have HK4 := Lib.hid (kept_trans HK3.out hfr.1)
 have hb4 := (Below.block hfr.1 _ (Array.getElem?_eq_some_iff.1 HB3.out).1).trans HB3.out
 have y16 : w4.cell? ⟨w1.heap.size, 16, none⟩ = some (.int .i64 2) := by rw [Lib.cell_of_heap hb4]; rfl
 have y12 : w4.cell? ⟨w1.heap.size, 12, none⟩ = some (.int .i64 1) := by rw [Lib.cell_of_heap hb4]; rfl
 clear hfr hb4
 go_wp2_with fail
 go_ret
 exact ⟨rfl, HK4.out⟩
end Go.Proofs.Ytokgpaajelgakaa.Ck
namespace Go.Proofs.Ytokgpaajelgakaa.Ck
open Go Go.RowKit
open Se (ofB Sml sizeJ zJ)
theorem judgeT_er {m : Nat} {c : List En} {d : Dv.Tm} {er : Int} {q : List Int} (h : judgeT m c d = .error (er, q)) : er = 1 ∨ er = 3 ∨ er = 4 := by
 unfold judgeT at h
 split at h
 ·split at h
  ·exact Or.inr (judgeB_err m d c h)
  ·cases h; exact Or.inl rfl
 ·cases h; exact Or.inl rfl
theorem judgeT_ok {m : Nat} {c : List En} {d : Dv.Tm} {x : Jd} (h : judgeT m c d = .ok x) : d.rightB = true ∧ purC c = true ∧ ∃ on, kidsB m c d.k 0 [] d.kids = .ok on ∧ endB m c d.k d.i on = .ok x := by
 unfold judgeT at h
 split at h
 ·rename_i h1
  split at h
  ·rename_i h2
   refine ⟨h1, h2, ?_⟩
   rw [judgeB_eq] at h
   split at h
   ·cases h
   ·rename_i on ho
    exact ⟨on, ho, h⟩
  ·cases h
 ·cases h
theorem part_step {m : Nat} {c : List En} {r : Int} {k : Nat} {on fin : List Jd} {d : Dv.Tm} {l : List Dv.Tm} (h : kidsB m c r k on (d :: l) = .ok fin) : (premB c r k on).2 = true ∧ ∃ y, judgeB m (premB c r k on).1 d = .ok y ∧ kidsB m c r (k + 1) (on ++ [y]) l = .ok fin := by
 cases hp : (premB c r k on).2 with
 | false => rw [kidsB_no hp] at h; cases h
 | true =>
  cases hj : judgeB m (premB c r k on).1 d with
  | error e => rw [kidsB_err hp hj] at h; cases h
  | ok y => rw [kidsB_ok hp hj] at h; exact ⟨rfl, y, rfl, h⟩
set_option maxRecDepth 20000 in
set_option maxHeartbeats 8000000 in
theorem checkParts_any (c : List En) (d : Dv.Tm) (w : World) (sc s : Value) (hc : LiesE w c sc) (hl : Dv.Lies w d.kids s) : Calls Try.prog 5 #[sc, Dv.tv d s] w fun e w' => e = .returned (.bool true) ∧ Kept w w' := by
 obtain ⟨dj, dj1, dj2⟩ := under_of 33 (by kernel_rfl)
 obtain ⟨a, cap, S, rfl, hcap, hmx, -⟩ := hl.out
 unfold maxLen at hmx
 unfold Dv.tv
 have HC := Lib.hid hc
 have HL := Lib.hid hl
 have hA : Kept w (w.alloc (.cells #[.int .i64 d.k, .int .i64 d.i, .slice a d.kids.length cap] 25)) := (Below.refl w.heap.size w).alloc (Nat.le_refl _) _
 have HA := Lib.hid hA
 clear hc hl hA
 go_enter Try.func5, Try.ntmps5
 go_upto_region 1 with fail
 have hb0 : (w.alloc (.cells #[.int .i64 d.k, .int .i64 d.i, .slice a d.kids.length cap] 25)).heap[w.heap.size]? = some (Obj.cells #[.int .i64 d.k, .int .i64 d.i, .slice a d.kids.length cap] 25 (0, 0)) := alloc_new _ _
 generalize w.alloc (.cells #[.int .i64 d.k, .int .i64 d.i, .slice a d.kids.length cap] 25) = V at HA hb0 ⊢
 have HB0 := Lib.hid hb0
 have y0 : V.cell? ⟨w.heap.size, 0, none⟩ = some (.int .i64 d.k) := by rw [Lib.cell_of_heap hb0]; rfl
 have y1 : V.cell? ⟨w.heap.size, 1, none⟩ = some (.int .i64 d.i) := by rw [Lib.cell_of_heap hb0]; rfl
 have y2 : V.cell? ⟨w.heap.size, 2, none⟩ = some (.slice a d.kids.length cap) := by rw [Lib.cell_of_heap hb0]; rfl
 clear hb0
 have HWK := Lib.hid wakes16_any
 go_wp2_with fail
 refine (heavy_any c d _ _ _ (HC.out.keep HA.out) (HL.out.keep HA.out)).mono ?_
 rintro e w1 ⟨g, rfl, hg, hk1⟩
 have HK1 := Lib.hid (kept_trans HA.out hk1)
 have HG := Lib.hid hg
 have HB1 := Lib.hid ((Below.block hk1 _ (Array.getElem?_eq_some_iff.1 HB0.out).1).trans HB0.out)
 have z0 : w1.cell? ⟨w.heap.size, 0, none⟩ = some (.int .i64 d.k) := by rw [Lib.cell_of_heap HB1.out]; rfl
 have z1 : w1.cell? ⟨w.heap.size, 1, none⟩ = some (.int .i64 d.i) := by rw [Lib.cell_of_heap HB1.out]; rfl
 have z2 : w1.cell? ⟨w.heap.size, 2, none⟩ = some (.slice a d.kids.length cap) := by rw [Lib.cell_of_heap HB1.out]; rfl
 clear y0 y1 y2 hk1 hg
 cases g with
 | true =>
  go_wp2_with fail
  go_ret
  exact ⟨rfl, HK1.out⟩
 | false =>
  have hsz := HG.out rfl
  have HSZ := Lib.hid hsz
  have HSC := Lib.hid (show Smc c from ⟨fun x hx => by have := hsz.2.1 x hx; omega⟩)
  have HCALL := Lib.hid (ckJudge_any 4652007308841189376 mild_1000 d c w1 sc _ (HC.out.keep HK1.out) (HL.out.keep HK1.out) (by omega) HSC.out)
  clear hsz
  go_wp2_with fail
  cases hx : judgeT 4652007308841189376 c d with
  | error ea =>
   obtain ⟨er, q⟩ := ea
   have her : (er != 0) = true := by
    rcases judgeT_er hx with h | h | h <;> subst h <;> rfl
   have HCE := HCALL.out
   rw [hx] at HCE
   have HCE2 := Lib.hid HCE
   clear HCALL HCE hx
   refine HCE2.out.mono ?_
   rintro e w2 ⟨hk2, pv, rfl, hp⟩
   obtain ⟨pa, pc, rfl, -⟩ := hp.out
   have HK2 := Lib.hid (kept_trans HK1.out hk2)
   clear hk2 hp HCE2 z0 z1 z2
   go_wp2_with (refine stop_store 33 (.tmp 5) (.tmp 24) rfl ?_)
   intro _
   refine wpList_store_part_n (by rfl) 33 (.tmp 5) (.tmp 24) rfl (w2.heap.size) 0 zAgg (by rfl) (by rfl) 33 (by kernel_rfl) (row_ok rfl) ?_
   intro W hW
   subst hW
   refine ⟨_, zAgg, alloc_new _ _, rfl, Nat.le_of_ble_eq_true rfl, ?_⟩
   intro w3 hwn
   have hfr := fresh_judg hwn
   clear hwn
   have HK3 := Lib.hid (kept_trans HK2.out hfr.1)
   clear hfr
   go_wp2_with fail
   refine (HWK.out _).mono ?_
   rintro e w4 ⟨rfl, hk4⟩
   go_wp2_with fail
   go_ret
   exact ⟨rfl, kept_trans HK3.out hk4⟩
  | ok x =>
   obtain ⟨hdr, hpc, on, hon, hend⟩ := judgeT_ok hx
   have HDR := Lib.hid hdr
   have HEND := Lib.hid hend
   have HFD := Lib.hid (dright_fine hdr)
   have HCE := HCALL.out
   rw [hx] at HCE
   have HCE2 := Lib.hid HCE
   clear HCALL HCE hx hdr hpc hend
   refine HCE2.out.mono ?_
   rintro e w2 ⟨hk2, su, sv, sa, rfl, hfx, hu, hv, ha⟩
   obtain ⟨aux, cux, -, rfl, -⟩ := hu.out
   obtain ⟨avx, cvx, -, rfl, -⟩ := hv.out
   obtain ⟨aax, cax, -, rfl, -⟩ := ha.out
   have HK2 := Lib.hid (kept_trans HK1.out hk2)
   have HB2 := Lib.hid ((Below.block hk2 _ (Array.getElem?_eq_some_iff.1 HB1.out).1).trans HB1.out)
   have HJL := Lib.hid (show JLies w2 x _ _ _ from ⟨hu, hv, ha⟩)
   clear hk2 hu hv ha hfx HCE2 z0 z1 z2
   go_wp2_with (refine stop_store 33 (.tmp 5) (.tmp 24) rfl ?_)
   intro _
   refine wpList_store_part_n (by rfl) 33 (.tmp 5) (.tmp 24) rfl (w2.heap.size) 0 #[.bool x.eq, .int .i64 x.u.k, .int .i64 x.u.i, .int .i64 x.u.j, .int .i64 x.u.n, (.slice aux x.u.kids.length cux), .int .i64 x.v.k, .int .i64 x.v.i, .int .i64 x.v.j, .int .i64 x.v.n, (.slice avx x.v.kids.length cvx), .int .i64 x.a.k, .int .i64 x.a.i, .int .i64 x.a.j, .int .i64 x.a.n, (.slice aax x.a.kids.length cax), .int .i64 x.i] (by rfl) (by rfl) 33 (by kernel_rfl) (row_ok rfl) ?_
   intro W hW
   subst hW
   refine ⟨_, #[.bool x.eq, .int .i64 x.u.k, .int .i64 x.u.i, .int .i64 x.u.j, .int .i64 x.u.n, (.slice aux x.u.kids.length cux), .int .i64 x.v.k, .int .i64 x.v.i, .int .i64 x.v.j, .int .i64 x.v.n, (.slice avx x.v.kids.length cvx), .int .i64 x.a.k, .int .i64 x.a.i, .int .i64 x.a.j, .int .i64 x.a.n, (.slice aax x.a.kids.length cax), .int .i64 x.i], alloc_new _ _, rfl, Nat.le_of_ble_eq_true rfl, ?_⟩
   intro w3 hwn
   have hfr := fresh_judg hwn
   clear hwn
   have HK3 := Lib.hid (kept_trans HK2.out hfr.1)
   have HJ3 := Lib.hid (HJL.out.keep hfr.1)
   have HE3 := Lib.hid hfr.2.1
   have HB3 := Lib.hid ((Below.block hfr.1 _ (Array.getElem?_eq_some_iff.1 HB2.out).1).trans HB2.out)
   clear hfr
   obtain ⟨E, hE⟩ : ∃ E, w2.heap.size = E := ⟨_, rfl⟩
   rw [hE] at HE3
   rw [hE]
   clear hE
   obtain ⟨i0, hi⟩ := info_parts info_judg
   have HI := Lib.hid hi
   clear hi
   have HON := Lib.hid hon
   clear hon
   go_wp2_with fail
   go_loopw [8, 9] (fun onv iv wr => ∃ (j : Nat) (ps : List PJ), j ≤ d.kids.length ∧ iv = .int .i64 j ∧ Hid (ps.length = j) ∧ Hid (kidsB 4652007308841189376 c d.k j (ps.map (·.1)) (d.kids.drop j) = .ok on) ∧ Hid (∀ q ∈ ps, Smj q.1) ∧ Hid (MadeK w3.heap.size wr onv ps) ∧ Hid (Kept w3 wr)) (fun _ iv _ => d.kids.length - (intOf iv).toNat)
   case atStart => exact ⟨0, [], Nat.zero_le _, rfl, rfl, HON, Lib.hid (fun _ h => by cases h), Lib.hid (madeK_nil _ _), Lib.hid (kept_refl _)⟩
   case round =>
    obtain ⟨j, ps, hj, rfl, hpl, hkb, hsm, hmk, hkr⟩ := hrel
    have HBr := Lib.hid ((Below.block hkr.out _ (Array.getElem?_eq_some_iff.1 HB3.out).1).trans HB3.out)
    have HKr := Lib.hid (kept_trans HK3.out hkr.out)
    have y0 : wr.cell? ⟨w.heap.size, 0, none⟩ = some (.int .i64 d.k) := by rw [Lib.cell_of_heap HBr.out]; rfl
    have y1 : wr.cell? ⟨w.heap.size, 1, none⟩ = some (.int .i64 d.i) := by rw [Lib.cell_of_heap HBr.out]; rfl
    have y2 : wr.cell? ⟨w.heap.size, 2, none⟩ = some (.slice a d.kids.length cap) := by rw [Lib.cell_of_heap HBr.out]; rfl
    have HJQ := Lib.hid (madeK_lies hmk.out)
    by_cases hlt : j < d.kids.length
    ·have hlt' : (j : Int) < (d.kids.length : Int) := by omega
     have hst := hkb.out
     rw [List.drop_eq_getElem_cons hlt] at hst
     obtain ⟨hp2, y, hjy, hnx⟩ := part_step hst
     have HNX := Lib.hid hnx
     have hin : d.kids[j] ∈ d.kids := List.getElem_mem hlt
     have hsp := smc_prem (r := d.k) (kid := (j : Int)) HSC.out (fun z hz => by obtain ⟨q, hq, rfl⟩ := List.mem_map.1 hz; exact hsm.out q hq)
     have hjt : judgeT 4652007308841189376 (premB c d.k j (ps.map (·.1))).1 d.kids[j] = .ok y := by
      unfold judgeT
      rw [if_pos (right_kid HDR.out hin), if_pos (premB_pur hp2)]
      exact hjy
     have hyz := judgeB_small mild_1000 d.kids[j] _ (by have := dsize_kid hin; have := HSZ.out; have := hsp.2; omega) hsp.1 hjy
     have HYZ := Lib.hid hyz
     have HP2 := Lib.hid hp2
     obtain ⟨cc, hcc⟩ : ∃ cc, (premB c d.k j (ps.map (·.1))).1 = cc := ⟨_, rfl⟩
     rw [hcc] at hsp hjt
     have HCC := Lib.hid hcc
     have HSP := Lib.hid hsp
     have HJT := Lib.hid hjt
     clear hst hnx hsp hjt hjy hyz hp2 hcc
     go_wp2_with fail
     refine (premiseP_any c (ps.map (·.1)) d.k (j : Int) wr sc _ (HC.out.keep HKr.out) (Se.liesJQ_lies HJQ.out) HFD.out.1 (by unfold I64; omega) (by have := HSZ.out; omega) (fun z hz => by have := HSZ.out.2.1 z hz; omega) (fun z hz => by obtain ⟨q, hq, rfl⟩ := List.mem_map.1 hz; have := hsm.out q hq; unfold Smj at this; exact ⟨by omega, by omega⟩)).mono ?_
     rintro e w4 ⟨s4, rfl, hl4, hk4⟩
     rw [HP2.out]
     rw [HCC.out] at hl4
     have HLQ := Lib.hid (liesEP_q hl4)
     obtain ⟨a4, c4, S4, rfl, -⟩ := hl4.out
     have HK4 := Lib.hid (kept_trans HKr.out hk4)
     have HKR4 := Lib.hid (kept_trans hkr.out hk4)
     have HMK4 := Lib.hid (madeK_later hmk.out hk4)
     have HB4 := Lib.hid ((Below.block hk4 _ (Array.getElem?_eq_some_iff.1 HBr.out).1).trans HBr.out)
     have HOB := Lib.hid (show ∀ b, wr.heap.size ≤ b → (w3.heap.size ≤ b ∧ u8.ownBlock ≠ some b) from fun b hb => ⟨by have := hkr.out.size; omega, fun e => by have := madeK_block hmk.out e; omega⟩)
     have hz4 := hk4.size
     have hlk := (HL.out.keep HK4.out).out
     clear hl4 hk4 y0 y1 y2 HJQ
     have y2 : w4.cell? ⟨w.heap.size, 2, none⟩ = some (.slice a d.kids.length cap) := by rw [Lib.cell_of_heap HB4.out]; rfl
     obtain ⟨a1, cap1, S1, he1, -, -, -, hn1, hk1⟩ := hlk
     obtain ⟨b, o, ha, hx⟩ := hn1 j hlt
     have hq := hk1 j hlt
     obtain ⟨a', cap', S', hS, -⟩ := hq.out
     rw [hS] at hx hq
     obtain ⟨x0, x1, x2⟩ := hx
     simp only [Value.slice.injEq] at he1
     obtain ⟨rfl, -, -⟩ := he1
     subst ha
     have HQ := Lib.hid hq
     clear hS hq hn1 hk1
     have HCAL := Lib.hid (ckJudgeP_any (fun b => wr.heap.size ≤ b) 4652007308841189376 mild_1000 d.kids[j] cc w4 w4 (kept_refl _) (.slice a4 cc.length c4) (.slice a' (d.kids[j]).kids.length cap') HLQ.out HQ.out (by have := dsize_kid (List.getElem_mem hlt); have := HSZ.out; have := HSP.out.2; omega) HSP.out.1)
     rw [HJT.out] at HCAL
     go_wp2_with fail
     refine HCAL.out.mono ?_
     rintro e w5 ⟨hk5, su, sv, sa, rfl, hfy, hu, hv, ha⟩
     obtain ⟨auy, cuy, -, rfl, -⟩ := hu.out
     obtain ⟨avy, cvy, -, rfl, -⟩ := hv.out
     obtain ⟨aay, cay, -, rfl, -⟩ := ha.out
     have HK5 := Lib.hid (kept_trans HKR4.out hk5)
     have HMK5 := Lib.hid (madeK_later HMK4.out hk5)
     have HFY := Lib.hid hfy
     have HU5 := Lib.hid hu
     have HV5 := Lib.hid hv
     have HA5 := Lib.hid ha
     clear hk5 hfy hu hv ha HCAL x0 x1 x2 y2
     go_wp2_with (refine stop_store 33 (.tmp 12) (.tmp 54) rfl ?_)
     intro _
     refine wpList_store_part_n (by rfl) 33 (.tmp 12) (.tmp 54) rfl (w5.heap.size) 0 #[.bool y.eq, .int .i64 y.u.k, .int .i64 y.u.i, .int .i64 y.u.j, .int .i64 y.u.n, (.slice auy y.u.kids.length cuy), .int .i64 y.v.k, .int .i64 y.v.i, .int .i64 y.v.j, .int .i64 y.v.n, (.slice avy y.v.kids.length cvy), .int .i64 y.a.k, .int .i64 y.a.i, .int .i64 y.a.j, .int .i64 y.a.n, (.slice aay y.a.kids.length cay), .int .i64 y.i] (by rfl) (by rfl) 33 (by kernel_rfl) (row_ok rfl) ?_
     intro W hW
     subst hW
     refine ⟨_, #[.bool y.eq, .int .i64 y.u.k, .int .i64 y.u.i, .int .i64 y.u.j, .int .i64 y.u.n, (.slice auy y.u.kids.length cuy), .int .i64 y.v.k, .int .i64 y.v.i, .int .i64 y.v.j, .int .i64 y.v.n, (.slice avy y.v.kids.length cvy), .int .i64 y.a.k, .int .i64 y.a.i, .int .i64 y.a.j, .int .i64 y.a.n, (.slice aay y.a.kids.length cay), .int .i64 y.i], alloc_new _ _, rfl, Nat.le_of_ble_eq_true rfl, ?_⟩
     intro w6 hwn
     have hfr := fresh_judg hwn
     clear hwn
     have HK6 := Lib.hid (kept_trans HK5.out hfr.1)
     have HMK6 := Lib.hid (madeK_later HMK5.out hfr.1)
     have HE6 := Lib.hid hfr.2.1
     have hk7 : Kept w6 (w6.alloc (.cells #[.bool y.eq, .int .i64 y.u.k, .int .i64 y.u.i, .int .i64 y.u.j, .int .i64 y.u.n, (.slice auy y.u.kids.length cuy), .int .i64 y.v.k, .int .i64 y.v.i, .int .i64 y.v.j, .int .i64 y.v.n, (.slice avy y.v.kids.length cvy), .int .i64 y.a.k, .int .i64 y.a.i, .int .i64 y.a.j, .int .i64 y.a.n, (.slice aay y.a.kids.length cay), .int .i64 y.i] 33)) := (Below.refl w6.heap.size w6).alloc (Nat.le_refl _) _
     have HK7 := Lib.hid (kept_trans HK6.out hk7)
     have HMK7 := Lib.hid (madeK_later HMK6.out hk7)
     have hwd : ∀ b, (wr.heap.size ≤ b ∨ w4.heap.size ≤ b) → (w3.heap.size ≤ b ∧ u8.ownBlock ≠ some b) := fun b hb => HOB.out b (by omega)
     have HKX := Lib.hid (show LiesQ (w6.alloc (.cells #[.bool y.eq, .int .i64 y.u.k, .int .i64 y.u.i, .int .i64 y.u.j, .int .i64 y.u.n, (.slice auy y.u.kids.length cuy), .int .i64 y.v.k, .int .i64 y.v.i, .int .i64 y.v.j, .int .i64 y.v.n, (.slice avy y.v.kids.length cvy), .int .i64 y.a.k, .int .i64 y.a.i, .int .i64 y.a.j, .int .i64 y.a.n, (.slice aay y.a.kids.length cay), .int .i64 y.i] 33)) (fun b => w3.heap.size ≤ b ∧ u8.ownBlock ≠ some b) y.u.kids (.slice auy y.u.kids.length cuy) ∧ LiesQ (w6.alloc (.cells #[.bool y.eq, .int .i64 y.u.k, .int .i64 y.u.i, .int .i64 y.u.j, .int .i64 y.u.n, (.slice auy y.u.kids.length cuy), .int .i64 y.v.k, .int .i64 y.v.i, .int .i64 y.v.j, .int .i64 y.v.n, (.slice avy y.v.kids.length cvy), .int .i64 y.a.k, .int .i64 y.a.i, .int .i64 y.a.j, .int .i64 y.a.n, (.slice aay y.a.kids.length cay), .int .i64 y.i] 33)) (fun b => w3.heap.size ≤ b ∧ u8.ownBlock ≠ some b) y.v.kids (.slice avy y.v.kids.length cvy) ∧ LiesQ (w6.alloc (.cells #[.bool y.eq, .int .i64 y.u.k, .int .i64 y.u.i, .int .i64 y.u.j, .int .i64 y.u.n, (.slice auy y.u.kids.length cuy), .int .i64 y.v.k, .int .i64 y.v.i, .int .i64 y.v.j, .int .i64 y.v.n, (.slice avy y.v.kids.length cvy), .int .i64 y.a.k, .int .i64 y.a.i, .int .i64 y.a.j, .int .i64 y.a.n, (.slice aay y.a.kids.length cay), .int .i64 y.i] 33)) (fun b => w3.heap.size ≤ b ∧ u8.ownBlock ≠ some b) y.a.kids (.slice aay y.a.kids.length cay) from ⟨((HU5.out.later hfr.1).later hk7).wide hwd, ((HV5.out.later hfr.1).later hk7).wide hwd, ((HA5.out.later hfr.1).later hk7).wide hwd⟩)
     have HPLJ := Lib.hid (show ps.length ≤ 1000 by have h1 := hpl.out; have h2 := HSZ.out; have h3 := kids_le d; omega)
     have HWZ := Lib.hid (show w3.heap.size ≤ (w6.alloc (.cells #[.bool y.eq, .int .i64 y.u.k, .int .i64 y.u.i, .int .i64 y.u.j, .int .i64 y.u.n, (.slice auy y.u.kids.length cuy), .int .i64 y.v.k, .int .i64 y.v.i, .int .i64 y.v.j, .int .i64 y.v.n, (.slice avy y.v.kids.length cvy), .int .i64 y.a.k, .int .i64 y.a.i, .int .i64 y.a.j, .int .i64 y.a.n, (.slice aay y.a.kids.length cay), .int .i64 y.i] 33)).heap.size from HK7.out.size)
     have hw2 : IntKind.i64.wrap ((j : Int) + 1) = (j : Int) + 1 := IntWalk.i64_in _ (by omega)
     obtain ⟨F, hF⟩ : ∃ F, w5.heap.size = F := ⟨_, rfl⟩
     rw [hF] at HE6
     rw [hF]
     clear hF hfr hk7 hwd HU5 HV5 HA5
     go_wp2_with (refine stop_load 33 (.tmp 12) rfl ?_)
     intro _
     refine wpList_load_part (F) (0) 33 (.tmp 12) #[.bool y.eq, .int .i64 y.u.k, .int .i64 y.u.i, .int .i64 y.u.j, .int .i64 y.u.n, (.slice auy y.u.kids.length cuy), .int .i64 y.v.k, .int .i64 y.v.i, .int .i64 y.v.j, .int .i64 y.v.n, (.slice avy y.v.kids.length cvy), .int .i64 y.a.k, .int .i64 y.a.i, .int .i64 y.a.j, .int .i64 y.a.n, (.slice aay y.a.kids.length cay), .int .i64 y.i] dj HE6.out (by rfl) rfl (by rfl) (by rfl) dj1 (by cases dj <;> first | rfl | exact dj2) (by kernel_rfl) ?_
     go_wp2_with (at_builtin; refine wpList_append_lies _ rfl (.tmp 63) (.tmp 65) 50 rfl (w3.heap.size) 33 i0 _ 17 184 (by kernel_rfl) HI.out.1 HI.out.2.1 HI.out.2.2.1 HI.out.2.2.2 rfl (by decide) u8 ps.length (cells17 ps) rfl HMK7.out.own ⟨w6.heap.size, 0, none⟩ 1 1 (cells17 [(y, (.slice auy y.u.kids.length cuy, .slice avy y.v.kids.length cvy, .slice aay y.a.kids.length cay))]) rfl rfl (newsJ w6 y _ _ _ _) (oneJ y _ _ _) (by decide) (by have := HPLJ.out; unfold maxLen; omega) (by have := HPLJ.out; omega) HWZ.out _ rfl ?_; intro g7 c7 w7 hown7 hgrow7 hat7 _; have HMK8 := Lib.hid (madeK_step HMK7.out (p := (y, (.slice auy y.u.kids.length cuy, .slice avy y.v.kids.length cvy, .slice aay y.a.kids.length cay))) HFY.out HKX.out hown7 hgrow7 hat7); have HK8 := Lib.hid (show Kept w3 w7 from HK7.out.grown hgrow7 HWZ.out (fun k hk => (madeK_row HMK7.out hk).1)); clear hown7 hgrow7 hat7)
     go_roundw
     case rel => exact ⟨j + 1, ps ++ [(y, (.slice auy y.u.kids.length cuy, .slice avy y.v.kids.length cvy, .slice aay y.a.kids.length cay))], hlt, by go_num, by have := hpl.out; simp [Hid]; omega, by rw [List.map_append]; exact HNX, Lib.hid (fun q hq => by rcases List.mem_append.1 hq with hq | hq; exact hsm.out q hq; rw [List.mem_singleton.1 hq]; exact HYZ.out), HMK8, HK8⟩
     case measure => simp [intOf]; omega
    ·obtain rfl : j = d.kids.length := by omega
     have hfin := hkb.out
     rw [List.drop_eq_nil_of_le (Nat.le_refl _), kidsB] at hfin
     have hfi := Except.ok.inj hfin
     have hsl : Sml c (ps.map (·.1)) := ⟨by have := HSZ.out; omega, HSC.out.ents, fun z hz => by obtain ⟨q, hq, rfl⟩ := List.mem_map.1 hz; exact hsm.out q hq⟩
     have hen := endB_ok mild_1000 (by rw [← hfi]; exact hsl) HEND.out
     rw [← hfi] at hen
     have HOF := Lib.hid (ofC_any (w := wr) (A := fun _ => True) (Se.liesEQ_keep (Se.liesE_q (HC.out.keep HKr.out)) (fun _ _ _ => rfl) (fun _ _ _ => trivial)) (Se.liesJQ_keep HJQ.out (fun _ _ _ => rfl) (fun _ _ _ => trivial)) HFD.out.1 HFD.out.2 hsl)
     rw [hen.1] at HOF
     have HEr := Lib.hid ((Below.block hkr.out _ (Array.getElem?_eq_some_iff.1 HE3.out).1).trans HE3.out)
     have HJr := Lib.hid (HJ3.out.keep hkr.out)
     clear hfin hfi hsl hen HJQ
     go_wp2_with fail
     refine HOF.out.mono ?_
     rintro e w4 ⟨su, sv, sa, rfl, hfx, hu, hv, ha, hk4⟩
     simp only [Option.getD_some, Option.isSome_some] at hfx hu hv ha ⊢
     obtain ⟨auz, cuz, -, rfl, -⟩ := hu.out
     obtain ⟨avz, cvz, -, rfl, -⟩ := hv.out
     obtain ⟨aaz, caz, -, rfl, -⟩ := ha.out
     have HK4 := Lib.hid (kept_trans HKr.out hk4)
     have HE4 := Lib.hid ((Below.block hk4 _ (Array.getElem?_eq_some_iff.1 HEr.out).1).trans HEr.out)
     have HJ4 := Lib.hid (HJr.out.keep hk4)
     have HZ4 := Lib.hid (show JLies w4 x (.slice auz x.u.kids.length cuz) (.slice avz x.v.kids.length cvz) (.slice aaz x.a.kids.length caz) from ⟨hu.lies, hv.lies, ha.lies⟩)
     clear hk4 hu hv ha hfx HOF y0 y1 y2
     go_wp2_with (refine stop_store 33 (.tmp 15) (.tmp 75) rfl ?_)
     intro _
     refine wpList_store_part_n (by rfl) 33 (.tmp 15) (.tmp 75) rfl (w4.heap.size) 0 #[.bool x.eq, .int .i64 x.u.k, .int .i64 x.u.i, .int .i64 x.u.j, .int .i64 x.u.n, (.slice auz x.u.kids.length cuz), .int .i64 x.v.k, .int .i64 x.v.i, .int .i64 x.v.j, .int .i64 x.v.n, (.slice avz x.v.kids.length cvz), .int .i64 x.a.k, .int .i64 x.a.i, .int .i64 x.a.j, .int .i64 x.a.n, (.slice aaz x.a.kids.length caz), .int .i64 x.i] (by rfl) (by rfl) 33 (by kernel_rfl) (row_ok rfl) ?_
     intro W hW
     subst hW
     refine ⟨_, #[.bool x.eq, .int .i64 x.u.k, .int .i64 x.u.i, .int .i64 x.u.j, .int .i64 x.u.n, (.slice auz x.u.kids.length cuz), .int .i64 x.v.k, .int .i64 x.v.i, .int .i64 x.v.j, .int .i64 x.v.n, (.slice avz x.v.kids.length cvz), .int .i64 x.a.k, .int .i64 x.a.i, .int .i64 x.a.j, .int .i64 x.a.n, (.slice aaz x.a.kids.length caz), .int .i64 x.i], alloc_new _ _, rfl, Nat.le_of_ble_eq_true rfl, ?_⟩
     intro w5 hwn
     have hfr := fresh_judg hwn
     clear hwn
     have HK5 := Lib.hid (kept_trans HK4.out hfr.1)
     have HE5 := Lib.hid ((Below.block hfr.1 _ (Array.getElem?_eq_some_iff.1 HE4.out).1).trans HE4.out)
     have HJ5 := Lib.hid (HJ4.out.keep hfr.1)
     have HZ5 := Lib.hid (HZ4.out.keep hfr.1)
     have HF5 := Lib.hid hfr.2.1
     clear hfr
     obtain ⟨F, hF⟩ : ∃ F, w4.heap.size = F := ⟨_, rfl⟩
     rw [hF] at HF5
     rw [hF]
     clear hF
     go_wp2_with (refine stop_load 33 (.tmp 5) rfl ?_)
     intro _
     refine wpList_load_part (E) (0) 33 (.tmp 5) #[.bool x.eq, .int .i64 x.u.k, .int .i64 x.u.i, .int .i64 x.u.j, .int .i64 x.u.n, (.slice aux x.u.kids.length cux), .int .i64 x.v.k, .int .i64 x.v.i, .int .i64 x.v.j, .int .i64 x.v.n, (.slice avx x.v.kids.length cvx), .int .i64 x.a.k, .int .i64 x.a.i, .int .i64 x.a.j, .int .i64 x.a.n, (.slice aax x.a.kids.length cax), .int .i64 x.i] dj HE5.out (by rfl) rfl (by rfl) (by rfl) dj1 (by cases dj <;> first | rfl | exact dj2) (by kernel_rfl) ?_
     go_wp2_with (refine stop_load 33 (.tmp 15) rfl ?_)
     intro _
     refine wpList_load_part (F) (0) 33 (.tmp 15) #[.bool x.eq, .int .i64 x.u.k, .int .i64 x.u.i, .int .i64 x.u.j, .int .i64 x.u.n, (.slice auz x.u.kids.length cuz), .int .i64 x.v.k, .int .i64 x.v.i, .int .i64 x.v.j, .int .i64 x.v.n, (.slice avz x.v.kids.length cvz), .int .i64 x.a.k, .int .i64 x.a.i, .int .i64 x.a.j, .int .i64 x.a.n, (.slice aaz x.a.kids.length caz), .int .i64 x.i] dj HF5.out (by rfl) rfl (by rfl) (by rfl) dj1 (by cases dj <;> first | rfl | exact dj2) (by kernel_rfl) ?_
     go_wp2_with fail
     refine (keepjudg_any x x _ (.slice aux x.u.kids.length cux) (.slice avx x.v.kids.length cvx) (.slice aax x.a.kids.length cax) (.slice auz x.u.kids.length cuz) (.slice avz x.v.kids.length cvz) (.slice aaz x.a.kids.length caz) HJ5.out HZ5.out).mono ?_
     rintro e w9 ⟨rfl, hk9⟩
     rw [judgB_self]
     have HK9 := Lib.hid (kept_trans HK5.out hk9)
     clear hk9
     go_wp2_with fail
     refine (HWK.out _).mono ?_
     rintro e w10 ⟨rfl, hk10⟩
     go_wp2_with fail
     go_ret
     exact ⟨rfl, kept_trans HK9.out hk10⟩
end Go.Proofs.Ytokgpaajelgakaa.Ck
namespace Go.Proofs.Ytokgpaajelgakaa
open Go.ChangeShapes Go.WideShapes Go.ChangeAt Go.RowKit
theorem own : ownKnob Try.prog.godebug = none := by kernel_rfl
theorem cells_int : Try.prog.cellsOf 3 = 1 := by kernel_rfl
theorem cells_kids : Try.prog.cellsOf 29 = 1 := by kernel_rfl
theorem cells_term : Try.prog.cellsOf 31 = 5 := by kernel_rfl
theorem laidOut : laidOutB Try.prog = true := by kernel_rfl
instance instOpenTm : Inhabited (Tm × Value) := ⟨(.mk 0 0 0 0 [], .nilIface)⟩
theorem list5 {α : Type} {l : List α} (h : l.length = 5) : ∃ a b c d e, l = [a, b, c, d, e] := by
  match l, h with
  | [a, b, c, d, e], _ => exact ⟨a, b, c, d, e, rfl⟩
set_option maxRecDepth 100000 in
theorem open_term {H : Type} {enc : TypeId × Value → H} {w : World} {base : Nat} {sp : Nat → Bool} {hd : Bool} : ∀ (fuel : Nat) (cs : List Value) (x : DataW H × List MemPlace),
    DataW.trod enc Try.prog w base sp hd fuel 31 cs = some x → ∃ (t : Tm) (s : Value), cs = [.int .i64 t.k, .int .i64 t.i, .int .i64 t.j, .int .i64 t.n, s] ∧ t.fine ∧ Lies w t.kids s := by
  intro fuel
  induction fuel using Nat.strongRecOn with
  | _ fuel ih =>
    intro cs x h
    obtain ⟨xs, n, rfl, rfl, hl, hlen, hf⟩ := DataW.trod_struct Try.underlying31 h
    rw [cells_term] at hl
    obtain ⟨v0, v1, v2, v3, v4, rfl⟩ := list5 hl
    obtain ⟨y0, y1, y2, y3, y4, rfl⟩ := list5 hlen
    have g0 := hf 0 _ rfl
    have g1 := hf 1 _ rfl
    have g2 := hf 2 _ rfl
    have g3 := hf 3 _ rfl
    have g4 := hf 4 _ rfl
    simp [cells_int, cells_kids] at g0 g1 g2 g3 g4
    obtain ⟨k, e0, -, w0⟩ := DataW.trod_int Try.underlying3 g0
    obtain ⟨i, e1, -, w1⟩ := DataW.trod_int Try.underlying3 g1
    obtain ⟨j, e2, -, w2⟩ := DataW.trod_int Try.underlying3 g2
    obtain ⟨m, e3, -, w3⟩ := DataW.trod_int Try.underlying3 g3
    simp at e0 e1 e2 e3
    subst e0 e1 e2 e3
    rcases DataW.trod_slice Try.underlying29 g4 with ⟨e4, -⟩ | ⟨a, len, cap, elems, rest, n', rfl, e4, -, hb, hlc, hm, hlen', hel, -, -⟩
    · simp at e4
      subst e4
      exact ⟨.mk k i j m [], _, rfl, ⟨wf_I64 w0, wf_I64 w1, wf_I64 w2, wf_I64 w3⟩, .mk [] none 0 (fun _ => .nilIface) (Nat.le_refl _) (by decide) (fun _ h => by cases h) (fun _ h => by cases h) (fun _ h => by cases h)⟩
    · simp at e4
      subst e4
      have key : ∀ i, i < len → ∃ p : Tm × Value, p.1.fine ∧ Lies w p.1.kids p.2 ∧ ∃ b o, a = ⟨b, o, none⟩ ∧ Node w b (o + i * 5) p.1 p.2 := by
        intro i hi
        have h1 := hel i hi
        rw [cells_term, List.getElem?_eq_getElem (by omega)] at h1
        obtain ⟨cs', h2, h3⟩ := Option.bind_eq_some_iff.1 h1
        obtain ⟨t, s, rfl, hfine, hlies⟩ := ih n' (by omega) _ _ h3
        obtain ⟨-, -, hcell⟩ := World.cells?_some h2
        have hs0 : a.spot = none := by
          have h1 := hel 0 (by omega)
          rw [cells_term, List.getElem?_eq_getElem (by omega)] at h1
          obtain ⟨cs0, h2, -⟩ := Option.bind_eq_some_iff.1 h1
          obtain ⟨-, hl0, hc0⟩ := World.cells?_some h2
          have c0 := hc0 0 (by omega)
          rw [List.getElem?_eq_getElem (by omega)] at c0
          simpa [Addr.add] using World.cell?_spot c0
        obtain ⟨b, o, spot⟩ := a
        simp only at hs0
        subst hs0
        refine ⟨(t, s), hfine, hlies, b, o, rfl, ?_⟩
        have hc : ∀ q, q < 5 → w.cell? ⟨b, o + i * 5 + q, none⟩ = [Value.int .i64 t.k, .int .i64 t.i, .int .i64 t.j, .int .i64 t.n, s][q]? := fun q hq => by
          have := hcell q hq
          rwa [add_plain, add_plain] at this
        exact ⟨hc 0 (by omega), hc 1 (by omega), hc 2 (by omega), hc 3 (by omega), hc 4 (by omega)⟩
      obtain ⟨f, hf'⟩ := Go.Deep.choose_lt (α := Tm × Value) (p := fun i p => p.1.fine ∧ Lies w p.1.kids p.2 ∧ ∃ b o, a = ⟨b, o, none⟩ ∧ Node w b (o + i * 5) p.1 p.2) key
      have hl5 : ((List.range len).map fun i => (f i).1).length = len := by simp
      refine ⟨.mk k i j m ((List.range len).map fun i => (f i).1), _, rfl, ⟨wf_I64 w0, wf_I64 w1, wf_I64 w2, wf_I64 w3⟩, ?_⟩
      have := Lies.mk (w := w) ((List.range len).map fun i => (f i).1) (some a) cap (fun i => (f i).2) (by simpa using hlc) hm
        (fun x hx => by
          obtain ⟨i, hi, rfl⟩ := List.mem_map.1 hx
          exact (hf' i (List.mem_range.1 hi)).1)
        (fun i hi => by
          obtain ⟨b, o, ha, hn⟩ := (hf' i (by simpa using hi)).2.2
          exact ⟨b, o, by rw [ha], by simpa using hn⟩)
        (fun i hi => by simpa using (hf' i (by simpa using hi)).2.1)
      rwa [hl5] at this
set_option maxRecDepth 100000 in
theorem open_arg {H : Type} {enc : TypeId × Value → H} {W : World} {r : Reach} {b0 base : Nat} {sp : Nat → Bool} {hd : Bool} {v : Value} {d : DataW H} {p : List MemPlace} (hv : Value.okWide Try.prog W r b0 31 v)
    (h : DataW.Trod enc Try.prog W base sp hd 31 v d p) : ∃ (t : Tm) (s : Value), Lies W t.kids s ∧ v = tv t s := by
  obtain ⟨cs, rfl, hsz⟩ := okWide_struct Try.underlying31 hv
  obtain ⟨fuel, hf⟩ := h
  obtain ⟨t, s, hcs, -, hl⟩ := open_term fuel _ _ hf
  refine ⟨t, s, hl, ?_⟩
  have : cs.toList = [.int .i64 t.k, .int .i64 t.i, .int .i64 t.j, .int .i64 t.n, s] := by simpa [Value.cells] using hcs
  rw [show cs = #[.int .i64 t.k, .int .i64 t.i, .int .i64 t.j, .int .i64 t.n, s] from by cases cs; simp_all]
end Go.Proofs.Ytokgpaajelgakaa
namespace Go.Proofs.Ytokgpaajelgakaa
open Go.ChangeShapes Go.WideShapes Go.ChangeAt Go.RowKit
theorem cells_entry : Try.prog.cellsOf 74 = 6 := by kernel_rfl
instance instOpenEn : Inhabited (En × Value) := ⟨(⟨.mk 0 0 0 0 [], 0⟩, .nilIface)⟩
theorem list6 {α : Type} {l : List α} (h : l.length = 6) : ∃ a b c d e f, l = [a, b, c, d, e, f] := by
  match l, h with
  | [a, b, c, d, e, f], _ => exact ⟨a, b, c, d, e, f, rfl⟩
theorem list2 {α : Type} {l : List α} (h : l.length = 2) : ∃ a b, l = [a, b] := by
  match l, h with
  | [a, b], _ => exact ⟨a, b, rfl⟩
set_option maxRecDepth 100000 in
theorem open_entry {H : Type} {enc : TypeId × Value → H} {w : World} {base : Nat} {sp : Nat → Bool} {hd : Bool} (fuel : Nat) (cs : List Value) (x : DataW H × List MemPlace)
    (h : DataW.trod enc Try.prog w base sp hd fuel 74 cs = some x) : ∃ (e : En) (s : Value), cs = [.int .i64 e.a.k, .int .i64 e.a.i, .int .i64 e.a.j, .int .i64 e.a.n, s, .int .i64 e.i] ∧ e.fine ∧ Lies w e.a.kids s := by
  obtain ⟨xs, n, rfl, rfl, hl, hlen, hf⟩ := DataW.trod_struct Try.underlying74 h
  rw [cells_entry] at hl
  obtain ⟨v0, v1, v2, v3, v4, v5, rfl⟩ := list6 hl
  obtain ⟨y0, y1, rfl⟩ := list2 hlen
  have g0 := hf 0 _ rfl
  have g1 := hf 1 _ rfl
  simp [cells_int, cells_term] at g0 g1
  obtain ⟨t, s, hcs, hfine, hlies⟩ := open_term n _ _ g0
  obtain ⟨i, e1, -, w1⟩ := DataW.trod_int Try.underlying3 g1
  simp at e1 hcs
  subst e1
  obtain ⟨rfl, rfl, rfl, rfl, rfl⟩ := hcs
  exact ⟨⟨t, i⟩, v4, rfl, ⟨hfine, wf_I64 w1⟩, hlies⟩
set_option maxRecDepth 100000 in
theorem open_argE {H : Type} {enc : TypeId × Value → H} {w : World} {r : Reach} {b0 base : Nat} {sp : Nat → Bool} {hd : Bool} {v : Value} {d : DataW H} {p : List MemPlace} (hv : Value.okWide Try.prog w r b0 22 v)
    (h : DataW.Trod enc Try.prog w base sp hd 22 v d p) : ∃ l : List En, LiesE w l v := by
  obtain ⟨a0, len0, cap0, rfl⟩ := okWide_slice Try.underlying22 hv
  obtain ⟨fuel, hf⟩ := h
  rcases DataW.trod_slice Try.underlying22 hf with ⟨e4, -⟩ | ⟨a, len, cap, elems, rest, n', rfl, e4, -, hb, hlc, hm, hlen', hel, -, -⟩
  · simp [Value.cells] at e4
    obtain ⟨rfl, rfl, rfl⟩ := e4
    exact ⟨[], liesE_nil _⟩
  · simp [Value.cells] at e4
    obtain ⟨rfl, rfl, rfl⟩ := e4
    have key : ∀ i, i < len0 → ∃ p : En × Value, p.1.fine ∧ Lies w p.1.a.kids p.2 ∧ ∃ b o, a = ⟨b, o, none⟩ ∧ ENode w b (o + i * 6) p.1 p.2 := by
      intro i hi
      have h1 := hel i hi
      rw [cells_entry, List.getElem?_eq_getElem (by omega)] at h1
      obtain ⟨cs', h2, h3⟩ := Option.bind_eq_some_iff.1 h1
      obtain ⟨t, s, rfl, hfine, hlies⟩ := open_entry n' _ _ h3
      obtain ⟨-, -, hcell⟩ := World.cells?_some h2
      have hs0 : a.spot = none := by
        have h1 := hel 0 (by omega)
        rw [cells_entry, List.getElem?_eq_getElem (by omega)] at h1
        obtain ⟨cs0, h2, -⟩ := Option.bind_eq_some_iff.1 h1
        obtain ⟨-, hl0, hc0⟩ := World.cells?_some h2
        have c0 := hc0 0 (by omega)
        rw [List.getElem?_eq_getElem (by omega)] at c0
        simpa [Addr.add] using World.cell?_spot c0
      obtain ⟨b, o, spot⟩ := a
      simp only at hs0
      subst hs0
      refine ⟨(t, s), hfine, hlies, b, o, rfl, ?_⟩
      have hc : ∀ q, q < 6 → w.cell? ⟨b, o + i * 6 + q, none⟩ = [Value.int .i64 t.a.k, .int .i64 t.a.i, .int .i64 t.a.j, .int .i64 t.a.n, s, .int .i64 t.i][q]? := fun q hq => by
        have := hcell q hq
        rwa [add_plain, add_plain] at this
      exact ⟨hc 0 (by omega), hc 1 (by omega), hc 2 (by omega), hc 3 (by omega), hc 4 (by omega), hc 5 (by omega)⟩
    obtain ⟨f, hf'⟩ := Go.Deep.choose_lt (α := En × Value) (p := fun i p => p.1.fine ∧ Lies w p.1.a.kids p.2 ∧ ∃ b o, a = ⟨b, o, none⟩ ∧ ENode w b (o + i * 6) p.1 p.2) key
    have hl5 : ((List.range len0).map fun i => (f i).1).length = len0 := by simp
    refine ⟨(List.range len0).map fun i => (f i).1, some a, cap0, (fun i => (f i).2), by rw [hl5], by simpa using hlc, hm, ?_, ?_, ?_⟩
    · intro x hx
      obtain ⟨i, hi, rfl⟩ := List.mem_map.1 hx
      exact (hf' i (List.mem_range.1 hi)).1
    · intro i hi
      obtain ⟨b, o, ha, hn⟩ := (hf' i (by simpa using hi)).2.2
      exact ⟨b, o, by rw [ha], by simpa using hn⟩
    · intro i hi
      simpa using (hf' i (by simpa using hi)).2.1
end Go.Proofs.Ytokgpaajelgakaa
namespace Go.Proofs.Ytokgpaajelgakaa.Dv
open Go.ChangeShapes Go.WideShapes Go.ChangeAt Go.RowKit
theorem cells_kids : Try.prog.cellsOf 23 = 1 := by kernel_rfl
theorem cells_term : Try.prog.cellsOf 25 = 3 := by kernel_rfl
instance instOpenTm : Inhabited (Tm × Value) := ⟨(.mk 0 0 [], .nilIface)⟩
theorem list3 {α : Type} {l : List α} (h : l.length = 3) : ∃ a b c, l = [a, b, c] := by
  match l, h with
  | [a, b, c], _ => exact ⟨a, b, c, rfl⟩
set_option maxRecDepth 100000 in
theorem open_term {H : Type} {enc : TypeId × Value → H} {w : World} {base : Nat} {sp : Nat → Bool} {hd : Bool} : ∀ (fuel : Nat) (cs : List Value) (x : DataW H × List MemPlace),
    DataW.trod enc Try.prog w base sp hd fuel 25 cs = some x → ∃ (t : Tm) (s : Value), cs = [.int .i64 t.k, .int .i64 t.i, s] ∧ t.fine ∧ Lies w t.kids s := by
  intro fuel
  induction fuel using Nat.strongRecOn with
  | _ fuel ih =>
    intro cs x h
    obtain ⟨xs, n, rfl, rfl, hl, hlen, hf⟩ := DataW.trod_struct Try.underlying25 h
    rw [cells_term] at hl
    obtain ⟨v0, v1, v2, rfl⟩ := list3 hl
    obtain ⟨y0, y1, y2, rfl⟩ := list3 hlen
    have g0 := hf 0 _ rfl
    have g1 := hf 1 _ rfl
    have g2 := hf 2 _ rfl
    simp [cells_int, cells_kids] at g0 g1 g2
    obtain ⟨k, e0, -, w0⟩ := DataW.trod_int Try.underlying3 g0
    obtain ⟨i, e1, -, w1⟩ := DataW.trod_int Try.underlying3 g1
    simp at e0 e1
    subst e0 e1
    rcases DataW.trod_slice Try.underlying23 g2 with ⟨e4, -⟩ | ⟨a, len, cap, elems, rest, n', rfl, e4, -, hb, hlc, hm, hlen', hel, -, -⟩
    · simp at e4
      subst e4
      exact ⟨.mk k i [], _, rfl, ⟨wf_I64 w0, wf_I64 w1⟩, .mk [] none 0 (fun _ => .nilIface) (Nat.le_refl _) (by decide) (fun _ h => by cases h) (fun _ h => by cases h) (fun _ h => by cases h)⟩
    · simp at e4
      subst e4
      have key : ∀ i, i < len → ∃ p : Tm × Value, p.1.fine ∧ Lies w p.1.kids p.2 ∧ ∃ b o, a = ⟨b, o, none⟩ ∧ Node w b (o + i * 3) p.1 p.2 := by
        intro i hi
        have h1 := hel i hi
        rw [cells_term, List.getElem?_eq_getElem (by omega)] at h1
        obtain ⟨cs', h2, h3⟩ := Option.bind_eq_some_iff.1 h1
        obtain ⟨t, s, rfl, hfine, hlies⟩ := ih n' (by omega) _ _ h3
        obtain ⟨-, -, hcell⟩ := World.cells?_some h2
        have hs0 : a.spot = none := by
          have h1 := hel 0 (by omega)
          rw [cells_term, List.getElem?_eq_getElem (by omega)] at h1
          obtain ⟨cs0, h2, -⟩ := Option.bind_eq_some_iff.1 h1
          obtain ⟨-, hl0, hc0⟩ := World.cells?_some h2
          have c0 := hc0 0 (by omega)
          rw [List.getElem?_eq_getElem (by omega)] at c0
          simpa [Addr.add] using World.cell?_spot c0
        obtain ⟨b, o, spot⟩ := a
        simp only at hs0
        subst hs0
        refine ⟨(t, s), hfine, hlies, b, o, rfl, ?_⟩
        have hc : ∀ q, q < 3 → w.cell? ⟨b, o + i * 3 + q, none⟩ = [Value.int .i64 t.k, .int .i64 t.i, s][q]? := fun q hq => by
          have := hcell q hq
          rwa [add_plain, add_plain] at this
        exact ⟨hc 0 (by omega), hc 1 (by omega), hc 2 (by omega)⟩
      obtain ⟨f, hf'⟩ := Go.Deep.choose_lt (α := Tm × Value) (p := fun i p => p.1.fine ∧ Lies w p.1.kids p.2 ∧ ∃ b o, a = ⟨b, o, none⟩ ∧ Node w b (o + i * 3) p.1 p.2) key
      have hl5 : ((List.range len).map fun i => (f i).1).length = len := by simp
      refine ⟨.mk k i ((List.range len).map fun i => (f i).1), _, rfl, ⟨wf_I64 w0, wf_I64 w1⟩, ?_⟩
      have := Lies.mk (w := w) ((List.range len).map fun i => (f i).1) (some a) cap (fun i => (f i).2) (by simpa using hlc) hm
        (fun x hx => by
          obtain ⟨i, hi, rfl⟩ := List.mem_map.1 hx
          exact (hf' i (List.mem_range.1 hi)).1)
        (fun i hi => by
          obtain ⟨b, o, ha, hn⟩ := (hf' i (by simpa using hi)).2.2
          exact ⟨b, o, by rw [ha], by simpa using hn⟩)
        (fun i hi => by simpa using (hf' i (by simpa using hi)).2.1)
      rwa [hl5] at this
set_option maxRecDepth 100000 in
theorem open_arg {H : Type} {enc : TypeId × Value → H} {W : World} {r : Reach} {b0 base : Nat} {sp : Nat → Bool} {hd : Bool} {v : Value} {d : DataW H} {p : List MemPlace} (hv : Value.okWide Try.prog W r b0 25 v)
    (h : DataW.Trod enc Try.prog W base sp hd 25 v d p) : ∃ (t : Tm) (s : Value), Lies W t.kids s ∧ v = tv t s := by
  obtain ⟨cs, rfl, hsz⟩ := okWide_struct Try.underlying25 hv
  obtain ⟨fuel, hf⟩ := h
  obtain ⟨t, s, hcs, -, hl⟩ := open_term fuel _ _ hf
  refine ⟨t, s, hl, ?_⟩
  have : cs.toList = [.int .i64 t.k, .int .i64 t.i, s] := by simpa [Value.cells] using hcs
  rw [show cs = #[.int .i64 t.k, .int .i64 t.i, s] from by cases cs; simp_all]
end Go.Proofs.Ytokgpaajelgakaa.Dv
namespace Go.Proofs.Ytokgpaajelgakaa
open Go.ChangeShapes Go.WideShapes
def code (l : List Nat) : List Char := l.map Char.ofNat
def joinN : List (List Nat) → List Nat
  | [] => []
  | [a] => a
  | a :: b :: r => a ++ 32 :: joinN (b :: r)
theorem words_one : ∀ a : List Nat, (a.all fun n => Char.ofNat n != Char.ofNat 32) = true → wordsSigns (code a) = [code a]
  | [], _ => rfl
  | n :: a, h => by
    simp only [List.all_cons, Bool.and_eq_true, bne_iff_ne] at h
    have ih := words_one a h.2
    show wordsSigns (Char.ofNat n :: code a) = _
    rw [wordsSigns]
    · rw [ih]; rfl
    · exact h.1
theorem words_more : ∀ (a : List Nat) (r : List Char), (a.all fun n => Char.ofNat n != Char.ofNat 32) = true → wordsSigns (code a ++ Char.ofNat 32 :: r) = code a :: wordsSigns r
  | [], r, _ => by
    show wordsSigns (Char.ofNat 32 :: r) = _
    rw [show Char.ofNat 32 = _ from rfl, wordsSigns]; rfl
  | n :: a, r, h => by
    simp only [List.all_cons, Bool.and_eq_true, bne_iff_ne] at h
    have ih := words_more a r h.2
    show wordsSigns (Char.ofNat n :: (code a ++ Char.ofNat 32 :: r)) = _
    rw [wordsSigns]
    · rw [ih]; rfl
    · exact h.1
theorem words_join : ∀ ws : List (List Nat), ws ≠ [] → (ws.all fun w => w.all fun n => Char.ofNat n != Char.ofNat 32) = true → wordsSigns (code (joinN ws)) = ws.map code
  | [], h, _ => absurd rfl h
  | [a], _, h => by simp only [List.all_cons, List.all_nil, Bool.and_true] at h; exact words_one a h
  | a :: b :: r, _, h => by
    have h' := h
    rw [List.all_cons, Bool.and_eq_true] at h'
    have ih := words_join (b :: r) (by simp) h'.2
    show wordsSigns (code (a ++ 32 :: joinN (b :: r))) = _
    rw [show code (a ++ 32 :: joinN (b :: r)) = code a ++ Char.ofNat 32 :: code (joinN (b :: r)) from by simp [code], words_more a _ h'.1, ih]; rfl
def cutWords : List (List Nat) := [[104, 97, 114, 110, 101, 115, 115],
  [102, 53, 48, 101, 53, 50, 99, 100, 53, 98, 50, 97, 54, 56, 54, 52, 100, 97, 97, 97, 100, 97, 49, 99, 56, 56, 50, 48, 49, 99, 99, 98, 53, 54, 99, 48, 97, 54, 50, 101, 52, 48, 57, 52, 100, 51, 53, 51, 54, 99, 53, 99, 51, 101, 98, 100, 100, 50, 56, 98, 56, 51, 102, 57],
  [99, 117, 116],
  [97, 116],
  [116, 114, 97, 110, 115, 104, 105, 112, 47, 116, 114, 97, 110, 115, 104, 105, 112, 108, 97, 119, 49, 54, 46, 67, 104, 101, 99, 107, 77, 111, 114, 101],
  [116, 114, 97, 110, 115, 104, 105, 112, 47, 116, 114, 97, 110, 115, 104, 105, 112, 108, 97, 119, 49, 54, 46, 67, 104, 101, 99, 107, 76, 101, 118, 101, 108, 115],
  [116, 114, 97, 110, 115, 104, 105, 112, 47, 116, 114, 97, 110, 115, 104, 105, 112, 108, 97, 119, 49, 54, 46, 67, 104, 101, 99, 107, 80, 97, 114, 116, 115],
  [116, 114, 97, 110, 115, 104, 105, 112, 47, 116, 114, 97, 110, 115, 104, 105, 112, 108, 97, 119, 49, 54, 46, 67, 104, 101, 99, 107, 70, 97, 117, 108, 116, 115]]
set_option maxRecDepth 100000 in
theorem cut_words : wordsSigns Try.prog.initOrder.toList = cutWords.map code := by
  have h : Try.prog.initOrder.toList = code (joinN cutWords) := by
    show (String.ofList (code (joinN cutWords))).toList = _
    exact String.toList_ofList
  rw [h]
  exact words_join cutWords (by simp [cutWords]) (by decide +kernel)
theorem cut_behind : behindMainWord (cutWords.map code) = code [99, 117, 116] :: cutWords.tail.tail.tail.map code := by kernel_rfl
theorem cut_lifts : stripLifts liftWords (code [99, 117, 116] :: cutWords.tail.tail.tail.map code) = ([], code [99, 117, 116] :: cutWords.tail.tail.tail.map code) := by kernel_rfl
theorem cut1 : (code [99, 117, 116] == "gc".toList) = false := by kernel_rfl
theorem cut2 : (code [99, 117, 116] == "spec".toList) = false := by kernel_rfl
theorem cut3 : (code [99, 117, 116] == "cut".toList) = true := by kernel_rfl
theorem cut_all : behindMainWord (wordsSigns Try.prog.initOrder.toList) = code [99, 117, 116] :: cutWords.tail.tail.tail.map code := by rw [cut_words, cut_behind]
theorem make_of (P : Program) {c : List Char} {rest : List (List Char)} (h : behindMainWord (wordsSigns P.initOrder.toList) = c :: rest) (h1 : (c == "gc".toList) = false) (h2 : (c == "spec".toList) = false) (h3 : (c == "cut".toList) = true) : P.make = some .cut := by
  unfold Program.make; rw [h]
  simp only [h1, h2, h3, Bool.or_self, Bool.false_eq_true, if_false, Bool.true_or, if_true]
theorem mayEnter_of (P : Program) {c : List Char} {rest : List (List Char)} (h : behindMainWord (wordsSigns P.initOrder.toList) = c :: rest) (h3 : ((stripLifts liftWords (c :: rest)).2.head? == some "cut".toList) = true)
    (h4 : (stripLifts liftWords (c :: rest)).1 = []) (h5 : P.laysLater = false) (h6 : P.bearsReflect = false) (h7 : P.doorFits [] = true) : P.mayEnter = true := by
  unfold Program.mayEnter; rw [h]
  refine Bool.or_eq_true_iff.2 (Or.inr ?_)
  rw [h3, h4, h5, h6, h7]; rfl
theorem row_make : Try.prog.make = some .cut := make_of Try.prog cut_all cut1 cut2 cut3
theorem row_mayEnter : Try.prog.mayEnter = true := mayEnter_of Try.prog cut_all (by rw [cut_lifts]; kernel_rfl) (by rw [cut_lifts]) (by kernel_rfl) (by kernel_rfl) (by kernel_rfl)
theorem row_lifts : Try.prog.liftsFinal = false := by unfold Program.liftsFinal Program.headLifts; rw [cut_all, cut_lifts]; kernel_rfl
end Go.Proofs.Ytokgpaajelgakaa
namespace Go.Proofs.Ytokgpaajelgakaa.lawCheckParts
open Go.ChangeShapes Go.WideShapes Go.ChangeAt Go.RowKit
set_option maxRecDepth 100000 in
theorem lifted (os : Os) (started : os.Started) (H : Type) (enc : TypeId × Value → H) :
    ReturnsInHanded {} Try.checked os 5 .any (Rows.checkPartsSpec.pre6 enc Try.prog Try.f5 Rows.checkPartsRow.domain false) (Rows.checkPartsSpec.post enc Try.prog Try.f5 false true false false) := by
  refine returnsInHanded_of_change (C := Try.checked) own started (by kernel_rfl) Try.func5
    (ChangeSpec.witness6 (enc := enc) (C := Try.checked) false ⟨#[], #[.slice none 0 0, .agg #[.int .i64 0, .int .i64 0, .slice none 0 0]], []⟩ 8 (by kernel_rfl) (by kernel_rfl) (by kernel_rfl) (by kernel_rfl)) ?_
  intro W base args ds gs before hval0 hW hcnd _
  have hval : ∀ (j : Nat) t v, Try.f5.params[j]? = some t → args[j]? = some v → Value.okWide Try.prog W .any base t v := hval0
  have hW' := hW
  obtain ⟨p, q, hA0, hV, rfl, hfz, hnd⟩ := hW
  have hA : DataW.TrodAll enc Try.prog W 0 (fun _ => true) true Try.f5.params.toList args.toList ds p := hA0
  rw [Try.params5] at hA hval
  obtain ⟨v0, vs0, d0, ds0, p0, q0, hargs0, rfl, rfl, h0, r0⟩ := trodAll_cons hA
  obtain ⟨v1, vs1, d1, ds1, p1, q1, hargs1, rfl, rfl, h1, r1⟩ := trodAll_cons r0
  obtain ⟨rfl, rfl, rfl⟩ := trodAll_nil r1
  obtain rfl : args = #[v0, v1] := by cases args; simp_all
  obtain ⟨rfl, rfl⟩ := trodVars_none hV
  have h0k := h0
  have hlt0 : ∀ x ∈ p0, x.block < W.heap.size := fun x hx => by have := hW'.lt x (by simp [hx]); simpa using this
  obtain ⟨l0, hl0⟩ := open_argE (hval 0 22 v0 rfl rfl) h0
  have h1k := h1
  have hlt1 : ∀ x ∈ p1, x.block < W.heap.size := fun x hx => by have := hW'.lt x (by simp [hx]); simpa using this
  obtain ⟨t1, s1, hl1, hv1⟩ := Dv.open_arg (hval 1 25 v1 rfl rfl) h1
  subst hv1
  clear hA0 hval0
  simp only [List.append_nil] at hW'
  refine (Ck.checkParts_any l0 t1 W _ s1 hl0 hl1).mono fun e W' ⟨he, hb⟩ => ?_
  subst he
  exact ⟨_, rfl, _, _, _, [], _, [], hW', trodAll_cons_mk (shut_bool Try.underlying4 _) trodAll_mk0, (trodAll_cons_mk (Below.trod laidOut (by kernel_rfl) (of_decide_eq_true (by kernel_rfl)) h0k hb hlt0) (trodAll_cons_mk (Below.trod laidOut (by kernel_rfl) (of_decide_eq_true (by kernel_rfl)) h1k hb hlt1) trodAll_mk0)), rfl, hb.frame _, fun h => by cases h⟩
theorem closed : joinedFacts Try.prog 5 Try.f5 Rows.checkPartsSpec Rows.checkPartsRow = true := by
  unfold joinedFacts
  rw [row_mayEnter, row_lifts, row_make]
  kernel_rfl
theorem proved : Rows.CheckPartsSaid :=
  OpenClaim.holds_of_wide 5 Try.f5 rfl rfl rfl rfl rfl rfl rfl ⟨rfl, rfl, rfl, rfl, rfl⟩ rfl rfl rfl rfl rfl (by kernel_rfl) Try.func5 closed
    (of_decide_eq_true (by kernel_rfl)) (by unfold Func.isWrapper; first | (rw [if_pos (by decide +kernel)]; kernel_rfl) | (rw [if_neg (by decide +kernel)]; exact ⟨rfl, rfl⟩))
    (fun os started H enc _ => lifted os started H enc)
#print axioms proved
end Go.Proofs.Ytokgpaajelgakaa.lawCheckParts