/-
  WriteNames holds: for every input the call returns true, and the arguments read as before. No condition.
-/
import Derived.Lib.ItoaNum
import Derived.Lib.ItoaLen
import Derived.Test.YtficmfiekibjgaaDoorRows
import Derived.WalkKit
import Derived.Lib.Hide
import Derived.KernelRfl
import Derived.Deep.RegionWith
import Derived.Deep.RegionHeld3
import Derived.Test.YtficmfiekibjgaaDoorShelf
import Derived.ProofKit
import Derived.Lib.AppendIntMem
import Derived.Lib.LaidTab
import Derived.Below
import Derived.Lib.Builder
import Derived.Lib.AppendStr
import Derived.Lib.UnsafeStr
import Derived.Lib.Strings
import Derived.Laws.Externs
import Derived.Laws.Rows
import Derived.Shelf.RegionOpenPlain
import Derived.OrdersHeld
import Derived.Laws.OwnMore
import Derived.OwnWalk
import Derived.Laws.BytesArg
import Derived.Laws.AppendOwnNone
import Derived.Deep.AppendLies
import Derived.Laws.AppendOwn
import Derived.OpenShut
import Derived.Carry
import Derived.Deep.Slices
import Derived.LaidMore
import Derived.LaidSub
import Derived.LaidHandle
import Derived.Stop.Joined
import Derived.JoinedOf
import Derived.Test.YtficmfiekibjgaaDoorCards
import Derived.Test.YtficmfiekibjgaaDoorTie
import Derived.SevenTiedAt
import Derived.ChangeMaps5
import Derived.Test.YtficmfiekibjgaaDoorWriteNamesQ1
namespace Go.Proofs.YtficmfiekibjgaaDoor
open Go.RowKit

def o19E_0 : Oper := { dst := some 93, op := Go.Op.move (Go.Operand.tmp 0), type := 37, pos := "write.go:60", after := #[], guard := none }
def o19E_1 : Oper := { dst := some 94, op := Go.Op.load 24 (Go.Operand.tmp 9), type := 24, pos := "write.go:60", after := #[], guard := none }
def o19E_2 : Oper := { dst := some 95, op := Go.Op.move (Go.Operand.tmp 2), type := 3, pos := "write.go:60", after := #[], guard := none }
def o19E_3 : Oper := { dst := some 96, op := Go.Op.fieldAddr 24 (Go.Operand.tmp 4) 0, type := 0, pos := "write.go:60", after := #[], guard := none }
def o19E_4 : Oper := { dst := some 97, op := Go.Op.load 3 (Go.Operand.tmp 96), type := 3, pos := "write.go:60", after := #[{ on := 3, ground := Go.Ground.data }], guard := none }
def o19E_5 : Oper := { dst := some 98, op := Go.Op.move (Go.Operand.tmp 8), type := 3, pos := "write.go:60", after := #[], guard := none }
def o19E_6 : Oper := { dst := some 99, op := Go.Op.call { callee := Go.Callee.value (Go.Operand.func 34), args := #[Go.Operand.tmp 97, Go.Operand.tmp 98], argTypes := #[3, 3] }, type := 3, pos := "write.go:60", after := #[{ on := 4, ground := Go.Ground.data }, { on := 5, ground := Go.Ground.data }], guard := none }
def o19E_7 : Oper := { dst := some 100, op := Go.Op.binOp Go.BinOp.add 3 (Go.Operand.tmp 95) (Go.Operand.tmp 99) 3, type := 3, pos := "write.go:60", after := #[{ on := 2, ground := Go.Ground.data }, { on := 6, ground := Go.Ground.data }], guard := none }
def o19E_8 : Oper := { dst := some 101, op := Go.Op.call { callee := Go.Callee.value (Go.Operand.func 19), args := #[Go.Operand.tmp 93, Go.Operand.tmp 94, Go.Operand.tmp 100], argTypes := #[37, 24, 3] }, type := 0, pos := "write.go:60", after := #[{ on := 0, ground := Go.Ground.data }, { on := 1, ground := Go.Ground.data }, { on := 7, ground := Go.Ground.data }, { on := 6, ground := Go.Ground.chain }], guard := none }

set_option maxHeartbeats 4000000 in
set_option maxRecDepth 100000 in
theorem wput_E (w0 : World) (hW : WTab w0) (b : Nat) (t : Tm) (ih : ∀ x ∈ t.kids, WPut w0 b x) (e2 : (t.k == 2) = false) (e22 : (t.k == 22) = false) (e23 : (t.k == 23) = false) (hbd : bindsN t.k 1 = 0) (hlv : levelsN t.k = 0) : WPut w0 b t := by
  intro w s bs m hl hlw hB hr h0 hf hm hbs
  obtain ⟨a, cap, S, rfl, hc, hmx, hfi, hn, hk⟩ := hl.out
  have hkr := t.node_kind (t.right_node hr)
  have hfit := right_fit hr
  obtain ⟨du, hu1, hu2⟩ := under_termW
  have HX := Lib.hid (show t.wr m = 40 :: (headL t.k ++ (frontL t.k t.i t.j t.n m ++ (wrs t.k 0 t.kids m ++ [41]))) by rw [t.wr_eq, if_neg (by simpa using e2)])
  have HS := Lib.hid (wst_start hB hlw (.cells #[.int .i64 t.k, .int .i64 t.i, .int .i64 t.j, .int .i64 t.n, .slice a t.kids.length cap] 24))
  have HBL := Lib.hid hB.lt
  have HW := Lib.hid hW
  have HL := Lib.hid (wr_len t m hr h0 hf hm)
  have HLN := Lib.hid (show bs.length + (1 + (headL t.k).length + (frontL t.k t.i t.j t.n m).length + (wrs t.k 0 t.kids m).length + 1) ≤ 140737488355328 from by
    have := HL.out; rw [HX.out] at this; simp only [List.length_append, List.length_cons, List.length_nil] at this; omega)
  have HN := Lib.hid hn
  have HK := Lib.hid hk
  have HBS := Lib.hid hbs
  have HR := Lib.hid (t.right_kids hr)
  have HF := Lib.hid (by rw [t.freeN_eq, if_neg (by simpa using e2)] at hf; exact hf : frees t.k 0 t.kids ≤ m)
  have IH := Lib.hid ih
  have hh := (HS.out.tab HW.out).heads_cell t.k (by omega) (by omega)
  have HLV := Lib.hid hlv
  have HFR := Lib.hid (show frontL t.k t.i t.j t.n m = ([]) ++ (lvP t.i t.j 0 ++ ([])) from by
    have hq : ¬ t.k = 23 := by simpa using e23
    unfold frontL lvlL; simp [hlv, hbd, hq, lvP])
  have HRR := Lib.hid hr
  have HBD := Lib.hid hbd
  have HFM := Lib.hid (show Fit m from ⟨by omega, by omega⟩)
  have HFM1 := Lib.hid (show Fit (m + 1) from ⟨by omega, by omega⟩)
  have hsw := hlw.size
  clear hB hlw hr hW hbs hn hk hl hf ih hfi hlv hbd
  have hk0 : 0 ≤ t.k := by omega
  have hk1 : t.k < 24 := by omega
  unfold tv
  unfold maxLen at hmx
  go_enter Tryd.func19, Tryd.ntmps19
  go_wp2_with fail
  · exfalso; have := head_len t.k; omega
  rw [show (⟨#[40]⟩ : ByteArray) = ⟨[(40 : UInt8)].toArray⟩ from rfl, str_add]
  refine (bstr_any _ b _ _ _ HS.out.bld (by have := HLN.out; simp [ByteArray.size]; omega) HS.out.hB).mono ?_
  rintro e w1 ⟨rfl, hb1, hl1, hk1⟩
  have HS1 := Lib.hid (HS.out.put hb1 hl1 hk1)
  rw [Lib.strCells_toArray] at HS1
  obtain ⟨d0, d1, d2, d3, d4⟩ := HS1.out.cells HBL.out
  have hsz : w.heap.size < w1.heap.size := by have := HS1.out.size; rw [World.size_alloc] at this; omega
  clear hb1 hl1 hk1 hh
  go_wp2_with fail
  go_region_held3 (fun w' => Below w1.heap.size w1 w' ∧ w'.cell? ⟨w.heap.size, 0, none⟩ = some (.int .i64 t.k) ∧ w'.cell? ⟨w.heap.size, 1, none⟩ = some (.int .i64 t.i) ∧ w'.cell? ⟨w.heap.size, 2, none⟩ = some (.int .i64 t.j))
    (first | (refine rl_keep hsz d0 d1 d2 ?_; repeat (first | exact Below.refl _ _ | (with_reducible assumption) | exact (by assumption : _ ∧ _).1 | refine Below.drew ?_ | refine Below.alloc ?_ (Nat.le_refl _) _)) | go_keep)
    (first | (go_at_call 32; refine (levels_any _ _).mono ?_; rintro e wn ⟨rfl, rfl⟩; rw [HLV.out]))
  all_goals
    rename_i hHeld
    clear hHeld
    go_wp2_with fail
    obtain ⟨w2, hw2⟩ : ∃ w2, w2 = (w1.alloc (.cells #[.int .i64 t.i, .int .i64 t.j] 3)).drew := ⟨_, rfl⟩
    rw [← hw2]
    have HS2 := Lib.hid (HS1.out.call (wr' := w2) (by rw [hw2]; exact ((Below.refl _ w1).alloc (Nat.le_refl _) _).drew)).again
    have HBX2 := Lib.hid (show w2.heap[w.heap.size]? = some (.cells #[.int .i64 t.k, .int .i64 t.i, .int .i64 t.j, .int .i64 t.n, .slice a t.kids.length cap] 24) from by
      have h := HS1.out.at (alloc_heap_new' w _) (by have := HBL.out; omega) ut_ne
      rw [hw2]; show (w1.alloc _).heap[w.heap.size]? = _; rw [Lib.alloc_old _ _ _ hsz]; exact h)
    have HRW2 := Lib.hid (show w2.heap[w1.heap.size]? = some (.cells #[.int .i64 t.i, .int .i64 t.j] 3) from by rw [hw2]; exact alloc_heap_new _ _)
    have HUP := Lib.hid (show Below w0.heap.size w w2 from by
      rw [hw2]; exact (((Below.refl _ w).alloc hsw _).trans HS1.out.up |>.alloc HS1.out.hB _).drew)
    have HKP := Lib.hid (show Kept b w w2 from by
      rw [hw2]; exact ((Kept.alloc b w _).trans HS1.out.kept).trans (Kept.alloc b w1 _))
    have hs2 : w1.heap.size < w2.heap.size := by rw [hw2]; show _ < (w1.alloc _).heap.size; simp
    clear hw2 d0 d1 d2 d3 d4
    go_loopw [47] (fun i wr => ∃ k : Nat, k ≤ 0 ∧ i = .int .i64 k ∧ WSt w0 b w2 (bs ++ Lib.byteCells ([40] ++ headL t.k) ++ Lib.byteCells (lvP t.i t.j k)) wr) (fun i _ => 0 - (intOf i).toNat)
    case atStart => exact ⟨0, by omega, rfl, by simpa [lvP, Lib.byteCells] using HS2.out⟩
    case round =>
      obtain ⟨k, hk, rfl, hst⟩ := hrel
      have hrow := hst.at HRW2.out (by have := HBL.out; omega) ti_ne
      have r0 : wr.cell? ⟨w1.heap.size, 0, none⟩ = some (.int .i64 t.i) := by rw [Lib.cell_of_heap hrow]; rfl
      have r1 : wr.cell? ⟨w1.heap.size, 1, none⟩ = some (.int .i64 t.j) := by rw [Lib.cell_of_heap hrow]; rfl
      have hbox := hst.at HBX2.out (by have := HBL.out; omega) ut_ne
      have d0 : wr.cell? ⟨w.heap.size, 0, none⟩ = some (.int .i64 t.k) := by rw [Lib.cell_of_heap hbox]; rfl
      have d4 : wr.cell? ⟨w.heap.size, 4, none⟩ = some (.slice a t.kids.length cap) := by rw [Lib.cell_of_heap hbox]; rfl
      have HST := Lib.hid hst
      clear hrow hbox hst
      obtain rfl : k = 0 := by omega
      go_wp2_with fail
      refine (binds_any _ _ _).mono ?_
      rintro e w5 ⟨rfl, rfl⟩
      rw [HBD.out]
      go_wp2_with fail
      clear r0 r1 d0 d4
      go_loopw [69] (fun i wv => ∃ q : Nat, q ≤ t.kids.length ∧ i = .int .i64 q ∧ WSt w0 b w2 (bs ++ Lib.byteCells ([40] ++ headL t.k ++ frontL t.k t.i t.j t.n m ++ wrs t.k 0 (t.kids.take q) m)) wv) (fun i _ => t.kids.length - (intOf i).toNat)
      case atStart => exact ⟨0, Nat.zero_le _, rfl, by have h := HST.out; rw [HFR.out]; simpa [wrs, lvP, Lib.byteCells] using h⟩
      case round =>
        obtain ⟨q, hq, rfl, hv⟩ := hrel
        have HV := Lib.hid hv
        have HBX3 := Lib.hid (hv.at HBX2.out (by have := HBL.out; omega) ut_ne)
        have hsv : w.heap.size < wr.heap.size := by have := HV.out.size; omega
        have d0 : wr.cell? ⟨w.heap.size, 0, none⟩ = some (.int .i64 t.k) := by rw [Lib.cell_of_heap HBX3.out]; rfl
        clear hv HST
        by_cases hlt : q < t.kids.length
        · obtain ⟨bn, o, rfl, hx⟩ := HN.out q hlt
          obtain ⟨c0, c1, c2, c3, c4⟩ := hx.below HV.out.low hx.lt
          have hq4 := HK.out q hlt
          obtain ⟨a', cap', S', hS, -⟩ := hq4.out
          rw [hS] at c4 hq4
          have HQ := Lib.hid hq4
          have HM := Lib.hid (List.getElem_mem hlt)
          have HROOM := Lib.hid (put_room HRR.out h0 HF.out hm hlt)
          have HTK := Lib.hid (wrs_take t.k m t.kids 0 q hlt)
          have HKF := Lib.hid (kid_free HF.out hlt)
          have HKS := Lib.hid (kid_size hlt)
          have HV5 := Lib.hid (HV.out.call (wr' := wr.alloc (.cells #[.int .i64 t.kids[q].k, .int .i64 t.kids[q].i, .int .i64 t.kids[q].j, .int .i64 t.kids[q].n, .slice a' t.kids[q].kids.length cap'] 24)) ((Below.refl _ _).alloc (Nat.le_refl _) _)).again
          clear hS hq4 hx
          have hbr := binds_range t.k q
          have HMD := Lib.hid (show midL t.k (0 + q) m = [] from if_neg (fun h => by have := h.1; simp [this] at e22))
          go_wp2_with fail
          refine (bbyte_any _ b _ _ _ HV5.out.bld (by have h1 := HROOM.out; have h2 := HBS.out; simp [Lib.byteCells] ; omega) HV5.out.hB).mono ?_
          rintro e w6 ⟨rfl, hb6, hl6, hk6⟩
          have HS6 := Lib.hid (HV5.out.put hb6 hl6 hk6)
          clear hb6 hl6 hk6
          have hy := HS6.out.at (alloc_heap_new' wr _) (by have := HBL.out; omega) ut_ne
          have hz := HS6.out.at (j := w.heap.size) (by rw [Lib.alloc_old _ _ _ hsv]; exact HBX3.out) (by have := HBL.out; omega) ut_ne
          have HNE := Lib.hid (show wr.heap.size ≠ b ∧ w.heap.size ≠ b by have := HBL.out; omega)
          have HY := Lib.hid hy
          have HZ := Lib.hid hz
          clear hy hz
          have HS6d := Lib.hid (HS6.out.call (wr' := w6.drew) (Below.refl _ w6).drew)
          have hS0 := kid_keep2 HY.out HZ.out HNE.out (Kept.refl b w6)
          have hwr : IntKind.i64.wrap (m + bindsN t.k (q : Int)) = m + bindsN t.k (q : Int) := IntWalk.i64_in _ (by omega)
          go_wp2_with fail
          refine wp_region_held_drew (S := fun w' => Kept b w6 w' ∧ w'.heap[wr.heap.size]? = some (.cells #[.int .i64 t.kids[q].k, .int .i64 t.kids[q].i, .int .i64 t.kids[q].j, .int .i64 t.kids[q].n, .slice a' t.kids[q].kids.length cap'] 24) ∧ w'.cell? ⟨w.heap.size, 0, none⟩ = some (.int .i64 t.k)) (by kernel_rfl) ?_ (fun hHeld => ?_)
          · (try dsimp only)
            (first | exact hS8 | exact hHeld | exact hS0)
          refine take_at 0 93 o19E_0 (v := ?_) (Or.inl ⟨by rfl, ?_⟩) ?_
          rotate_left 1
          · ((intro w hSw; (try dsimp only at hSw); unfold o19E_0; go_simp) <;> with_reducible rfl)
          (try simp only [Act.put, List.setIfInBounds_toArray, List.set_cons_zero, List.set_cons_succ])
          refine take_at 1 94 o19E_1 (yields_row wr.heap.size _ _ _ #[.int .i64 t.kids[q].k, .int .i64 t.kids[q].i, .int .i64 t.kids[q].j, .int .i64 t.kids[q].n, .slice a' t.kids[q].kids.length cap'] _ du (by rfl) rfl (by rfl) (fun w' h => h.2.1) hu1 (by cases du <;> first | rfl | exact hu2) size_termW) ?_
          (try simp only [Act.put, List.setIfInBounds_toArray, List.set_cons_zero, List.set_cons_succ])
          refine take_at 2 95 o19E_2 (v := ?_) (Or.inl ⟨by rfl, ?_⟩) ?_
          rotate_left 1
          · ((intro w hSw; (try dsimp only at hSw); unfold o19E_2; go_simp) <;> with_reducible rfl)
          (try simp only [Act.put, List.setIfInBounds_toArray, List.set_cons_zero, List.set_cons_succ])
          refine take_at 3 96 o19E_3 (v := ?_) (Or.inl ⟨by rfl, ?_⟩) ?_
          rotate_left 1
          · ((intro w hSw; (try dsimp only at hSw); unfold o19E_3; go_simp) <;> with_reducible rfl)
          (try simp only [Act.put, List.setIfInBounds_toArray, List.set_cons_zero, List.set_cons_succ])
          refine take_at 4 97 o19E_4 (v := ?_) (Or.inl ⟨by rfl, ?_⟩) ?_
          rotate_left 1
          · ((intro w hSw; (try dsimp only at hSw); obtain ⟨hSa, hSb, hSc⟩ := hSw; unfold o19E_4; go_simp) <;> with_reducible rfl)
          (try simp only [Act.put, List.setIfInBounds_toArray, List.set_cons_zero, List.set_cons_succ])
          refine take_at 5 98 o19E_5 (v := ?_) (Or.inl ⟨by rfl, ?_⟩) ?_
          rotate_left 1
          · ((intro w hSw; (try dsimp only at hSw); unfold o19E_5; go_simp) <;> with_reducible rfl)
          (try simp only [Act.put, List.setIfInBounds_toArray, List.set_cons_zero, List.set_cons_succ])
          refine wpAnyH_ready (rs := [6]) (by kernel_rfl) (by simp) ?_
          refine AllReadyH.cons (o := o19E_6) rfl (fun K hK => ?_) ?_
          · unfold o19E_6
            go_simp
            (go_at_call 34; refine (binds_any _ _ _).mono ?_; rintro e w7 ⟨rfl, rfl⟩)
            refine hK.out _ _ ?_ (fun hHeld => ?_)
            · (try dsimp only)
              (first | exact hS8 | exact hHeld | exact hS0)
            clear hK K
            (try simp only [Act.put, List.setIfInBounds_toArray, List.set_cons_zero, List.set_cons_succ])
            refine take_at 7 100 o19E_7 (v := ?_) (Or.inl ⟨by rfl, ?_⟩) ?_
            rotate_left 1
            · ((intro w hSw; (try dsimp only at hSw); unfold o19E_7; go_simp) <;> with_reducible rfl)
            (try simp only [Act.put, List.setIfInBounds_toArray, List.set_cons_zero, List.set_cons_succ])
            refine wpAnyH_ready (rs := [8]) (by kernel_rfl) (by simp) ?_
            refine AllReadyH.cons (o := o19E_8) rfl (fun K hK => ?_) ?_
            · unfold o19E_8
              go_simp
              (go_at_call 19; with_reducible refine Calls.mono ((IH.out _ HM.out).use _ _ _ _ HQ.out HS6d.out.low HS6d.out.bld (HR.out _ HM.out) (by omega) HKF.out (by have := HKS.out; omega) (by have h1 := HROOM.out; have h2 := HBS.out; simp [Lib.byteCells] ; omega)) ?_; rintro e w8 ⟨rfl, hb8, hl8, hk8⟩)
              have HS8 := Lib.hid (HV.out.over (HS6d.out.put hb8 hl8 hk8))
              have hS8 := kid_keep2 HY.out HZ.out HNE.out hk8
              clear hb8 hl8 hk8 hHeld
              refine hK.out _ _ ?_ (fun hHeld => ?_)
              · (try dsimp only)
                (first | exact hS8 | exact hHeld | exact hS0)
              clear hK K
              (try simp only [Act.put, List.setIfInBounds_toArray, List.set_cons_zero, List.set_cons_succ])
              refine wpAnyH_done (by kernel_rfl) ?_ _
              go_wp2
              go_roundw
              case rel => exact ⟨q + 1, by omega, by go_num, by have h := HS8.out; rw [HTK.out, HMD.out]; simpa [Lib.byteCells] using h⟩
              case measure => simp [intOf]; omega
            exact AllReadyH.nil
          exact AllReadyH.nil
        · obtain rfl : q = t.kids.length := by omega
          go_wp2_with fail
          refine (bbyte_any _ b _ _ _ HV.out.bld (by have := HLN.out; simp [Lib.byteCells]; omega) HV.out.hB).mono ?_
          rintro e w6 ⟨rfl, hb6, hl6, hk6⟩
          have HS6 := Lib.hid (HV.out.put hb6 hl6 hk6)
          have HB6 := Lib.hid hb6
          clear hb6 hl6 hk6
          go_wp2
          go_end0
          exact ⟨rfl, by have h := HB6.out; rw [HX.out]; rw [List.take_length] at h; simpa [Lib.byteCells] using h, HUP.out.trans HS6.out.up, HKP.out.trans HS6.out.kept⟩
end Go.Proofs.YtficmfiekibjgaaDoor

namespace Go.Proofs.YtficmfiekibjgaaDoor
open Go.RowKit

def o19F_0 : Oper := { dst := some 93, op := Go.Op.move (Go.Operand.tmp 0), type := 37, pos := "write.go:60", after := #[], guard := none }
def o19F_1 : Oper := { dst := some 94, op := Go.Op.load 24 (Go.Operand.tmp 9), type := 24, pos := "write.go:60", after := #[], guard := none }
def o19F_2 : Oper := { dst := some 95, op := Go.Op.move (Go.Operand.tmp 2), type := 3, pos := "write.go:60", after := #[], guard := none }
def o19F_3 : Oper := { dst := some 96, op := Go.Op.fieldAddr 24 (Go.Operand.tmp 4) 0, type := 0, pos := "write.go:60", after := #[], guard := none }
def o19F_4 : Oper := { dst := some 97, op := Go.Op.load 3 (Go.Operand.tmp 96), type := 3, pos := "write.go:60", after := #[{ on := 3, ground := Go.Ground.data }], guard := none }
def o19F_5 : Oper := { dst := some 98, op := Go.Op.move (Go.Operand.tmp 8), type := 3, pos := "write.go:60", after := #[], guard := none }
def o19F_6 : Oper := { dst := some 99, op := Go.Op.call { callee := Go.Callee.value (Go.Operand.func 34), args := #[Go.Operand.tmp 97, Go.Operand.tmp 98], argTypes := #[3, 3] }, type := 3, pos := "write.go:60", after := #[{ on := 4, ground := Go.Ground.data }, { on := 5, ground := Go.Ground.data }], guard := none }
def o19F_7 : Oper := { dst := some 100, op := Go.Op.binOp Go.BinOp.add 3 (Go.Operand.tmp 95) (Go.Operand.tmp 99) 3, type := 3, pos := "write.go:60", after := #[{ on := 2, ground := Go.Ground.data }, { on := 6, ground := Go.Ground.data }], guard := none }
def o19F_8 : Oper := { dst := some 101, op := Go.Op.call { callee := Go.Callee.value (Go.Operand.func 19), args := #[Go.Operand.tmp 93, Go.Operand.tmp 94, Go.Operand.tmp 100], argTypes := #[37, 24, 3] }, type := 0, pos := "write.go:60", after := #[{ on := 0, ground := Go.Ground.data }, { on := 1, ground := Go.Ground.data }, { on := 7, ground := Go.Ground.data }, { on := 6, ground := Go.Ground.chain }], guard := none }

set_option maxHeartbeats 4000000 in
set_option maxRecDepth 100000 in
theorem wput_F (w0 : World) (hW : WTab w0) (b : Nat) (t : Tm) (ih : ∀ x ∈ t.kids, WPut w0 b x) (e2 : (t.k == 2) = false) (e22 : (t.k == 22) = true) (e23 : (t.k == 23) = false) (hbd : bindsN t.k 1 = 0) (hlv : levelsN t.k = 0) : WPut w0 b t := by
  intro w s bs m hl hlw hB hr h0 hf hm hbs
  obtain ⟨a, cap, S, rfl, hc, hmx, hfi, hn, hk⟩ := hl.out
  have hkr := t.node_kind (t.right_node hr)
  have hfit := right_fit hr
  obtain ⟨du, hu1, hu2⟩ := under_termW
  have HX := Lib.hid (show t.wr m = 40 :: (headL t.k ++ (frontL t.k t.i t.j t.n m ++ (wrs t.k 0 t.kids m ++ [41]))) by rw [t.wr_eq, if_neg (by simpa using e2)])
  have HS := Lib.hid (wst_start hB hlw (.cells #[.int .i64 t.k, .int .i64 t.i, .int .i64 t.j, .int .i64 t.n, .slice a t.kids.length cap] 24))
  have HBL := Lib.hid hB.lt
  have HW := Lib.hid hW
  have HL := Lib.hid (wr_len t m hr h0 hf hm)
  have HLN := Lib.hid (show bs.length + (1 + (headL t.k).length + (frontL t.k t.i t.j t.n m).length + (wrs t.k 0 t.kids m).length + 1) ≤ 140737488355328 from by
    have := HL.out; rw [HX.out] at this; simp only [List.length_append, List.length_cons, List.length_nil] at this; omega)
  have HN := Lib.hid hn
  have HK := Lib.hid hk
  have HBS := Lib.hid hbs
  have HR := Lib.hid (t.right_kids hr)
  have HF := Lib.hid (by rw [t.freeN_eq, if_neg (by simpa using e2)] at hf; exact hf : frees t.k 0 t.kids ≤ m)
  have IH := Lib.hid ih
  have hh := (HS.out.tab HW.out).heads_cell t.k (by omega) (by omega)
  have HLV := Lib.hid hlv
  have HFR := Lib.hid (show frontL t.k t.i t.j t.n m = ([]) ++ (lvP t.i t.j 0 ++ ([])) from by
    have hq : ¬ t.k = 23 := by simpa using e23
    unfold frontL lvlL; simp [hlv, hbd, hq, lvP])
  have HRR := Lib.hid hr
  have HBD := Lib.hid hbd
  have HFM := Lib.hid (show Fit m from ⟨by omega, by omega⟩)
  have HFM1 := Lib.hid (show Fit (m + 1) from ⟨by omega, by omega⟩)
  have hsw := hlw.size
  clear hB hlw hr hW hbs hn hk hl hf ih hfi hlv hbd
  have hk0 : 0 ≤ t.k := by omega
  have hk1 : t.k < 24 := by omega
  unfold tv
  unfold maxLen at hmx
  go_enter Tryd.func19, Tryd.ntmps19
  go_wp2_with fail
  · exfalso; have := head_len t.k; omega
  rw [show (⟨#[40]⟩ : ByteArray) = ⟨[(40 : UInt8)].toArray⟩ from rfl, str_add]
  refine (bstr_any _ b _ _ _ HS.out.bld (by have := HLN.out; simp [ByteArray.size]; omega) HS.out.hB).mono ?_
  rintro e w1 ⟨rfl, hb1, hl1, hk1⟩
  have HS1 := Lib.hid (HS.out.put hb1 hl1 hk1)
  rw [Lib.strCells_toArray] at HS1
  obtain ⟨d0, d1, d2, d3, d4⟩ := HS1.out.cells HBL.out
  have hsz : w.heap.size < w1.heap.size := by have := HS1.out.size; rw [World.size_alloc] at this; omega
  clear hb1 hl1 hk1 hh
  go_wp2_with fail
  go_region_held3 (fun w' => Below w1.heap.size w1 w' ∧ w'.cell? ⟨w.heap.size, 0, none⟩ = some (.int .i64 t.k) ∧ w'.cell? ⟨w.heap.size, 1, none⟩ = some (.int .i64 t.i) ∧ w'.cell? ⟨w.heap.size, 2, none⟩ = some (.int .i64 t.j))
    (first | (refine rl_keep hsz d0 d1 d2 ?_; repeat (first | exact Below.refl _ _ | (with_reducible assumption) | exact (by assumption : _ ∧ _).1 | refine Below.drew ?_ | refine Below.alloc ?_ (Nat.le_refl _) _)) | go_keep)
    (first | (go_at_call 32; refine (levels_any _ _).mono ?_; rintro e wn ⟨rfl, rfl⟩; rw [HLV.out]))
  all_goals
    rename_i hHeld
    clear hHeld
    go_wp2_with fail
    obtain ⟨w2, hw2⟩ : ∃ w2, w2 = (w1.alloc (.cells #[.int .i64 t.i, .int .i64 t.j] 3)).drew := ⟨_, rfl⟩
    rw [← hw2]
    have HS2 := Lib.hid (HS1.out.call (wr' := w2) (by rw [hw2]; exact ((Below.refl _ w1).alloc (Nat.le_refl _) _).drew)).again
    have HBX2 := Lib.hid (show w2.heap[w.heap.size]? = some (.cells #[.int .i64 t.k, .int .i64 t.i, .int .i64 t.j, .int .i64 t.n, .slice a t.kids.length cap] 24) from by
      have h := HS1.out.at (alloc_heap_new' w _) (by have := HBL.out; omega) ut_ne
      rw [hw2]; show (w1.alloc _).heap[w.heap.size]? = _; rw [Lib.alloc_old _ _ _ hsz]; exact h)
    have HRW2 := Lib.hid (show w2.heap[w1.heap.size]? = some (.cells #[.int .i64 t.i, .int .i64 t.j] 3) from by rw [hw2]; exact alloc_heap_new _ _)
    have HUP := Lib.hid (show Below w0.heap.size w w2 from by
      rw [hw2]; exact (((Below.refl _ w).alloc hsw _).trans HS1.out.up |>.alloc HS1.out.hB _).drew)
    have HKP := Lib.hid (show Kept b w w2 from by
      rw [hw2]; exact ((Kept.alloc b w _).trans HS1.out.kept).trans (Kept.alloc b w1 _))
    have hs2 : w1.heap.size < w2.heap.size := by rw [hw2]; show _ < (w1.alloc _).heap.size; simp
    clear hw2 d0 d1 d2 d3 d4
    go_loopw [47] (fun i wr => ∃ k : Nat, k ≤ 0 ∧ i = .int .i64 k ∧ WSt w0 b w2 (bs ++ Lib.byteCells ([40] ++ headL t.k) ++ Lib.byteCells (lvP t.i t.j k)) wr) (fun i _ => 0 - (intOf i).toNat)
    case atStart => exact ⟨0, by omega, rfl, by simpa [lvP, Lib.byteCells] using HS2.out⟩
    case round =>
      obtain ⟨k, hk, rfl, hst⟩ := hrel
      have hrow := hst.at HRW2.out (by have := HBL.out; omega) ti_ne
      have r0 : wr.cell? ⟨w1.heap.size, 0, none⟩ = some (.int .i64 t.i) := by rw [Lib.cell_of_heap hrow]; rfl
      have r1 : wr.cell? ⟨w1.heap.size, 1, none⟩ = some (.int .i64 t.j) := by rw [Lib.cell_of_heap hrow]; rfl
      have hbox := hst.at HBX2.out (by have := HBL.out; omega) ut_ne
      have d0 : wr.cell? ⟨w.heap.size, 0, none⟩ = some (.int .i64 t.k) := by rw [Lib.cell_of_heap hbox]; rfl
      have d4 : wr.cell? ⟨w.heap.size, 4, none⟩ = some (.slice a t.kids.length cap) := by rw [Lib.cell_of_heap hbox]; rfl
      have HST := Lib.hid hst
      clear hrow hbox hst
      obtain rfl : k = 0 := by omega
      go_wp2_with fail
      refine (binds_any _ _ _).mono ?_
      rintro e w5 ⟨rfl, rfl⟩
      rw [HBD.out]
      go_wp2_with fail
      clear r0 r1 d0 d4
      go_loopw [69] (fun i wv => ∃ q : Nat, q ≤ t.kids.length ∧ i = .int .i64 q ∧ WSt w0 b w2 (bs ++ Lib.byteCells ([40] ++ headL t.k ++ frontL t.k t.i t.j t.n m ++ wrs t.k 0 (t.kids.take q) m)) wv) (fun i _ => t.kids.length - (intOf i).toNat)
      case atStart => exact ⟨0, Nat.zero_le _, rfl, by have h := HST.out; rw [HFR.out]; simpa [wrs, lvP, Lib.byteCells] using h⟩
      case round =>
        obtain ⟨q, hq, rfl, hv⟩ := hrel
        have HV := Lib.hid hv
        have HBX3 := Lib.hid (hv.at HBX2.out (by have := HBL.out; omega) ut_ne)
        have hsv : w.heap.size < wr.heap.size := by have := HV.out.size; omega
        have d0 : wr.cell? ⟨w.heap.size, 0, none⟩ = some (.int .i64 t.k) := by rw [Lib.cell_of_heap HBX3.out]; rfl
        clear hv HST
        by_cases hlt : q < t.kids.length
        · obtain ⟨bn, o, rfl, hx⟩ := HN.out q hlt
          obtain ⟨c0, c1, c2, c3, c4⟩ := hx.below HV.out.low hx.lt
          have hq4 := HK.out q hlt
          obtain ⟨a', cap', S', hS, -⟩ := hq4.out
          rw [hS] at c4 hq4
          have HQ := Lib.hid hq4
          have HM := Lib.hid (List.getElem_mem hlt)
          have HROOM := Lib.hid (put_room HRR.out h0 HF.out hm hlt)
          have HTK := Lib.hid (wrs_take t.k m t.kids 0 q hlt)
          have HKF := Lib.hid (kid_free HF.out hlt)
          have HKS := Lib.hid (kid_size hlt)
          have HV5 := Lib.hid (HV.out.call (wr' := wr.alloc (.cells #[.int .i64 t.kids[q].k, .int .i64 t.kids[q].i, .int .i64 t.kids[q].j, .int .i64 t.kids[q].n, .slice a' t.kids[q].kids.length cap'] 24)) ((Below.refl _ _).alloc (Nat.le_refl _) _)).again
          clear hS hq4 hx
          have hbr := binds_range t.k q
          by_cases hq2 : q = 2
          · have HMD := Lib.hid (show midL t.k (0 + q) m = 32 :: (nameW m ++ 32 :: nameW (m + 1)) from by unfold midL; rw [if_pos ⟨by simpa using e22, by omega⟩])
            have HMR := Lib.hid (show midL t.k q m = 32 :: (nameW m ++ 32 :: nameW (m + 1)) from by unfold midL; rw [if_pos ⟨by simpa using e22, by omega⟩])
            have hqn : ((q : Int) == 2) = true := by simp; omega
            clear hq2
            have HROOM := Lib.hid (by have h := HROOM.out; rw [HMR.out] at h; exact h)
            have HNL := Lib.hid (name_len HFM.out)
            have HNL1 := Lib.hid (name_len HFM1.out)
            go_wp2_with fail
            refine (name_any m _ HFM.out (HV5.out.tab HW.out).pow).mono ?_
            rintro e w5 ⟨rfl, hb5⟩
            have HS5 := Lib.hid (HV5.out.call hb5)
            clear hb5
            go_wp2_with fail
            · exfalso; have := HNL.out; omega
            · exfalso; have := HNL.out; omega
            refine (name_any (m + 1) _ HFM1.out (HS5.out.tab HW.out).pow).mono ?_
            rintro e w5' ⟨rfl, hb5⟩
            have HSA := Lib.hid (HS5.out.call hb5)
            clear hb5
            go_wp2_with fail
            · exfalso; have := HNL.out; have := HNL1.out; omega
            rw [show (⟨#[32]⟩ : ByteArray) = ⟨[(32 : UInt8)].toArray⟩ from rfl, str_add, str_add, str_add]
            refine (bstr_any _ b _ _ _ HSA.out.bld (by have h1 := HROOM.out; have h2 := HBS.out; simp [ByteArray.size, Lib.byteCells] at h1 h2 ⊢; omega) HSA.out.hB).mono ?_
            rintro e w5'' ⟨rfl, hb5, hl5, hk5⟩
            have HSB := Lib.hid (HSA.out.put hb5 hl5 hk5)
            rw [Lib.strCells_toArray] at HSB
            clear hb5 hl5 hk5
            go_wp2_with fail
            refine (bbyte_any _ b _ _ _ HSB.out.bld (by have h1 := HROOM.out; have h2 := HBS.out; simp [Lib.byteCells] at h1 h2 ⊢; omega) HSB.out.hB).mono ?_
            rintro e w6 ⟨rfl, hb6, hl6, hk6⟩
            have HS6 := Lib.hid (HSB.out.put hb6 hl6 hk6)
            clear hb6 hl6 hk6
            have hy := HS6.out.at (alloc_heap_new' wr _) (by have := HBL.out; omega) ut_ne
            have hz := HS6.out.at (j := w.heap.size) (by rw [Lib.alloc_old _ _ _ hsv]; exact HBX3.out) (by have := HBL.out; omega) ut_ne
            have HNE := Lib.hid (show wr.heap.size ≠ b ∧ w.heap.size ≠ b by have := HBL.out; omega)
            have HY := Lib.hid hy
            have HZ := Lib.hid hz
            clear hy hz
            have HS6d := Lib.hid (HS6.out.call (wr' := w6.drew) (Below.refl _ w6).drew)
            have hS0 := kid_keep2 HY.out HZ.out HNE.out (Kept.refl b w6)
            have hwr : IntKind.i64.wrap (m + bindsN t.k (q : Int)) = m + bindsN t.k (q : Int) := IntWalk.i64_in _ (by omega)
            go_wp2_with fail
            refine wp_region_held_drew (S := fun w' => Kept b w6 w' ∧ w'.heap[wr.heap.size]? = some (.cells #[.int .i64 t.kids[q].k, .int .i64 t.kids[q].i, .int .i64 t.kids[q].j, .int .i64 t.kids[q].n, .slice a' t.kids[q].kids.length cap'] 24) ∧ w'.cell? ⟨w.heap.size, 0, none⟩ = some (.int .i64 t.k)) (by kernel_rfl) ?_ (fun hHeld => ?_)
            · (try dsimp only)
              (first | exact hS8 | exact hHeld | exact hS0)
            refine take_at 0 93 o19F_0 (v := ?_) (Or.inl ⟨by rfl, ?_⟩) ?_
            rotate_left 1
            · ((intro w hSw; (try dsimp only at hSw); unfold o19F_0; go_simp) <;> with_reducible rfl)
            (try simp only [Act.put, List.setIfInBounds_toArray, List.set_cons_zero, List.set_cons_succ])
            refine take_at 1 94 o19F_1 (yields_row wr.heap.size _ _ _ #[.int .i64 t.kids[q].k, .int .i64 t.kids[q].i, .int .i64 t.kids[q].j, .int .i64 t.kids[q].n, .slice a' t.kids[q].kids.length cap'] _ du (by rfl) rfl (by rfl) (fun w' h => h.2.1) hu1 (by cases du <;> first | rfl | exact hu2) size_termW) ?_
            (try simp only [Act.put, List.setIfInBounds_toArray, List.set_cons_zero, List.set_cons_succ])
            refine take_at 2 95 o19F_2 (v := ?_) (Or.inl ⟨by rfl, ?_⟩) ?_
            rotate_left 1
            · ((intro w hSw; (try dsimp only at hSw); unfold o19F_2; go_simp) <;> with_reducible rfl)
            (try simp only [Act.put, List.setIfInBounds_toArray, List.set_cons_zero, List.set_cons_succ])
            refine take_at 3 96 o19F_3 (v := ?_) (Or.inl ⟨by rfl, ?_⟩) ?_
            rotate_left 1
            · ((intro w hSw; (try dsimp only at hSw); unfold o19F_3; go_simp) <;> with_reducible rfl)
            (try simp only [Act.put, List.setIfInBounds_toArray, List.set_cons_zero, List.set_cons_succ])
            refine take_at 4 97 o19F_4 (v := ?_) (Or.inl ⟨by rfl, ?_⟩) ?_
            rotate_left 1
            · ((intro w hSw; (try dsimp only at hSw); obtain ⟨hSa, hSb, hSc⟩ := hSw; unfold o19F_4; go_simp) <;> with_reducible rfl)
            (try simp only [Act.put, List.setIfInBounds_toArray, List.set_cons_zero, List.set_cons_succ])
            refine take_at 5 98 o19F_5 (v := ?_) (Or.inl ⟨by rfl, ?_⟩) ?_
            rotate_left 1
            · ((intro w hSw; (try dsimp only at hSw); unfold o19F_5; go_simp) <;> with_reducible rfl)
            (try simp only [Act.put, List.setIfInBounds_toArray, List.set_cons_zero, List.set_cons_succ])
            refine wpAnyH_ready (rs := [6]) (by kernel_rfl) (by simp) ?_
            refine AllReadyH.cons (o := o19F_6) rfl (fun K hK => ?_) ?_
            · unfold o19F_6
              go_simp
              (go_at_call 34; refine (binds_any _ _ _).mono ?_; rintro e w7 ⟨rfl, rfl⟩)
              refine hK.out _ _ ?_ (fun hHeld => ?_)
              · (try dsimp only)
                (first | exact hS8 | exact hHeld | exact hS0)
              clear hK K
              (try simp only [Act.put, List.setIfInBounds_toArray, List.set_cons_zero, List.set_cons_succ])
              refine take_at 7 100 o19F_7 (v := ?_) (Or.inl ⟨by rfl, ?_⟩) ?_
              rotate_left 1
              · ((intro w hSw; (try dsimp only at hSw); unfold o19F_7; go_simp) <;> with_reducible rfl)
              (try simp only [Act.put, List.setIfInBounds_toArray, List.set_cons_zero, List.set_cons_succ])
              refine wpAnyH_ready (rs := [8]) (by kernel_rfl) (by simp) ?_
              refine AllReadyH.cons (o := o19F_8) rfl (fun K hK => ?_) ?_
              · unfold o19F_8
                go_simp
                (go_at_call 19; with_reducible refine Calls.mono ((IH.out _ HM.out).use _ _ _ _ HQ.out HS6d.out.low HS6d.out.bld (HR.out _ HM.out) (by omega) HKF.out (by have := HKS.out; omega) (by have h1 := HROOM.out; have h2 := HBS.out; simp [Lib.byteCells] at h1 h2 ⊢; omega)) ?_; rintro e w8 ⟨rfl, hb8, hl8, hk8⟩)
                have HS8 := Lib.hid (HV.out.over (HS6d.out.put hb8 hl8 hk8))
                have hS8 := kid_keep2 HY.out HZ.out HNE.out hk8
                clear hb8 hl8 hk8 hHeld
                refine hK.out _ _ ?_ (fun hHeld => ?_)
                · (try dsimp only)
                  (first | exact hS8 | exact hHeld | exact hS0)
                clear hK K
                (try simp only [Act.put, List.setIfInBounds_toArray, List.set_cons_zero, List.set_cons_succ])
                refine wpAnyH_done (by kernel_rfl) ?_ _
                go_wp2
                go_roundw
                case rel => exact ⟨q + 1, by omega, by go_num, by have h := HS8.out; rw [HTK.out, HMD.out]; simpa [Lib.byteCells] using h⟩
                case measure => simp [intOf]; omega
              exact AllReadyH.nil
            exact AllReadyH.nil
          · have HMD := Lib.hid (show midL t.k (0 + q) m = [] from if_neg (fun h => by have := h.2; omega))
            have hqn : ((q : Int) == 2) = false := by simp; omega
            go_wp2_with fail
            refine (bbyte_any _ b _ _ _ HV5.out.bld (by have h1 := HROOM.out; have h2 := HBS.out; simp [Lib.byteCells] ; omega) HV5.out.hB).mono ?_
            rintro e w6 ⟨rfl, hb6, hl6, hk6⟩
            have HS6 := Lib.hid (HV5.out.put hb6 hl6 hk6)
            clear hb6 hl6 hk6
            have hy := HS6.out.at (alloc_heap_new' wr _) (by have := HBL.out; omega) ut_ne
            have hz := HS6.out.at (j := w.heap.size) (by rw [Lib.alloc_old _ _ _ hsv]; exact HBX3.out) (by have := HBL.out; omega) ut_ne
            have HNE := Lib.hid (show wr.heap.size ≠ b ∧ w.heap.size ≠ b by have := HBL.out; omega)
            have HY := Lib.hid hy
            have HZ := Lib.hid hz
            clear hy hz
            have HS6d := Lib.hid (HS6.out.call (wr' := w6.drew) (Below.refl _ w6).drew)
            have hS0 := kid_keep2 HY.out HZ.out HNE.out (Kept.refl b w6)
            have hwr : IntKind.i64.wrap (m + bindsN t.k (q : Int)) = m + bindsN t.k (q : Int) := IntWalk.i64_in _ (by omega)
            go_wp2_with fail
            refine wp_region_held_drew (S := fun w' => Kept b w6 w' ∧ w'.heap[wr.heap.size]? = some (.cells #[.int .i64 t.kids[q].k, .int .i64 t.kids[q].i, .int .i64 t.kids[q].j, .int .i64 t.kids[q].n, .slice a' t.kids[q].kids.length cap'] 24) ∧ w'.cell? ⟨w.heap.size, 0, none⟩ = some (.int .i64 t.k)) (by kernel_rfl) ?_ (fun hHeld => ?_)
            · (try dsimp only)
              (first | exact hS8 | exact hHeld | exact hS0)
            refine take_at 0 93 o19F_0 (v := ?_) (Or.inl ⟨by rfl, ?_⟩) ?_
            rotate_left 1
            · ((intro w hSw; (try dsimp only at hSw); unfold o19F_0; go_simp) <;> with_reducible rfl)
            (try simp only [Act.put, List.setIfInBounds_toArray, List.set_cons_zero, List.set_cons_succ])
            refine take_at 1 94 o19F_1 (yields_row wr.heap.size _ _ _ #[.int .i64 t.kids[q].k, .int .i64 t.kids[q].i, .int .i64 t.kids[q].j, .int .i64 t.kids[q].n, .slice a' t.kids[q].kids.length cap'] _ du (by rfl) rfl (by rfl) (fun w' h => h.2.1) hu1 (by cases du <;> first | rfl | exact hu2) size_termW) ?_
            (try simp only [Act.put, List.setIfInBounds_toArray, List.set_cons_zero, List.set_cons_succ])
            refine take_at 2 95 o19F_2 (v := ?_) (Or.inl ⟨by rfl, ?_⟩) ?_
            rotate_left 1
            · ((intro w hSw; (try dsimp only at hSw); unfold o19F_2; go_simp) <;> with_reducible rfl)
            (try simp only [Act.put, List.setIfInBounds_toArray, List.set_cons_zero, List.set_cons_succ])
            refine take_at 3 96 o19F_3 (v := ?_) (Or.inl ⟨by rfl, ?_⟩) ?_
            rotate_left 1
            · ((intro w hSw; (try dsimp only at hSw); unfold o19F_3; go_simp) <;> with_reducible rfl)
            (try simp only [Act.put, List.setIfInBounds_toArray, List.set_cons_zero, List.set_cons_succ])
            refine take_at 4 97 o19F_4 (v := ?_) (Or.inl ⟨by rfl, ?_⟩) ?_
            rotate_left 1
            · ((intro w hSw; (try dsimp only at hSw); obtain ⟨hSa, hSb, hSc⟩ := hSw; unfold o19F_4; go_simp) <;> with_reducible rfl)
            (try simp only [Act.put, List.setIfInBounds_toArray, List.set_cons_zero, List.set_cons_succ])
            refine take_at 5 98 o19F_5 (v := ?_) (Or.inl ⟨by rfl, ?_⟩) ?_
            rotate_left 1
            · ((intro w hSw; (try dsimp only at hSw); unfold o19F_5; go_simp) <;> with_reducible rfl)
            (try simp only [Act.put, List.setIfInBounds_toArray, List.set_cons_zero, List.set_cons_succ])
            refine wpAnyH_ready (rs := [6]) (by kernel_rfl) (by simp) ?_
            refine AllReadyH.cons (o := o19F_6) rfl (fun K hK => ?_) ?_
            · unfold o19F_6
              go_simp
              (go_at_call 34; refine (binds_any _ _ _).mono ?_; rintro e w7 ⟨rfl, rfl⟩)
              refine hK.out _ _ ?_ (fun hHeld => ?_)
              · (try dsimp only)
                (first | exact hS8 | exact hHeld | exact hS0)
              clear hK K
              (try simp only [Act.put, List.setIfInBounds_toArray, List.set_cons_zero, List.set_cons_succ])
              refine take_at 7 100 o19F_7 (v := ?_) (Or.inl ⟨by rfl, ?_⟩) ?_
              rotate_left 1
              · ((intro w hSw; (try dsimp only at hSw); unfold o19F_7; go_simp) <;> with_reducible rfl)
              (try simp only [Act.put, List.setIfInBounds_toArray, List.set_cons_zero, List.set_cons_succ])
              refine wpAnyH_ready (rs := [8]) (by kernel_rfl) (by simp) ?_
              refine AllReadyH.cons (o := o19F_8) rfl (fun K hK => ?_) ?_
              · unfold o19F_8
                go_simp
                (go_at_call 19; with_reducible refine Calls.mono ((IH.out _ HM.out).use _ _ _ _ HQ.out HS6d.out.low HS6d.out.bld (HR.out _ HM.out) (by omega) HKF.out (by have := HKS.out; omega) (by have h1 := HROOM.out; have h2 := HBS.out; simp [Lib.byteCells] ; omega)) ?_; rintro e w8 ⟨rfl, hb8, hl8, hk8⟩)
                have HS8 := Lib.hid (HV.out.over (HS6d.out.put hb8 hl8 hk8))
                have hS8 := kid_keep2 HY.out HZ.out HNE.out hk8
                clear hb8 hl8 hk8 hHeld
                refine hK.out _ _ ?_ (fun hHeld => ?_)
                · (try dsimp only)
                  (first | exact hS8 | exact hHeld | exact hS0)
                clear hK K
                (try simp only [Act.put, List.setIfInBounds_toArray, List.set_cons_zero, List.set_cons_succ])
                refine wpAnyH_done (by kernel_rfl) ?_ _
                go_wp2
                go_roundw
                case rel => exact ⟨q + 1, by omega, by go_num, by have h := HS8.out; rw [HTK.out, HMD.out]; simpa [Lib.byteCells] using h⟩
                case measure => simp [intOf]; omega
              exact AllReadyH.nil
            exact AllReadyH.nil
        · obtain rfl : q = t.kids.length := by omega
          go_wp2_with fail
          refine (bbyte_any _ b _ _ _ HV.out.bld (by have := HLN.out; simp [Lib.byteCells]; omega) HV.out.hB).mono ?_
          rintro e w6 ⟨rfl, hb6, hl6, hk6⟩
          have HS6 := Lib.hid (HV.out.put hb6 hl6 hk6)
          have HB6 := Lib.hid hb6
          clear hb6 hl6 hk6
          go_wp2
          go_end0
          exact ⟨rfl, by have h := HB6.out; rw [HX.out]; rw [List.take_length] at h; simpa [Lib.byteCells] using h, HUP.out.trans HS6.out.up, HKP.out.trans HS6.out.kept⟩
end Go.Proofs.YtficmfiekibjgaaDoor

namespace Go.Proofs.YtficmfiekibjgaaDoor
open Go.RowKit

theorem wput_any (w0 : World) (hW : WTab w0) (b : Nat) (t : Tm) : WPut w0 b t := by
  induction t using Tm.ind with
  | h t ih =>
    intro w s bs m hl hlw hB hr h0 hf hm hbs
    have hz := t.size_eq
    have hk := t.node_kind (t.right_node hr)
    by_cases h2 : t.k = 2
    · exact wput_var w0 hW b t w s bs m hlw hB hr h2 h0 hf (by omega) (by omega)
    have e2 : (t.k == 2) = false := by simpa using h2
    have hc : t.k = 1 ∨ t.k = 3 ∨ t.k = 4 ∨ t.k = 5 ∨ t.k = 6 ∨ t.k = 7 ∨ t.k = 8 ∨ t.k = 9 ∨ t.k = 10 ∨ t.k = 11 ∨ t.k = 12 ∨ t.k = 13 ∨ t.k = 14 ∨ t.k = 15 ∨ t.k = 16 ∨ t.k = 17 ∨ t.k = 18 ∨ t.k = 19 ∨ t.k = 20 ∨ t.k = 21 ∨ t.k = 22 ∨ t.k = 23 := by omega
    rcases hc with h | h | h | h | h | h | h | h | h | h | h | h | h | h | h | h | h | h | h | h | h | h
    · exact wput_A w0 hW b t ih e2 (by rw [h]; decide) (by rw [h]; decide) (by rw [h]; decide) (by rw [h]; decide) w s bs m hl hlw hB hr h0 hf hm hbs
    · exact wput_B w0 hW b t ih e2 (by rw [h]; decide) (by rw [h]; decide) (by rw [h]; decide) (by rw [h]; decide) w s bs m hl hlw hB hr h0 hf hm hbs
    · exact wput_B w0 hW b t ih e2 (by rw [h]; decide) (by rw [h]; decide) (by rw [h]; decide) (by rw [h]; decide) w s bs m hl hlw hB hr h0 hf hm hbs
    · exact wput_B w0 hW b t ih e2 (by rw [h]; decide) (by rw [h]; decide) (by rw [h]; decide) (by rw [h]; decide) w s bs m hl hlw hB hr h0 hf hm hbs
    · exact wput_B w0 hW b t ih e2 (by rw [h]; decide) (by rw [h]; decide) (by rw [h]; decide) (by rw [h]; decide) w s bs m hl hlw hB hr h0 hf hm hbs
    · exact wput_B w0 hW b t ih e2 (by rw [h]; decide) (by rw [h]; decide) (by rw [h]; decide) (by rw [h]; decide) w s bs m hl hlw hB hr h0 hf hm hbs
    · exact wput_B w0 hW b t ih e2 (by rw [h]; decide) (by rw [h]; decide) (by rw [h]; decide) (by rw [h]; decide) w s bs m hl hlw hB hr h0 hf hm hbs
    · exact wput_B w0 hW b t ih e2 (by rw [h]; decide) (by rw [h]; decide) (by rw [h]; decide) (by rw [h]; decide) w s bs m hl hlw hB hr h0 hf hm hbs
    · exact wput_A w0 hW b t ih e2 (by rw [h]; decide) (by rw [h]; decide) (by rw [h]; decide) (by rw [h]; decide) w s bs m hl hlw hB hr h0 hf hm hbs
    · exact wput_A w0 hW b t ih e2 (by rw [h]; decide) (by rw [h]; decide) (by rw [h]; decide) (by rw [h]; decide) w s bs m hl hlw hB hr h0 hf hm hbs
    · exact wput_A w0 hW b t ih e2 (by rw [h]; decide) (by rw [h]; decide) (by rw [h]; decide) (by rw [h]; decide) w s bs m hl hlw hB hr h0 hf hm hbs
    · exact wput_D w0 hW b t ih e2 (by rw [h]; decide) (by rw [h]; decide) (by rw [h]; decide) (by rw [h]; decide) w s bs m hl hlw hB hr h0 hf hm hbs
    · exact wput_D w0 hW b t ih e2 (by rw [h]; decide) (by rw [h]; decide) (by rw [h]; decide) (by rw [h]; decide) w s bs m hl hlw hB hr h0 hf hm hbs
    · exact wput_E w0 hW b t ih e2 (by rw [h]; decide) (by rw [h]; decide) (by rw [h]; decide) (by rw [h]; decide) w s bs m hl hlw hB hr h0 hf hm hbs
    · exact wput_D w0 hW b t ih e2 (by rw [h]; decide) (by rw [h]; decide) (by rw [h]; decide) (by rw [h]; decide) w s bs m hl hlw hB hr h0 hf hm hbs
    · exact wput_D w0 hW b t ih e2 (by rw [h]; decide) (by rw [h]; decide) (by rw [h]; decide) (by rw [h]; decide) w s bs m hl hlw hB hr h0 hf hm hbs
    · exact wput_E w0 hW b t ih e2 (by rw [h]; decide) (by rw [h]; decide) (by rw [h]; decide) (by rw [h]; decide) w s bs m hl hlw hB hr h0 hf hm hbs
    · exact wput_E w0 hW b t ih e2 (by rw [h]; decide) (by rw [h]; decide) (by rw [h]; decide) (by rw [h]; decide) w s bs m hl hlw hB hr h0 hf hm hbs
    · exact wput_E w0 hW b t ih e2 (by rw [h]; decide) (by rw [h]; decide) (by rw [h]; decide) (by rw [h]; decide) w s bs m hl hlw hB hr h0 hf hm hbs
    · exact wput_E w0 hW b t ih e2 (by rw [h]; decide) (by rw [h]; decide) (by rw [h]; decide) (by rw [h]; decide) w s bs m hl hlw hB hr h0 hf hm hbs
    · exact wput_F w0 hW b t ih e2 (by rw [h]; decide) (by rw [h]; decide) (by rw [h]; decide) (by rw [h]; decide) w s bs m hl hlw hB hr h0 hf hm hbs
    · exact wput_C w0 hW b t ih e2 (by rw [h]; decide) (by rw [h]; decide) (by rw [h]; decide) (by rw [h]; decide) w s bs m hl hlw hB hr h0 hf hm hbs
end Go.Proofs.YtficmfiekibjgaaDoor

namespace Go.Proofs.YtficmfiekibjgaaDoor
open Go.RowKit

set_option maxHeartbeats 2000000 in
set_option maxRecDepth 100000 in
theorem write_any (t : Tm) (n : Int) (w : World) (s : Value) (hl : Lies w t.kids s) (hW : WTab w) (hz : t.size ≤ 1000000) :
    Calls Tryd.prog 7 #[tv t s, .int .i64 n] w fun e w' => e = .returned (.string ⟨(writeB t n).toArray⟩) ∧ Below w.heap.size w w' := by
  obtain ⟨a, cap, S, hs, -⟩ := hl.out
  subst hs
  have HB := (Below.refl (w.heap.size + 1) (w.alloc (.cells #[.int .i64 t.k, .int .i64 t.i, .int .i64 t.j, .int .i64 t.n, .slice a t.kids.length cap] 24)))
  have HL := Lib.hid (hl.keep (below_of_box HB))
  have HBX := Lib.hid (fun (wr : World) => box_cells (w := w) (wr := wr) (v0 := .int .i64 t.k) (v1 := .int .i64 t.i) (v2 := .int .i64 t.j) (v3 := .int .i64 t.n) (v4 := .slice a t.kids.length cap) (T := 24))
  have HW := Lib.hid hW
  have HB0 := Lib.hid HB
  obtain ⟨d0, d1, d2, d3, d4⟩ := HBX.out _ HB
  clear hl hW HB
  unfold tv
  go_enter Tryd.func7, Tryd.ntmps7
  by_cases h1 : n < 0
  · go_wp2
    go_ret
    exact ⟨by unfold writeB; rw [if_neg (by omega)]; rfl, below_of_box HB0.out⟩
  by_cases h2 : 1000000 < n
  · go_wp2
    go_ret
    exact ⟨by unfold writeB; rw [if_neg (by omega)]; rfl, below_of_box HB0.out⟩
  cases hr : t.rightB
  · go_wp2_with fail
    refine (right_any t _ _ HL.out).mono ?_
    rintro e w1 ⟨rfl, hb1⟩
    rw [hr]
    have HB1 := Lib.hid (below_call HB0.out hb1 (by simp))
    clear hb1
    go_wp2
    go_ret
    exact ⟨by unfold writeB; rw [if_neg (by rw [hr]; simp)]; rfl, below_of_box HB1.out⟩
  go_wp2_with fail
  refine (right_any t _ _ HL.out).mono ?_
  rintro e w1 ⟨rfl, hb1⟩
  rw [hr]
  have HB1 := Lib.hid (below_call HB0.out hb1 (by simp))
  have HL1 := Lib.hid (HL.out.keep hb1)
  clear hb1 d0 d1 d2 d3 d4
  obtain ⟨d0, d1, d2, d3, d4⟩ := HBX.out _ HB1.out
  go_wp2_with fail
  refine (Free_any t _ _ HL1.out).mono ?_
  rintro e w2 ⟨rfl, hb2⟩
  have HB2 := Lib.hid (below_call HB1.out hb2 (by have := HB1.out.size; simpa using this))
  have HL2 := Lib.hid (HL1.out.keep hb2)
  clear hb2 d0 d1 d2 d3 d4
  obtain ⟨d0, d1, d2, d3, d4⟩ := HBX.out _ HB2.out
  have hW2 := Lib.hid (HW.out.later (below_of_box HB2.out))
  by_cases h3 : n < t.freeB
  · go_wp2
    go_ret
    exact ⟨by unfold writeB; rw [if_neg (by omega)]; rfl, below_of_box HB2.out⟩
  have hfn : t.freeN ≤ n := by unfold Tm.freeB at h3; rw [if_pos hr] at h3; omega
  have hlt : w.heap.size < w2.heap.size := by have := HB2.out.size; simp at this; omega
  go_wp2_with fail
  refine ((wput_any w2 hW2.out w2.heap.size t).use _ _ [] n HL2.out ((Below.refl _ w2).alloc (Nat.le_refl _) _) (Lib.fresh_isBuilder _ _ w2) hr (by omega) hfn (by omega) (by simp; omega)).mono ?_
  rintro e w3 ⟨rfl, hb3, hl3, hk3⟩
  have HB3 := Lib.hid hb3
  have HL3 := Lib.hid hl3
  clear hb3 hl3 hk3
  go_wp2_with fail
  refine (btext_any _ _ _ (t.wr n) w3 (by simpa using HB3.out) (wr_some t n)).mono ?_
  rintro e w4 ⟨rfl, hb4⟩
  have HB4 := Lib.hid hb4
  clear hb4
  go_wp2
  go_ret
  exact ⟨by unfold writeB; rw [if_pos ⟨by omega, hr, by omega⟩]; rfl, (below_of_box HB2.out).trans ((((Below.refl _ w2).alloc (Nat.le_refl _) _).trans (HL3.out.trans HB4.out)).mono (by omega))⟩

/-- A row of texts. -/
def sv (x : List UInt8) : Value := .string ⟨x.toArray⟩
def SRow (B : Nat) (w : World) (v : Value) (l : List (List UInt8)) : Prop := w.ownsRow B 9 1 v l.length (l.map sv)
theorem SRow.len {B : Nat} {w : World} {v : Value} {l : List (List UInt8)} (h : SRow B w v l) : ∃ a cap, v = .slice a l.length cap := by
  rcases h.2 with ⟨rfl, h0⟩ | ⟨g, cap, cur, rfl, r⟩
  · exact ⟨none, 0, by rw [h0]⟩
  · exact ⟨_, cap, rfl⟩
theorem SRow.cell {B g : Nat} {w : World} {n cap : Nat} {l : List (List UInt8)} (h : SRow B w (.slice (some ⟨g, 0, none⟩) n cap) l) (i : Nat) (hi : i < l.length) : w.cell? ⟨g, i, none⟩ = some (sv l[i]) := by
  have := h.cells (g := g) rfl i (sv l[i]) (by simp [hi])
  cases i <;> simpa [Addr.add] using this
theorem SRow.keep {B : Nat} {w w' : World} {v : Value} {l : List (List UInt8)} (h : SRow B w v l) (hb : Below w.heap.size w w') : SRow B w' v l := by
  refine ⟨h.1, ?_⟩
  rcases h.2 with h2 | ⟨g, cap, cur, hv, hg, hh, r⟩
  · exact Or.inl h2
  · refine Or.inr ⟨g, cap, cur, hv, hg, ?_, r⟩
    rw [hb.block g ?_]; exact hh
    exact (Array.getElem?_eq_some_iff.1 hh).1
def vnames (n : Nat) : List (List UInt8) := (List.range n).map fun (i : Nat) => nameW (i : Int)
theorem vnames_set (n k : Nat) (h : k < n) : ((vnames k ++ List.replicate (n - k) []).set k (nameW (k : Int))) = vnames (k + 1) ++ List.replicate (n - (k + 1)) [] := by
  have hl : (vnames k).length = k := by simp [vnames]
  rw [List.set_append_right _ _ (by omega), hl, Nat.sub_self, show n - k = (n - (k + 1)) + 1 by omega, List.replicate_succ, List.set_cons_zero]
  unfold vnames
  rw [List.range_succ]; simp
theorem str_info : (Tryd.prog.info? 9).map (fun i => (i.zero, i.size, i.bytes)) = some (some (.string ⟨#[]⟩), 1, 16) := by kernel_rfl

set_option maxHeartbeats 2000000 in
set_option maxRecDepth 100000 in
theorem names_any (n : Int) (w : World) (hW : WTab w) :
    Calls Tryd.prog 13 #[.int .i64 n] w fun e w' => ∃ v, e = .returned v ∧ SRow w.heap.size w' v (if 0 ≤ n ∧ n ≤ 1000000 then vnames n.toNat else []) ∧ Below w.heap.size w w' := by
  have HW := Lib.hid hW
  obtain ⟨i0, hi, hz0, hz1, hz2⟩ := info_parts str_info
  have HI := Lib.hid (And.intro hi (And.intro hz0 (And.intro hz1 hz2)))
  clear hW hi hz0 hz1 hz2
  go_enter Tryd.func13, Tryd.ntmps13
  by_cases h1 : n < 0
  · go_wp2
    go_ret
    exact ⟨_, rfl, by (try rw [if_neg (by omega)]); exact World.ownsRow_nil _ _ _ _, Below.refl _ _⟩
  by_cases h2 : 1000000 < n
  · go_wp2
    go_ret
    exact ⟨_, rfl, by (try rw [if_neg (by omega)]); exact World.ownsRow_nil _ _ _ _, Below.refl _ _⟩
  obtain ⟨m, rfl⟩ : ∃ m : Nat, n = (m : Int) := ⟨n.toNat, by omega⟩
  go_wp2_with (at_make; refine wpList_make_full _ rfl _ _ 32 rfl w.heap.size 9 i0 _ 1 (by kernel_rfl) HI.out.1 HI.out.2.1 HI.out.2.2.1 _ _ _ _ m rfl rfl rfl rfl ?bytes ?max ?base ?next)
  case bytes => rw [HI.out.2.2.2]; omega
  case max => unfold maxLen; omega
  case next =>
  intro w2 hown hgrow
  obtain ⟨g, hg⟩ : ∃ g, w.heap.size = g := ⟨_, rfl⟩
  have HO := Lib.hid (show SRow w.heap.size w2 (.slice (some ⟨g, 0, none⟩) m m) (vnames 0 ++ List.replicate (m - 0) []) from by
    have h := hown
    simp only [toList_madeCells_one] at h
    rw [hg] at h ⊢
    unfold SRow; simpa [vnames, sv] using h)
  have HBG := Lib.hid (show Below w.heap.size w w2 from Below.grown (Below.refl _ w) hgrow (Nat.le_refl _) (by simp))
  rw [hg]
  clear hown hgrow
  go_wp2_with fail
  go_loopw [15] (fun i wr => ∃ k : Nat, k ≤ m ∧ i = .int .i64 k ∧ SRow g wr (.slice (some ⟨g, 0, none⟩) m m) (vnames k ++ List.replicate (m - k) []) ∧ Below g w wr) (fun i _ => m - (intOf i).toNat)
  case atStart => exact ⟨0, Nat.zero_le _, rfl, by rw [← hg]; have h := HO.out; rw [hg]; rw [hg] at h; exact h, by rw [← hg]; exact HBG.out⟩
  case round =>
    obtain ⟨k, hk, rfl, hrow, hbl⟩ := hrel
    have HR := Lib.hid hrow
    have HBL := Lib.hid hbl
    clear hrow hbl
    by_cases hlt : k < m
    · have hlen : (vnames k ++ List.replicate (m - k) []).length = m := by simp [vnames]; omega
      go_wp2_with fail
      refine (name_any (k : Int) _ ⟨by omega, by omega⟩ (HW.out.later (by rw [hg]; exact HBL.out)).pow).mono ?_
      rintro e w3 ⟨rfl, hb3⟩
      have HR3 := Lib.hid (HR.out.keep hb3)
      have HB3 := Lib.hid (HBL.out.trans (hb3.mono (by have := HBL.out.size; omega)))
      have HC := Lib.hid (HR3.out.cell k (by rw [hlen]; exact hlt))
      have hc := HC.out
      have hfz : w3.frozen? ⟨g, k, none⟩ = false := by
        have h := HR3.out; unfold SRow at h; rw [hlen] at h; exact h.frozenAt k
      have HS := Lib.hid (show SRow g (w3.setCell ⟨g, k, none⟩ (.string ⟨(nameW (k : Int)).toArray⟩)) (.slice (some ⟨g, 0, none⟩) m m) (vnames (k + 1) ++ List.replicate (m - (k + 1)) []) from by
        have h := HR3.out; unfold SRow at h; rw [hlen] at h
        have h2 := (h.stored k (sv (nameW (k : Int)))).1
        rw [← List.map_set, vnames_set m k hlt] at h2
        unfold SRow
        rw [show (vnames (k + 1) ++ List.replicate (m - (k + 1)) ([] : List UInt8)).length = m by simp [vnames]; omega]
        exact h2)
      clear hb3
      go_wp2
      go_roundw
      case rel => exact ⟨k + 1, by omega, by go_num, HS.out, HB3.out.setCell (Nat.le_refl _) _⟩
      case measure => simp [intOf]; omega
    · obtain rfl : k = m := by omega
      go_wp2
      go_ret
      exact ⟨_, rfl, by (try rw [if_pos (by omega)]); have h := HR.out; simpa using h, HBL.out⟩
end Go.Proofs.YtficmfiekibjgaaDoor

namespace Go.Proofs.YtficmfiekibjgaaDoor
open Go.RowKit

/-- Terms one behind the other, each with the slice of its kids. -/
def Row (w : World) (b : Nat) : Nat → List (Tm × Value) → Prop
  | _, [] => True
  | o, (t, s) :: r => Node w b o t s ∧ t.fine ∧ Lies w t.kids s ∧ Row w b (o + 5) r

theorem Row.at {w : World} {b : Nat} {ps : List (Tm × Value)} : ∀ {o : Nat}, Row w b o ps → ∀ i (h : i < ps.length), Node w b (o + i * 5) (ps[i]).1 (ps[i]).2 ∧ (ps[i]).1.fine ∧ Lies w (ps[i]).1.kids (ps[i]).2 := by
  induction ps with
  | nil => intro o _ i h; simp at h
  | cons p r ih =>
    intro o hr i h
    cases i with
    | zero => exact ⟨by simpa using hr.1, hr.2.1, hr.2.2.1⟩
    | succ i =>
      have := ih hr.2.2.2 i (by simpa using h)
      rw [show o + 5 + i * 5 = o + (i + 1) * 5 by omega] at this
      simpa using this

theorem Row.lies {w : World} {b o cap : Nat} {ps : List (Tm × Value)} (h : Row w b o ps) (hc : ps.length ≤ cap) (hm : cap ≤ maxLen) : Lies w (ps.map (·.1)) (.slice (some ⟨b, o, none⟩) ps.length cap) := by
  have := Lies.mk (w := w) (ps.map (·.1)) (some ⟨b, o, none⟩) cap (fun i => (ps[i]?.map (·.2)).getD (.slice none 0 0)) (by simpa using hc) hm
    (fun x hx => by
      obtain ⟨p, hp, rfl⟩ := List.mem_map.1 hx
      obtain ⟨i, hi, rfl⟩ := List.getElem_of_mem hp
      exact (h.at i hi).2.1)
    (fun i hi => by
      have hi' : i < ps.length := by simpa using hi
      refine ⟨b, o, rfl, ?_⟩
      simp only [List.getElem_map, List.getElem?_eq_getElem hi', Option.map_some, Option.getD_some]
      exact (h.at i hi').1)
    (fun i hi => by
      have hi' : i < ps.length := by simpa using hi
      simp only [List.getElem_map, List.getElem?_eq_getElem hi', Option.map_some, Option.getD_some]
      exact (h.at i hi').2.2)
  simpa using this

theorem lies_nil (w : World) : Lies w [] (.slice none 0 0) := .mk [] none 0 (fun _ => .nilIface) (Nat.le_refl _) (by decide) (fun _ h => by cases h) (fun _ h => by cases h) (fun _ h => by cases h)

end Go.Proofs.YtficmfiekibjgaaDoor

namespace Go.Proofs.YtficmfiekibjgaaDoor
open Go.RowKit

theorem heapX3 (w : World) (a b c : Obj) : (((w.alloc a).alloc b).alloc c).heap[w.heap.size]? = some a ∧ (((w.alloc a).alloc b).alloc c).heap[w.heap.size + 1]? = some b ∧ (((w.alloc a).alloc b).alloc c).heap[w.heap.size + 2]? = some c := by
  refine ⟨?_, ?_, ?_⟩
  · rw [Lib.alloc_old _ _ _ (by simp; omega), Lib.alloc_old _ _ _ (by simp)]; exact alloc_heap_new' w a
  · rw [Lib.alloc_old _ _ _ (by simp)]; have h := alloc_heap_new' (w.alloc a) b; rw [World.size_alloc] at h; exact h
  · have h := alloc_heap_new' ((w.alloc a).alloc b) c; rw [World.size_alloc, World.size_alloc] at h; exact h
def wakeX : Tm := .mk 14 0 0 0 [.mk 1 4 0 0 [], .mk 15 0 0 0 [.mk 2 0 0 0 [], .mk 2 1 0 0 []]]
def wakeXw (w : World) : World := ((w.alloc (.cells #[.int .i64 2, .int .i64 0, .int .i64 0, .int .i64 0, .slice none 0 0, .int .i64 2, .int .i64 1, .int .i64 0, .int .i64 0, .slice none 0 0] 24)).alloc (.cells #[.int .i64 1, .int .i64 4, .int .i64 0, .int .i64 0, .slice none 0 0, .int .i64 15, .int .i64 0, .int .i64 0, .int .i64 0, .slice (some ⟨w.heap.size, 0, none⟩) 2 2] 24)).alloc (.cells #[.int .i64 14, .int .i64 0, .int .i64 0, .int .i64 0, .slice (some ⟨w.heap.size + 1, 0, none⟩) 2 2] 24)
theorem wakeX_heap (w : World) : (wakeXw w).heap[w.heap.size]? = some (.cells #[.int .i64 2, .int .i64 0, .int .i64 0, .int .i64 0, .slice none 0 0, .int .i64 2, .int .i64 1, .int .i64 0, .int .i64 0, .slice none 0 0] 24) ∧ (wakeXw w).heap[w.heap.size + 1]? = some (.cells #[.int .i64 1, .int .i64 4, .int .i64 0, .int .i64 0, .slice none 0 0, .int .i64 15, .int .i64 0, .int .i64 0, .int .i64 0, .slice (some ⟨w.heap.size, 0, none⟩) 2 2] 24) ∧ (wakeXw w).heap[w.heap.size + 2]? = some (.cells #[.int .i64 14, .int .i64 0, .int .i64 0, .int .i64 0, .slice (some ⟨w.heap.size + 1, 0, none⟩) 2 2] 24) := by
  exact heapX3 w _ _ _
theorem smallX_fine (k i : Int) (l : List Tm) (hk : I64 k) (hi : I64 i) : (Tm.mk k i 0 0 l).fine := ⟨hk, hi, by show I64 0; unfold I64; omega, by show I64 0; unfold I64; omega⟩
theorem smallX_I64 (n : Nat) (h : n < 1000) : I64 (n : Int) := by unfold I64; omega
theorem wakeX_lies (w : World) : Lies (wakeXw w) wakeX.kids (.slice (some ⟨w.heap.size + 1, 0, none⟩) 2 2) := by
  obtain ⟨h0, h1, -⟩ := wakeX_heap w
  have c0 := fun q => Lib.cell_of_heap h0 q
  have c1 := fun q => Lib.cell_of_heap h1 q
  have hin : Lies (wakeXw w) [.mk 2 0 0 0 [], .mk 2 1 0 0 []] (.slice (some ⟨w.heap.size, 0, none⟩) 2 2) :=
    Row.lies (ps := [(.mk 2 0 0 0 [], .slice none 0 0), (.mk 2 1 0 0 [], .slice none 0 0)]) ⟨⟨by rw [c0]; rfl, by rw [c0]; rfl, by rw [c0]; rfl, by rw [c0]; rfl, by rw [c0]; rfl⟩, smallX_fine _ _ _ (smallX_I64 2 (by decide)) (smallX_I64 0 (by decide)), lies_nil _, ⟨by rw [c0]; rfl, by rw [c0]; rfl, by rw [c0]; rfl, by rw [c0]; rfl, by rw [c0]; rfl⟩, smallX_fine _ _ _ (smallX_I64 2 (by decide)) (smallX_I64 1 (by decide)), lies_nil _, trivial⟩ (by decide) (by decide)
  exact Row.lies (ps := [(.mk 1 4 0 0 [], .slice none 0 0), (.mk 15 0 0 0 [.mk 2 0 0 0 [], .mk 2 1 0 0 []], .slice (some ⟨w.heap.size, 0, none⟩) 2 2)]) ⟨⟨by rw [c1]; rfl, by rw [c1]; rfl, by rw [c1]; rfl, by rw [c1]; rfl, by rw [c1]; rfl⟩, smallX_fine _ _ _ (smallX_I64 1 (by decide)) (smallX_I64 4 (by decide)), lies_nil _, ⟨by rw [c1]; rfl, by rw [c1]; rfl, by rw [c1]; rfl, by rw [c1]; rfl, by rw [c1]; rfl⟩, smallX_fine _ _ _ (smallX_I64 15 (by decide)) (smallX_I64 0 (by decide)), hin, trivial⟩ (Nat.le_refl 2) (by decide)
theorem wakeX_below (w : World) : Below w.heap.size w (wakeXw w) := (((Below.refl _ w).alloc (Nat.le_refl _) _).alloc (by simp) _).alloc (by simp; omega) _
theorem wakeX_one : writeB wakeX 1 = [40, 76, 97, 109, 32, 118, 49, 32, 40, 115, 111, 114, 116, 32, 52, 41, 32, 40, 65, 112, 112, 32, 118, 49, 32, 118, 48, 41, 41] := by decide +kernel
theorem wakeX_none : writeB wakeX 0 = [] := by decide +kernel
theorem vnames_two : (if (0 : Int) ≤ 2 ∧ (2 : Int) ≤ 1000000 then vnames (2 : Int).toNat else []) = [[118, 48], [118, 49]] := by decide +kernel

set_option maxRecDepth 20000 in
set_option maxHeartbeats 2000000 in
theorem wakes10_any (w : World) (hW : WTab w) : Calls Tryd.prog 9 #[] w fun e w' => e = .returned (.bool true) ∧ Below w.heap.size w w' := by
  obtain ⟨h0, h1, h2⟩ := wakeX_heap w
  have HW := Lib.hid (hW.later (wakeX_below w))
  have HL := Lib.hid (wakeX_lies w)
  have HB0 := Lib.hid (wakeX_below w)
  have hsw : (wakeXw w).heap.size = w.heap.size + 3 := by simp [wakeXw]
  have H2 := Lib.hid h2
  have HSW := Lib.hid hsw
  clear h0 h1 h2 hsw hW
  go_enter Tryd.func9, Tryd.ntmps9
  go_wp2_with fail
  refine (names_any 2 (wakeXw w) HW.out).mono ?_
  rintro e w1 ⟨v1, rfl, hrow, hb1⟩
  rw [vnames_two] at hrow
  obtain ⟨g, cap, rfl⟩ : ∃ g cap, v1 = .slice (some ⟨g, 0, none⟩) 2 cap := by
    rcases hrow.2 with ⟨_, h0⟩ | ⟨g, cap, cur, hv, _⟩
    · cases h0
    · exact ⟨g, cap, hv⟩
  have HR := Lib.hid hrow
  have HB1 := Lib.hid (HB0.out.trans (hb1.mono (by rw [HSW.out]; omega)))
  have HL1 := Lib.hid (HL.out.keep hb1)
  have HW1 := Lib.hid (HW.out.later hb1)
  have hx1 := (hb1.block (w.heap.size + 2) (by rw [HSW.out]; omega)).trans H2.out
  have hz1 : w.heap.size + 1 + 1 < w1.heap.size := by have := hb1.size; rw [HSW.out] at this; omega
  have HX1 := Lib.hid hx1
  have d0 : w1.cell? ⟨w.heap.size + 1 + 1, 0, none⟩ = some (.int .i64 14) := by rw [Lib.cell_of_heap hx1]; rfl
  have d1 : w1.cell? ⟨w.heap.size + 1 + 1, 1, none⟩ = some (.int .i64 0) := by rw [Lib.cell_of_heap hx1]; rfl
  have d2 : w1.cell? ⟨w.heap.size + 1 + 1, 2, none⟩ = some (.int .i64 0) := by rw [Lib.cell_of_heap hx1]; rfl
  have d3 : w1.cell? ⟨w.heap.size + 1 + 1, 3, none⟩ = some (.int .i64 0) := by rw [Lib.cell_of_heap hx1]; rfl
  have d4 : w1.cell? ⟨w.heap.size + 1 + 1, 4, none⟩ = some (.slice (some ⟨w.heap.size + 1, 0, none⟩) 2 2) := by rw [Lib.cell_of_heap hx1]; rfl
  clear hrow hb1 hx1
  go_wp2_with fail
  refine (write_any wakeX 1 w1 _ HL1.out HW1.out (by decide +kernel)).mono ?_
  rintro e w2 ⟨rfl, hb2⟩
  rw [wakeX_one]
  have HR2 := Lib.hid (HR.out.keep hb2)
  have HB2 := Lib.hid (HB1.out.trans (hb2.mono (by omega)))
  have HL2 := Lib.hid (HL1.out.keep hb2)
  have HW2 := Lib.hid (HW1.out.later hb2)
  have hx2 := (hb2.block (w.heap.size + 2) (by omega)).trans HX1.out
  clear d0 d1 d2 d3 d4 hb2
  have d0 : w2.cell? ⟨w.heap.size + 1 + 1, 0, none⟩ = some (.int .i64 14) := by rw [Lib.cell_of_heap hx2]; rfl
  have d1 : w2.cell? ⟨w.heap.size + 1 + 1, 1, none⟩ = some (.int .i64 0) := by rw [Lib.cell_of_heap hx2]; rfl
  have d2 : w2.cell? ⟨w.heap.size + 1 + 1, 2, none⟩ = some (.int .i64 0) := by rw [Lib.cell_of_heap hx2]; rfl
  have d3 : w2.cell? ⟨w.heap.size + 1 + 1, 3, none⟩ = some (.int .i64 0) := by rw [Lib.cell_of_heap hx2]; rfl
  have d4 : w2.cell? ⟨w.heap.size + 1 + 1, 4, none⟩ = some (.slice (some ⟨w.heap.size + 1, 0, none⟩) 2 2) := by rw [Lib.cell_of_heap hx2]; rfl
  clear hx2
  go_wp2_with fail
  refine (write_any wakeX 0 w2 _ HL2.out HW2.out (by decide +kernel)).mono ?_
  rintro e w3 ⟨rfl, hb3⟩
  rw [wakeX_none]
  have hr3 := HR2.out.keep hb3
  have HB3 := Lib.hid (HB2.out.trans (hb3.mono (by have := HB2.out.size; omega)))
  have e1 : w3.cell? ⟨g, 1, none⟩ = some (.string ⟨#[118, 49]⟩) := hr3.cell 1 (by decide)
  clear hb3 hr3 d0 d1 d2 d3 d4
  go_wp2
  go_ret
  exact ⟨rfl, HB3.out⟩
end Go.Proofs.YtficmfiekibjgaaDoor

namespace Go.Proofs.YtficmfiekibjgaaDoor
open Go.RowKit Go.Lib

/-- The bytes' cells. -/
def cells8 (l : List UInt8) : List Value := l.map fun c => .int .u8 (c.toNat : Int)
theorem nums_str (l : List UInt8) : strOfNums (l.map fun c => (c.toNat : Int)) = ⟨l.toArray⟩ := by
  unfold strOfNums
  congr 2
  rw [List.map_map]
  conv => rhs; rw [← List.map_id l]
  apply List.map_congr_left
  intro c _
  simp
theorem str_of_row {w : World} {B : Nat} {g cap : Nat} {l : List UInt8} (h : w.ownsRow B 5 1 (.slice (some ⟨g, 0, none⟩) l.length cap) l.length (cells8 l)) :
    (convert 38 9 (.slice (some ⟨g, 0, none⟩) l.length cap)).run Tryd.prog w = .ok (.string ⟨l.toArray⟩) w := by
  have := run_convert_bytes_arg (P := Tryd.prog) w 38 5 Tryd.underlying38 Tryd.underlying5 g 0 l.length cap (l.map fun c => (c.toNat : Int)) (by simp) (fun i hi => by
    rw [Nat.zero_add, h.cellAt i (by omega)]
    simp [cells8, List.getD, hi]) 9 Tryd.underlying9
  rw [nums_str] at this
  exact this
/-- What the page's loop has written: the digits behind what is left of the number. -/
def DigInv (u0 u : Nat) (l : List UInt8) : Prop := (0 < u ∧ decDigits u0 = decDigits u ++ l) ∨ (u = 0 ∧ decDigits u0 = l)
theorem digInv_step {u0 u : Nat} {l : List UInt8} (h : DigInv u0 u l) (hu : 0 < u) : DigInv u0 (u / 10) (UInt8.ofNat (48 + u % 10) :: l) := by
  rcases h with ⟨-, h⟩ | ⟨h, -⟩
  · by_cases h10 : u < 10
    · refine Or.inr ⟨by omega, ?_⟩
      rw [h, decDigits_one h10, Nat.mod_eq_of_lt h10]; rfl
    · refine Or.inl ⟨by omega, ?_⟩
      rw [h, decDigits, dif_neg h10]; simp
  · omega
theorem digInv_len {u0 u : Nat} {l : List UInt8} (h : DigInv u0 u l) (h64 : u0 < 18446744073709551616) : l.length ≤ 20 := by
  have h1 := nDigits_le20 u0 h64
  rw [← decDigits_length] at h1
  rcases h with ⟨-, h⟩ | ⟨-, h⟩
  · rw [h, List.length_append] at h1; omega
  · rw [h] at h1; exact h1
theorem wrap_u64 (n : Int) : IntKind.u64.wrap n = n % 18446744073709551616 := by
  unfold IntKind.wrap; simp [IntKind.signed, IntKind.bits]
theorem cells8_len (l : List UInt8) : (cells8 l).length = l.length := by simp [cells8]
theorem cells8_one (l : List UInt8) : ∀ u ∈ cells8 l, u.oneCell' = true := by
  intro u hu
  obtain ⟨c, -, rfl⟩ := List.mem_map.1 hu
  rfl
theorem row_base {w : World} {b b' : Nat} {e : TypeId} {size : Nat} {v : Value} {n : Nat} {xs : List Value} (h : w.ownsRow b e size v n xs) (hb : b' ≤ b) : w.ownsRow b' e size v n xs := by
  refine ⟨h.1, ?_⟩
  rcases h.2 with h' | ⟨g, cap, cur, h1, h2, h3⟩
  · exact Or.inl h'
  · exact Or.inr ⟨g, cap, cur, h1, Nat.le_trans hb h2, h3⟩
theorem row_more {w : World} {b b' : Nat} {e : TypeId} {v : Value} {c : UInt8} {l : List UInt8} (h : w.ownsRow b e 1 v (1 + l.length) (.int .u8 (c.toNat : Int) :: cells8 l)) (hb : b' ≤ b) : w.ownsRow b' e 1 v (c :: l).length (cells8 (c :: l)) := by
  rw [List.length_cons, Nat.add_comm]; exact row_base h hb
theorem cat_one (A : List UInt8) : (⟨#[45]⟩ : ByteArray) ++ (⟨A.toArray⟩ : ByteArray) = ⟨(45 :: A).toArray⟩ := by
  apply ByteArray.ext; rw [ByteArray.data_append]; simp
theorem info_u8 : (Tryd.prog.info? 5).map (fun i => (i.zero, i.size, i.bytes)) = some (some (.int .u8 0), 1, 1) := by kernel_rfl

set_option maxHeartbeats 2000000 in
theorem refput_any (n : Int) (w : World) (hn : I64 n) : Calls Tryd.prog 27 #[.int .i64 n] w fun e w' => e = .returned (.string ⟨(itoa n).toArray⟩) ∧ Below w.heap.size w w' := by
  obtain ⟨hn0, hn1⟩ := hn
  by_cases h0 : n = 0
  · subst h0
    go_enter Tryd.func27, Tryd.ntmps27
    go_wp2
    go_ret
    exact ⟨by rw [show itoa 0 = [48] by decide +kernel]; rfl, Below.refl _ _⟩
  have e0 : (n == 0) = false := by simpa using h0
  obtain ⟨i0, hi, hz0, hz1, hz2⟩ := info_parts info_u8
  have HI := Lib.hid (And.intro hi (And.intro hz0 (And.intro hz1 hz2)))
  clear hi hz0 hz1 hz2
  obtain ⟨u0, hu0⟩ : ∃ u0 : Nat, n.natAbs = u0 := ⟨_, rfl⟩
  have hupos : 0 < u0 := by omega
  have HD0 : Hid (DigInv u0 u0 []) := Or.inl ⟨hupos, by simp⟩
  have HU0 : Hid (u0 ≤ 9223372036854775808) := by rw [Hid]; omega
  have H64 : Hid (u0 < 18446744073709551616) := by rw [Hid]; omega
  by_cases hneg : n < 0
  · have HRES := Lib.hid (show itoa n = 45 :: decDigits u0 by unfold itoa; rw [if_pos hneg, hu0])
    have hw : IntKind.u64.wrap (-IntKind.u64.wrap n) = (u0 : Int) := by
      rw [wrap_u64, wrap_u64]; omega
    clear hu0 hupos
    go_enter Tryd.func27, Tryd.ntmps27
    go_wp2
    go_loopw [3, 4] (fun u3 v wr => ∃ (u : Nat) (l : List UInt8), u3 = .int .u64 u ∧ Hid (DigInv u0 u l) ∧ Hid (u ≤ 9223372036854775808) ∧ wr.ownsRow w.heap.size 5 1 v l.length (cells8 l) ∧ Hid ((v = .slice none 0 0 ∧ l = []) ∨ (∃ g cap, v = .slice (some ⟨g, 0, none⟩) l.length cap ∧ 0 < l.length)) ∧ Below w.heap.size w wr) (fun u3 _ _ => (RowKit.intOf u3).toNat)
    case atStart => exact ⟨u0, [], rfl, HD0.out, HU0.out, World.ownsRow_nil _ _ _ _, Or.inl ⟨rfl, rfl⟩, Below.refl _ _⟩
    case round =>
      obtain ⟨u, l, rfl, hd, hub, hown, hvv, hb⟩ := hrel
      have hub0 : (u : Int) ≤ 9223372036854775808 := by have := hub.out; omega
      have hlen := digInv_len hd.out H64.out
      by_cases hu : 0 < u
      · have HN := Lib.hid (digInv_step hd.out hu)
        have hu' : 0 < (u : Int) := by omega
        obtain ⟨c, hc⟩ : ∃ c, UInt8.ofNat (48 + u % 10) = c := ⟨_, rfl⟩
        have hcn : (c.toNat : Int) = 48 + (u : Int) % 10 := by rw [← hc, ofNat_toNat _ (by omega)]; omega
        rw [hc] at HN
        have hcw : IntKind.u8.wrap (48 + (u : Int) % 10) = (c.toNat : Int) := by rw [hcn]; exact IntWalk.u8_in _ (by omega)
        have HUB := Lib.hid (show u / 10 ≤ 9223372036854775808 by omega)
        have hq : ((u / 10 : Nat) : Int) = (u : Int) / 10 := by omega
        have HQ := Lib.hid hq
        clear hc hcn hd hub hq
        have hB1 : w.heap.size ≤ wr.heap.size := hb.size
        have hlit := World.ownsRow_lit (base := wr.heap.size) (e := 5) (size := 1) wr #[.int .u8 (c.toNat : Int)] 1 (Nat.le_refl _) (by unfold maxLen; omega) rfl
        have hbl : Below w.heap.size w (wr.alloc (.cells #[.int .u8 (c.toNat : Int)] 5)) := hb.alloc hB1 _
        have hown1 := hown.alloc (.cells #[.int .u8 (c.toNat : Int)] 5)
        rcases hvv.out with ⟨rfl, rfl⟩ | ⟨g, cap, rfl, hl0⟩
        · clear hvv hown1
          have HLIT := Lib.hid hlit
          have HBL := Lib.hid hbl
          clear hlit hbl hb hown
          go_wp2_with (at_builtin; refine wpList_append_own_none rfl _ _ 38 rfl wr.heap.size 5 i0 1 Tryd.underlying38 HI.out.1 _ 1 _ rfl HLIT.out rfl ?_)
          go_roundw
          case rel => exact ⟨u / 10, [c], by rw [HQ.out], HN.out, HUB.out, row_base HLIT.out hB1, Or.inr ⟨_, _, rfl, by simp⟩, HBL.out⟩
          case measure => simp [RowKit.intOf]; omega
        · have hcl := World.ownsRow.cells (hown.alloc (.cells #[.int .u8 (c.toNat : Int)] 5)) (g := g) rfl
          have HLIT := Lib.hid hlit
          have HBL := Lib.hid hbl
          have HCL := Lib.hid hcl
          have HB1 := Lib.hid hB1
          clear hlit hbl hb hown hown1 hcl hB1 hvv
          go_wp2_with (at_builtin; refine wpList_append_lies _ rfl _ _ 38 rfl wr.heap.size 5 i0 (.int .u8 0) 1 1 Tryd.underlying38 HI.out.1 HI.out.2.1 HI.out.2.2.1 HI.out.2.2.2 rfl (by decide) (.slice (some ⟨wr.heap.size, 0, none⟩) 1 1) 1 _ rfl HLIT.out ⟨g, 0, none⟩ l.length cap (cells8 l) rfl (by rw [cells8_len]; omega) HCL.out (cells8_one l) hl0 (by unfold maxLen; omega) (by omega) (by simp) _ rfl ?_; intro g' cap' w' hown' hgrow hat hlt'; have HO := Lib.hid (row_more (c := c) hown' HB1.out); have HB := Lib.hid (HBL.out.grown hgrow (by simp; have := HB1.out; omega) (fun k hk => by have : k = wr.heap.size := (Option.some.inj hk).symm; have := HB1.out; omega)); clear hown' hgrow hat hlt')
          go_roundw
          case rel => exact ⟨u / 10, c :: l, by rw [HQ.out], HN.out, HUB.out, HO.out, Or.inr ⟨g', cap', by rw [List.length_cons, Nat.add_comm], by simp⟩, HB.out⟩
          case measure => simp [RowKit.intOf]; omega
      · have hu0 : u = 0 := by omega
        subst hu0
        have hdl : decDigits u0 = l := by
          rcases hd.out with ⟨h, -⟩ | ⟨-, h⟩
          · omega
          · exact h
        have hlp : 0 < l.length := by rw [← hdl, decDigits_length]; exact nDigits_pos _
        rcases hvv.out with ⟨-, rfl⟩ | ⟨g, cap, rfl, -⟩
        · simp at hlp
        · have hrun := str_of_row hown
          have HR := Lib.hid (HRES.out.trans (congrArg (fun x => 45 :: x) hdl))
          have HB := Lib.hid hb
          clear hdl hlp hvv hown hb hd hub
          go_wp2
          go_ret
          exact ⟨by rw [HR.out]; exact congrArg (fun x => Ending.returned (.string x)) (cat_one l), HB.out⟩
  · have HRES := Lib.hid (show itoa n = decDigits u0 by unfold itoa; rw [if_neg hneg, show n.toNat = u0 by omega])
    have hw : IntKind.u64.wrap n = (u0 : Int) := by
      rw [wrap_u64]; omega
    clear hu0 hupos
    go_enter Tryd.func27, Tryd.ntmps27
    go_wp2
    go_loopw [3, 4] (fun u3 v wr => ∃ (u : Nat) (l : List UInt8), u3 = .int .u64 u ∧ Hid (DigInv u0 u l) ∧ Hid (u ≤ 9223372036854775808) ∧ wr.ownsRow w.heap.size 5 1 v l.length (cells8 l) ∧ Hid ((v = .slice none 0 0 ∧ l = []) ∨ (∃ g cap, v = .slice (some ⟨g, 0, none⟩) l.length cap ∧ 0 < l.length)) ∧ Below w.heap.size w wr) (fun u3 _ _ => (RowKit.intOf u3).toNat)
    case atStart => exact ⟨u0, [], rfl, HD0.out, HU0.out, World.ownsRow_nil _ _ _ _, Or.inl ⟨rfl, rfl⟩, Below.refl _ _⟩
    case round =>
      obtain ⟨u, l, rfl, hd, hub, hown, hvv, hb⟩ := hrel
      have hub0 : (u : Int) ≤ 9223372036854775808 := by have := hub.out; omega
      have hlen := digInv_len hd.out H64.out
      by_cases hu : 0 < u
      · have HN := Lib.hid (digInv_step hd.out hu)
        have hu' : 0 < (u : Int) := by omega
        obtain ⟨c, hc⟩ : ∃ c, UInt8.ofNat (48 + u % 10) = c := ⟨_, rfl⟩
        have hcn : (c.toNat : Int) = 48 + (u : Int) % 10 := by rw [← hc, ofNat_toNat _ (by omega)]; omega
        rw [hc] at HN
        have hcw : IntKind.u8.wrap (48 + (u : Int) % 10) = (c.toNat : Int) := by rw [hcn]; exact IntWalk.u8_in _ (by omega)
        have HUB := Lib.hid (show u / 10 ≤ 9223372036854775808 by omega)
        have hq : ((u / 10 : Nat) : Int) = (u : Int) / 10 := by omega
        have HQ := Lib.hid hq
        clear hc hcn hd hub hq
        have hB1 : w.heap.size ≤ wr.heap.size := hb.size
        have hlit := World.ownsRow_lit (base := wr.heap.size) (e := 5) (size := 1) wr #[.int .u8 (c.toNat : Int)] 1 (Nat.le_refl _) (by unfold maxLen; omega) rfl
        have hbl : Below w.heap.size w (wr.alloc (.cells #[.int .u8 (c.toNat : Int)] 5)) := hb.alloc hB1 _
        have hown1 := hown.alloc (.cells #[.int .u8 (c.toNat : Int)] 5)
        rcases hvv.out with ⟨rfl, rfl⟩ | ⟨g, cap, rfl, hl0⟩
        · clear hvv hown1
          have HLIT := Lib.hid hlit
          have HBL := Lib.hid hbl
          clear hlit hbl hb hown
          go_wp2_with (at_builtin; refine wpList_append_own_none rfl _ _ 38 rfl wr.heap.size 5 i0 1 Tryd.underlying38 HI.out.1 _ 1 _ rfl HLIT.out rfl ?_)
          go_roundw
          case rel => exact ⟨u / 10, [c], by rw [HQ.out], HN.out, HUB.out, row_base HLIT.out hB1, Or.inr ⟨_, _, rfl, by simp⟩, HBL.out⟩
          case measure => simp [RowKit.intOf]; omega
        · have hcl := World.ownsRow.cells (hown.alloc (.cells #[.int .u8 (c.toNat : Int)] 5)) (g := g) rfl
          have HLIT := Lib.hid hlit
          have HBL := Lib.hid hbl
          have HCL := Lib.hid hcl
          have HB1 := Lib.hid hB1
          clear hlit hbl hb hown hown1 hcl hB1 hvv
          go_wp2_with (at_builtin; refine wpList_append_lies _ rfl _ _ 38 rfl wr.heap.size 5 i0 (.int .u8 0) 1 1 Tryd.underlying38 HI.out.1 HI.out.2.1 HI.out.2.2.1 HI.out.2.2.2 rfl (by decide) (.slice (some ⟨wr.heap.size, 0, none⟩) 1 1) 1 _ rfl HLIT.out ⟨g, 0, none⟩ l.length cap (cells8 l) rfl (by rw [cells8_len]; omega) HCL.out (cells8_one l) hl0 (by unfold maxLen; omega) (by omega) (by simp) _ rfl ?_; intro g' cap' w' hown' hgrow hat hlt'; have HO := Lib.hid (row_more (c := c) hown' HB1.out); have HB := Lib.hid (HBL.out.grown hgrow (by simp; have := HB1.out; omega) (fun k hk => by have : k = wr.heap.size := (Option.some.inj hk).symm; have := HB1.out; omega)); clear hown' hgrow hat hlt')
          go_roundw
          case rel => exact ⟨u / 10, c :: l, by rw [HQ.out], HN.out, HUB.out, HO.out, Or.inr ⟨g', cap', by rw [List.length_cons, Nat.add_comm], by simp⟩, HB.out⟩
          case measure => simp [RowKit.intOf]; omega
      · have hu0 : u = 0 := by omega
        subst hu0
        have hdl : decDigits u0 = l := by
          rcases hd.out with ⟨h, -⟩ | ⟨-, h⟩
          · omega
          · exact h
        have hlp : 0 < l.length := by rw [← hdl, decDigits_length]; exact nDigits_pos _
        rcases hvv.out with ⟨-, rfl⟩ | ⟨g, cap, rfl, -⟩
        · simp at hlp
        · have hrun := str_of_row hown
          have HR := Lib.hid (HRES.out.trans hdl)
          have HB := Lib.hid hb
          clear hdl hlp hvv hown hb hd hub
          go_wp2
          go_ret
          exact ⟨by rw [HR.out]; rfl, HB.out⟩
end Go.Proofs.YtficmfiekibjgaaDoor

namespace Go.Proofs.YtficmfiekibjgaaDoor
open Go.RowKit

theorem SRow.at {B : Nat} {w : World} {a : Option Addr} {n cap : Nat} {l : List (List UInt8)} (h : SRow B w (.slice a n cap) l) (i : Nat) (hi : i < l.length) : ∃ g, a = some ⟨g, 0, none⟩ := by
  rcases h.2 with ⟨h1, h2⟩ | ⟨g, cap', cur, h1, _⟩
  · omega
  · exact ⟨g, by simpa using (Value.slice.inj h1).1⟩
set_option maxHeartbeats 1000000 in
set_option maxRecDepth 20000 in
theorem texts_any (B B2 : Nat) (l m : List (List UInt8)) (w : World) (v u : Value) (hv : SRow B w v l) (hu : SRow B2 w u m) : Calls Tryd.prog 14 #[v, u] w fun e w' => e = .returned (.bool (l == m)) ∧ Below w.heap.size w w' := by
  have mixed : Tryd.prog.follows .mixedOrders = true := by kernel_rfl
  have hlv : l.length ≤ maxLen := by
    rcases hv.2 with ⟨_, h⟩ | ⟨_, cap, _, _, _, _, h1, h2, _⟩ <;> omega
  unfold maxLen at hlv
  obtain ⟨a, cap, rfl⟩ := hv.len
  obtain ⟨a2, cap2, rfl⟩ := hu.len
  have HV := Lib.hid hv
  have HU := Lib.hid hu
  clear hv hu
  go_enter Tryd.func14, Tryd.ntmps14
  by_cases hlen : l.length = m.length
  · have HLEN := Lib.hid hlen
    have hl2 : ((l.length : Int) == (m.length : Int)) = true := by rw [hlen]; simp
    have hl3 : decide ((l.length : Int) = (m.length : Int)) = true := by rw [hlen]; simp
    have hl4 : (l.length == m.length) = true := by simpa using hlen
    clear hlen
    go_wp2_with fail
    go_loopw [5] (fun i wr => ∃ k : Nat, k ≤ l.length ∧ i = .int .i64 k ∧ Hid (l.take k = m.take k) ∧ Below w.heap.size w wr) (fun i _ => l.length - (intOf i).toNat)
    case atStart => exact ⟨0, Nat.zero_le _, rfl, Lib.hid rfl, Below.refl _ _⟩
    case round =>
      obtain ⟨k, hk, rfl, HTK, hbl⟩ := hrel
      have HBL := Lib.hid hbl
      clear hbl
      by_cases hlt : k < l.length
      · have hltm : k < m.length := by rw [← HLEN.out]; exact hlt
        obtain ⟨g, rfl⟩ := HV.out.at k hlt
        obtain ⟨g2, rfl⟩ := HU.out.at k hltm
        have c1 := (HV.out.keep HBL.out).cell k hlt
        have c2 := (HU.out.keep HBL.out).cell k hltm
        have hml : (k : Int) < (m.length : Int) := by omega
        have e1 : l.take (k + 1) = l.take k ++ [l[k]] := by simp
        have e2 : m.take (k + 1) = m.take k ++ [m[k]] := by simp
        obtain ⟨x, hx⟩ : ∃ x, l[k] = x := ⟨_, rfl⟩
        obtain ⟨y, hy⟩ : ∃ y, m[k] = y := ⟨_, rfl⟩
        rw [hx] at c1 e1
        rw [hy] at c2 e2
        unfold sv at c1 c2
        have HE1 := Lib.hid e1
        have HE2 := Lib.hid e2
        have HX := Lib.hid hx
        have HY := Lib.hid hy
        clear e1 e2 hx hy
        cases hxy : (x == y)
        · go_wp2_with fail
          go_region_o
          all_goals (go_wp2; go_ret)
          all_goals
            refine ⟨?_, HBL.out.drew⟩
            have hne : ¬ x = y := by simpa using hxy
            have : (l == m) = false := beq_eq_false_iff_ne.2 (fun h => hne (by have h1 := HX.out; have h2 := HY.out; subst h; rw [← h1, ← h2]))
            rw [this]; rfl
        · go_wp2_with fail
          go_region_o
          all_goals (go_wp2; go_roundw)
          all_goals first | exact ⟨k + 1, by omega, by go_num, Lib.hid (by rw [HE1.out, HE2.out, HTK.out, show x = y by simpa using hxy]), HBL.out.drew⟩ | (simp [intOf]; omega)
      · obtain rfl : k = l.length := by omega
        go_wp2
        go_ret
        refine ⟨?_, HBL.out⟩
        have h := HTK.out
        rw [List.take_length, HLEN.out, List.take_length] at h
        rw [h]; simp
  · have hl2 : ((l.length : Int) == (m.length : Int)) = false := beq_eq_false_iff_ne.2 (by omega)
    have hl4 : (l.length == m.length) = false := by simpa using hlen
    go_wp2
    go_ret
    refine ⟨?_, Below.refl _ _⟩
    have : (l == m) = false := beq_eq_false_iff_ne.2 (fun h => hlen (by rw [h]))
    rw [this]; rfl

theorem vnames_more (k : Nat) : vnames k ++ [nameW (k : Int)] = vnames (k + 1) := by unfold vnames; rw [List.range_succ]; simp
set_option maxHeartbeats 2000000 in
set_option maxRecDepth 100000 in
theorem pnames_any (n : Int) (w : World) (hn : n ≤ 1000000) (h0 : 0 ≤ n) :
    Calls Tryd.prog 15 #[.int .i64 n] w fun e w' => ∃ v, e = .returned v ∧ SRow w.heap.size w' v (vnames n.toNat) ∧ Below w.heap.size w w' := by
  obtain ⟨i0, hi, hz0, hz1, hz2⟩ := info_parts str_info
  have HI := Lib.hid (And.intro hi (And.intro hz0 (And.intro hz1 hz2)))
  clear hi hz0 hz1 hz2
  obtain ⟨m, rfl⟩ : ∃ m : Nat, n = (m : Int) := ⟨n.toNat, by omega⟩
  go_enter Tryd.func15, Tryd.ntmps15
  go_wp2_with fail
  go_loopw [3, 4] (fun v i wr => ∃ k : Nat, k ≤ m ∧ i = .int .i64 k ∧ SRow w.heap.size wr v (vnames k) ∧ Below w.heap.size w wr) (fun _ i _ => m - (intOf i).toNat)
  case atStart => exact ⟨0, Nat.zero_le _, rfl, World.ownsRow_nil _ _ _ _, Below.refl _ _⟩
  case round =>
    obtain ⟨k, hk, rfl, hrow, hbl⟩ := hrel
    have HR := Lib.hid hrow
    have HBL := Lib.hid hbl
    clear hrow hbl
    by_cases hlt : k < m
    · have hltd : decide ((k : Int) < (m : Int)) = true := by simpa using hlt
      go_wp2_with fail
      refine (refput_any (k : Int) _ ⟨by omega, by omega⟩).mono ?_
      rintro e w3 ⟨rfl, hb3⟩
      have HR3 := Lib.hid (HR.out.keep hb3)
      have HB3 := Lib.hid (HBL.out.trans (hb3.mono (by have := HBL.out.size; omega)))
      have HLI := Lib.hid (Lib.itoa_length_le (k : Int) (by omega) (by omega))
      have hs3 := HB3.out.size
      clear hb3
      have hvl : (vnames k).length = k := by simp [vnames]
      go_wp2_with (at_builtin; refine wpList_append_own _ rfl _ _ 32 rfl w.heap.size 9 i0 (.string ⟨#[]⟩) 1 16 Tryd.underlying32 HI.out.1 HI.out.2.1 HI.out.2.2.1 HI.out.2.2.2 rfl (by decide) _ _ _ rfl (HR3.out.alloc _) ⟨w3.heap.size, 0, none⟩ 1 1 [sv (nameW (k : Int))] rfl rfl ?c1 ?c2 ?c3 ?c4 ?c5 ?_)
      · exfalso; have := HLI.out; omega
      case c1 =>
        intro j u hj
        match j, hj with
        | 0, hj => simp at hj; subst hj; simp only [Addr.add, sv, nameW]; rw [← show (⟨#[118]⟩ : ByteArray) ++ ⟨(Lib.itoa (k : Int)).toArray⟩ = ⟨(118 :: Lib.itoa (k : Int)).toArray⟩ from by rw [show (⟨#[118]⟩ : ByteArray) = ⟨[(118 : UInt8)].toArray⟩ from rfl, str_add]; rfl]; simp
      case c2 => intro u hu; simp at hu; subst hu; rfl
      case c3 => unfold maxLen; omega
      case c4 => omega
      case c5 => simp; omega
      intro v' w4 hown' hgrow _
      have HS := Lib.hid (show SRow w.heap.size w4 v' (vnames (k + 1)) from by
        have h := hown'
        unfold SRow
        rw [show (vnames (k + 1)).length = k + 1 by simp [vnames], ← vnames_more]
        simpa using h)
      have HB4 := Lib.hid ((HB3.out.alloc HB3.out.size _).grown hgrow (by simp; omega) (fun q hq => (HR3.out.lt q hq).1))
      clear hown' hgrow
      go_wp2
      go_roundw
      case rel => exact ⟨k + 1, by omega, by go_num, HS.out, HB4.out⟩
      case measure => simp [intOf]; omega
    · obtain rfl : k = m := by omega
      go_wp2
      go_ret
      exact ⟨_, rfl, by have h := HR.out; simpa using h, HBL.out⟩
end Go.Proofs.YtficmfiekibjgaaDoor

namespace Go.Proofs.YtficmfiekibjgaaDoor
open Go.RowKit

set_option maxRecDepth 20000 in
set_option maxHeartbeats 2000000 in
theorem writeNames_any (n : Int) (w : World) (hW : WTab w) : Calls Tryd.prog 5 #[.int .i64 n] w fun e w' => e = .returned (.bool true) ∧ Below w.heap.size w w' := by
  have HW := Lib.hid hW
  clear hW
  go_enter Tryd.func5, Tryd.ntmps5
  by_cases h5 : 5000 < n ∧ n ≤ 1000000
  · obtain ⟨h5, h6⟩ := h5
    go_wp2
    go_ret
    exact ⟨rfl, Below.refl _ _⟩
  by_cases hin : 0 ≤ n ∧ n ≤ 1000000
  · obtain ⟨h0, h1⟩ := hin
    have h7 : ¬ 5000 < n := by omega
    have h8 : ¬ n < 0 := by omega
    have h9 : ¬ 1000000 < n := by omega
    clear h5
    go_wp2_with fail
    refine (names_any n _ HW.out).mono ?_
    rintro e w1 ⟨v1, rfl, hrow, hb1⟩
    rw [if_pos ⟨h0, h1⟩] at hrow
    have HR := Lib.hid hrow
    have HB1 := Lib.hid hb1
    obtain ⟨a, cap, rfl⟩ := hrow.len
    have hlen : (vnames n.toNat).length = n.toNat := by simp [vnames]
    rw [hlen]
    rw [hlen] at HR
    clear hrow hb1
    go_wp2_with fail
    refine (pnames_any n _ h1 h0).mono ?_
    rintro e w2 ⟨v2, rfl, hrow2, hb2⟩
    have HR2 := Lib.hid hrow2
    have HR1 := Lib.hid (HR.out.keep hb2)
    have HB2 := Lib.hid (HB1.out.trans (hb2.mono HB1.out.size))
    clear hrow2 hb2
    go_wp2_with fail
    refine (texts_any _ _ _ _ _ _ _ HR1.out HR2.out).mono ?_
    rintro e w3 ⟨rfl, hb3⟩
    have HB3 := Lib.hid (HB2.out.trans (hb3.mono HB2.out.size))
    rw [show (vnames n.toNat == vnames n.toNat) = true from by simp]
    have hnn : ((n.toNat : Nat) : Int) = n := by omega
    clear hb3
    go_wp2_with fail
    refine (wakes10_any _ (HW.out.later HB3.out)).mono ?_
    rintro e w4 ⟨rfl, hb4⟩
    have HB4 := Lib.hid (HB3.out.trans (hb4.mono HB3.out.size))
    clear hb4
    go_wp2
    go_ret
    exact ⟨rfl, HB4.out⟩
  · by_cases h0 : n < 0
    · go_wp2_with fail
      refine (names_any n _ HW.out).mono ?_
      rintro e w1 ⟨v1, rfl, hrow, hb1⟩
      rw [if_neg hin] at hrow
      obtain ⟨a, cap, rfl⟩ := hrow.len
      have HB1 := Lib.hid hb1
      clear hb1 hrow
      go_wp2_with fail
      refine (wakes10_any _ (HW.out.later HB1.out)).mono ?_
      rintro e w4 ⟨rfl, hb4⟩
      have HB4 := Lib.hid (HB1.out.trans (hb4.mono HB1.out.size))
      clear hb4
      go_wp2
      go_ret
      exact ⟨rfl, HB4.out⟩
    · have h9 : 1000000 < n := by omega
      go_wp2_with fail
      refine (names_any n _ HW.out).mono ?_
      rintro e w1 ⟨v1, rfl, hrow, hb1⟩
      rw [if_neg hin] at hrow
      obtain ⟨a, cap, rfl⟩ := hrow.len
      have HB1 := Lib.hid hb1
      clear hb1 hrow
      go_wp2_with fail
      refine (wakes10_any _ (HW.out.later HB1.out)).mono ?_
      rintro e w4 ⟨rfl, hb4⟩
      have HB4 := Lib.hid (HB1.out.trans (hb4.mono HB1.out.size))
      clear hb4
      go_wp2
      go_ret
      exact ⟨rfl, HB4.out⟩
end Go.Proofs.YtficmfiekibjgaaDoor

namespace Go.Proofs.YtficmfiekibjgaaDoor
open Go.ChangeShapes Go.WideShapes Go.ChangeAt Go.RowKit

theorem own : ownKnob Tryd.prog.godebug = none := by kernel_rfl
instance instOpenTm : Inhabited (Tm × Value) := ⟨(.mk 0 0 0 0 [], .nilIface)⟩

end Go.Proofs.YtficmfiekibjgaaDoor

namespace Go.Proofs.YtficmfiekibjgaaDoor
open Go.ChangeShapes Go.WideShapes Go.ChangeAt Go.WideMaps Go.WideElems Go.RowKit

def laidT : List (String × DataW Unit) := Rows.writeUnlikeRow.laid
theorem door_met (os : Os) (args : Array Value) : laidMetH Tryd.prog laidT ((World.doorLaid Tryd.prog 400 os).forCall (fun _ _ => 0) ⟨#[], args, []⟩).memory :=
  laidMetH_of_parts3 (fuel := 8) (laidMet_of_run' 8 (by kernel_rfl) (by kernel_rfl)) (by kernel_rfl) (by kernel_rfl)
/-- A table of texts as a row lists it. -/
def strData {H : Type} (ss : List (List UInt8)) : DataW H := .agg (ss.map fun s => .lit (.string s))
theorem cells_of_strs {H : Type} {enc : TypeId × Value → H} {P : Program} {w : World} {base : Nat} {sp : Nat → Bool} {held : Bool} {fuel : Nat} {t e : TypeId} {n : Nat} {cs : List Value} {zs : List (List UInt8)} {p : List MemPlace}
    (ht : P.underlying t = some (.array n e)) (he : P.underlying e = some .string) (hce : P.cellsOf e = 1) (hct : P.cellsOf t = n)
    (h : DataW.trod enc P w base sp held fuel t cs = some (strData zs, p)) : cs = zs.map fun z => Value.string ⟨z.toArray⟩ := by
  cases fuel with
  | zero => simp [DataW.trod] at h
  | succ fuel =>
    simp only [DataW.trod, ht, hce, hct, Nat.mul_one] at h
    split at h
    · rename_i hl
      obtain ⟨xs, hm, hx⟩ := Option.map_eq_some_iff.1 h
      have hxs : xs.map (·.1) = zs.map fun z => (DataW.lit (.string z) : DataW H) := by
        have := congrArg Prod.fst hx
        simpa [strData] using this
      have hxl : xs.length = n := by simpa using Lib.mapM_length hm
      have hzl : zs.length = n := by
        have := congrArg List.length hxs
        simp at this
        omega
      apply List.ext_getElem?
      intro i
      by_cases hi : i < n
      · obtain ⟨b, hb, hf⟩ := Lib.mapM_at hm i i (by simp [hi])
        obtain ⟨z, hc, rfl, _⟩ := DataW.trod_string he hf
        have h1 : cs[i]? = some (.string z) := by
          have := congrArg (·[0]?) hc
          simpa [List.getElem?_take, List.getElem?_drop] using this
        have h2 : (xs.map (·.1))[i]? = some (DataW.lit (.string z.data.toList) : DataW H) := by simp [hb]
        rw [hxs] at h2
        simp only [List.getElem?_map, Option.map_eq_some_iff, DataW.lit.injEq, Lit.string.injEq] at h2
        obtain ⟨z', hz', e2⟩ := h2
        rw [h1, List.getElem?_map, hz']
        subst e2
        simp
      · rw [List.getElem?_eq_none (by omega), List.getElem?_eq_none (by simp; omega)]
    · cases h
theorem strIs_of_head {W : World} {name : String} {zs : List (List UInt8)} {rest : List (String × DataW Unit)} {g : Nat} {t e : TypeId} {n : Nat}
    (hg : Tryd.prog.globalNamed name = some g) (hty : (Tryd.prog.globals[g]?).map (·.type) = some t) (ht : Tryd.prog.underlying t = some (.array n e)) (he : Tryd.prog.underlying e = some .string) (hce : Tryd.prog.cellsOf e = 1) (hct : Tryd.prog.cellsOf t = n)
    (h : laidMet Tryd.prog ((name, strData zs) :: rest) W) : StrIs W name zs := by
  obtain ⟨ps, ⟨g', t', cs, fuel, p, q, hg', ht', hvar, hd, _, _⟩, _⟩ := h
  obtain rfl := Option.some.inj (hg.symm.trans hg')
  obtain rfl := Option.some.inj (hty.symm.trans ht')
  unfold StrIs
  rw [hvar, ← cells_of_strs ht he hce hct hd]
theorem tab_of_laid {W : World} (h : laidMetH Tryd.prog laidT W) : Lib.TabIs Tryd.prog W "internal/strconv.uint64pow10" .u64 Lib.pow10Tab := by
  have h2 := h.filter fun x => x.1 == "internal/strconv.uint64pow10"
  have e : (laidT.filter fun x => x.1 == "internal/strconv.uint64pow10") = [("internal/strconv.uint64pow10", Lib.tabData .u64 Lib.pow10Tab)] := by kernel_rfl
  rw [e] at h2
  rw [MakeChecks.laidMetH_plain _ _ _ (by kernel_rfl)] at h2
  exact Lib.tabIs_of_head (g := 2) (t := 67) (e := 56) (n := 20) (by kernel_rfl) (by kernel_rfl) Tryd.underlying67 Tryd.underlying56 (by kernel_rfl) (by kernel_rfl) h2
theorem syms_of_laid {W : World} (h : laidMetH Tryd.prog laidT W) : StrIs W "tranship/read.symbols" symsW := by
  have h2 := h.filter fun x => x.1 == "tranship/read.symbols"
  have e : (laidT.filter fun x => x.1 == "tranship/read.symbols") = [("tranship/read.symbols", strData symsW)] := by kernel_rfl
  rw [e] at h2
  rw [MakeChecks.laidMetH_plain _ _ _ (by kernel_rfl)] at h2
  exact strIs_of_head (g := 1) (t := 57) (e := 9) (n := 21) (by kernel_rfl) (by kernel_rfl) Tryd.underlying57 Tryd.underlying9 (by kernel_rfl) (by kernel_rfl) h2
theorem heads_of_laid {W : World} (h : laidMetH Tryd.prog laidT W) : StrIs W "tranship/write.heads" headsW := by
  have h2 := h.filter fun x => x.1 == "tranship/write.heads"
  have e : (laidT.filter fun x => x.1 == "tranship/write.heads") = [("tranship/write.heads", strData headsW)] := by kernel_rfl
  rw [e] at h2
  rw [MakeChecks.laidMetH_plain _ _ _ (by kernel_rfl)] at h2
  exact strIs_of_head (g := 0) (t := 49) (e := 9) (n := 24) (by kernel_rfl) (by kernel_rfl) Tryd.underlying49 Tryd.underlying9 (by kernel_rfl) (by kernel_rfl) h2
theorem wtab_of_laid {W : World} (h : laidMetH Tryd.prog laidT W) : WTab W := ⟨Lib.tabBelow_of_tabIs (tab_of_laid h), syms_of_laid h, heads_of_laid h⟩
end Go.Proofs.YtficmfiekibjgaaDoor

namespace Go.Proofs.YtficmfiekibjgaaDoor
open Go.ChangeShapes Go.WideShapes

def code (l : List Nat) : List Char := l.map Char.ofNat
def joinN : List (List Nat) → List Nat
  | [] => []
  | [a] => a
  | a :: b :: r => a ++ 32 :: joinN (b :: r)

theorem words_one : ∀ a : List Nat, (a.all fun n => Char.ofNat n != Char.ofNat 32) = true → wordsSigns (code a) = [code a]
  | [], _ => rfl
  | n :: a, h => by
    simp only [List.all_cons, Bool.and_eq_true, bne_iff_ne] at h
    have ih := words_one a h.2
    show wordsSigns (Char.ofNat n :: code a) = _
    rw [wordsSigns]
    · rw [ih]; rfl
    · exact h.1
theorem words_more : ∀ (a : List Nat) (r : List Char), (a.all fun n => Char.ofNat n != Char.ofNat 32) = true → wordsSigns (code a ++ Char.ofNat 32 :: r) = code a :: wordsSigns r
  | [], r, _ => by
    show wordsSigns (Char.ofNat 32 :: r) = _
    rw [show Char.ofNat 32 = _ from rfl, wordsSigns]; rfl
  | n :: a, r, h => by
    simp only [List.all_cons, Bool.and_eq_true, bne_iff_ne] at h
    have ih := words_more a r h.2
    show wordsSigns (Char.ofNat n :: (code a ++ Char.ofNat 32 :: r)) = _
    rw [wordsSigns]
    · rw [ih]; rfl
    · exact h.1
theorem words_join : ∀ ws : List (List Nat), ws ≠ [] → (ws.all fun w => w.all fun n => Char.ofNat n != Char.ofNat 32) = true → wordsSigns (code (joinN ws)) = ws.map code
  | [], h, _ => absurd rfl h
  | [a], _, h => by simp only [List.all_cons, List.all_nil, Bool.and_true] at h; exact words_one a h
  | a :: b :: r, _, h => by
    have h' := h
    rw [List.all_cons, Bool.and_eq_true] at h'
    have ih := words_join (b :: r) (by simp) h'.2
    show wordsSigns (code (a ++ 32 :: joinN (b :: r))) = _
    rw [show code (a ++ 32 :: joinN (b :: r)) = code a ++ Char.ofNat 32 :: code (joinN (b :: r)) from by simp [code], words_more a _ h'.1, ih]; rfl

def cutWords : List (List Nat) := [[104, 97, 114, 110, 101, 115, 115],
  [98, 54, 57, 55, 56, 48, 100, 53, 100, 49, 97, 52, 100, 53, 54, 48, 98, 54, 99, 98, 51, 102, 49, 55, 52, 54, 97, 100, 102, 100, 101, 101, 56, 97, 57, 54, 100, 55, 98, 48, 49, 98, 55, 56, 50, 52, 57, 100, 56, 102, 101, 97, 48, 97, 102, 54, 100, 101, 54, 100, 55, 98, 49, 50],
  [99, 117, 116],
  [97, 116],
  [116, 114, 97, 110, 115, 104, 105, 112, 47, 116, 114, 97, 110, 115, 104, 105, 112, 108, 97, 119, 49, 48, 46, 87, 114, 105, 116, 101, 69, 120, 97, 99, 116],
  [116, 114, 97, 110, 115, 104, 105, 112, 47, 116, 114, 97, 110, 115, 104, 105, 112, 108, 97, 119, 49, 48, 46, 87, 114, 105, 116, 101, 85, 110, 108, 105, 107, 101],
  [116, 114, 97, 110, 115, 104, 105, 112, 47, 116, 114, 97, 110, 115, 104, 105, 112, 108, 97, 119, 49, 48, 46, 87, 114, 105, 116, 101, 78, 97, 109, 101, 115]]

set_option maxRecDepth 100000 in
theorem cut_words : wordsSigns Tryd.prog.initOrder.toList = cutWords.map code := by
  have h : Tryd.prog.initOrder.toList = code (joinN cutWords) := by
    show (String.ofList (code (joinN cutWords))).toList = _
    exact String.toList_ofList
  rw [h]
  exact words_join cutWords (by simp [cutWords]) (by decide +kernel)

theorem cut_behind : behindMainWord (cutWords.map code) = code [99, 117, 116] :: cutWords.tail.tail.tail.map code := by kernel_rfl
theorem cut_lifts : stripLifts liftWords (code [99, 117, 116] :: cutWords.tail.tail.tail.map code) = ([], code [99, 117, 116] :: cutWords.tail.tail.tail.map code) := by kernel_rfl
theorem cut1 : (code [99, 117, 116] == "gc".toList) = false := by kernel_rfl
theorem cut2 : (code [99, 117, 116] == "spec".toList) = false := by kernel_rfl
theorem cut3 : (code [99, 117, 116] == "cut".toList) = true := by kernel_rfl
theorem cut_all : behindMainWord (wordsSigns Tryd.prog.initOrder.toList) = code [99, 117, 116] :: cutWords.tail.tail.tail.map code := by rw [cut_words, cut_behind]
theorem make_of (P : Program) {c : List Char} {rest : List (List Char)} (h : behindMainWord (wordsSigns P.initOrder.toList) = c :: rest) (h1 : (c == "gc".toList) = false) (h2 : (c == "spec".toList) = false) (h3 : (c == "cut".toList) = true) : P.make = some .cut := by
  unfold Program.make; rw [h]
  simp only [h1, h2, h3, Bool.or_self, Bool.false_eq_true, if_false, Bool.true_or, if_true]
theorem mayEnter_of (P : Program) {c : List Char} {rest : List (List Char)} (h : behindMainWord (wordsSigns P.initOrder.toList) = c :: rest) (h3 : ((stripLifts liftWords (c :: rest)).2.head? == some "cut".toList) = true)
    (h4 : (stripLifts liftWords (c :: rest)).1 = []) (h5 : P.laysLater = false) (h6 : P.bearsReflect = false) (h7 : P.doorFits [] = true) : P.mayEnter = true := by
  unfold Program.mayEnter; rw [h]
  refine Bool.or_eq_true_iff.2 (Or.inr ?_)
  rw [h3, h4, h5, h6, h7]; rfl
theorem row_make : Tryd.prog.make = some .cut := make_of Tryd.prog cut_all cut1 cut2 cut3
theorem row_mayEnter : Tryd.prog.mayEnter = true := mayEnter_of Tryd.prog cut_all (by rw [cut_lifts]; kernel_rfl) (by rw [cut_lifts]) (by kernel_rfl) (by kernel_rfl) (by kernel_rfl)
theorem row_lifts : Tryd.prog.liftsFinal = false := by unfold Program.liftsFinal Program.headLifts; rw [cut_all, cut_lifts]; kernel_rfl
end Go.Proofs.YtficmfiekibjgaaDoor

namespace Go.Proofs.YtficmfiekibjgaaDoor.lawWriteNames
open Go.ChangeShapes Go.WideShapes Go.ChangeAt Go.RowKit Go.ChangeMaps

set_option maxRecDepth 100000 in
theorem lifted (os : Os) (started : os.Started) (H : Type) (enc : TypeId × Value → H) :
    ReturnsInHanded {} Tryd.checked os 5 .any (fun w args => (Rows.writeNamesSpec.pre enc Tryd.prog Tryd.f5 [] false w args ∧ laidMetH Tryd.prog laidT w) ∧ sizedMet enc Tryd.prog Tryd.f5 (OpenSpec.ofChange Rows.writeNamesSpec) false w args)
      (Rows.writeNamesSpec.post enc Tryd.prog Tryd.f5 false true false false) := by
  refine returnsInHanded_of_change_and (C := Tryd.checked) (X := fun w _ => laidMetH Tryd.prog laidT w) (fun _ _ _ hh h => h.of_heap hh) own started (by kernel_rfl) Tryd.func5
    (ChangeSpec.witness_shaped (enc := enc) (C := Tryd.checked) (os := os) (X := fun w _ => laidMetH Tryd.prog laidT w) false (World.doorLaid Tryd.prog 400 os) #[.int .i64 0] 8 rfl (World.shaped_of_RefB (by kernel_rfl) (by kernel_rfl)) (by kernel_rfl) (by kernel_rfl) (by kernel_rfl) (door_met os _)) ?_
  intro W base args ds gs before hval0 hW _ _ hL _
  have hval : ∀ (j : Nat) t v, Tryd.f5.params[j]? = some t → args[j]? = some v → Value.okWide Tryd.prog W .any base t v := hval0
  have hW' := hW
  obtain ⟨p, q, hA0, hV, rfl, hfz, hnd⟩ := hW
  have hA : DataW.TrodAll enc Tryd.prog W 0 (fun _ => true) true Tryd.f5.params.toList args.toList ds p := hA0
  rw [Tryd.params5] at hA hval
  obtain ⟨v0, vs0, d0, ds0, p0, q0, hargs0, rfl, rfl, h0, r0⟩ := trodAll_cons hA
  obtain ⟨rfl, rfl, rfl⟩ := trodAll_nil r0
  obtain rfl : args = #[v0] := by cases args; simp_all
  obtain ⟨rfl, rfl⟩ := trodVars_none hV
  obtain ⟨a0, rfl, rfl, rfl, w0⟩ := open_int Tryd.underlying3 (hval 0 3 v0 rfl rfl) h0
  clear hA0 hval0
  simp only [List.append_nil] at hW'
  have hT := wtab_of_laid hL
  refine (writeNames_any a0 W hT).mono fun e W' ⟨he, hb⟩ => ?_
  subst he
  exact ⟨_, rfl, _, _, _, [], _, [], hW', trodAll_cons_mk (shut_bool Tryd.underlying4 _) trodAll_mk0, (trodAll_cons_mk (shut_int Tryd.underlying3 w0) trodAll_mk0), rfl, hb.frame _, fun h => by cases h⟩

theorem closed : joinedFacts Tryd.prog 5 Tryd.f5 Rows.writeNamesSpec Rows.writeNamesRow = true := by
  unfold joinedFacts
  rw [row_mayEnter, row_lifts, row_make]
  kernel_rfl
theorem writeNames_holds : Rows.WriteNamesSaid :=
  OpenClaim.holds_of_wide 5 Tryd.f5 rfl rfl rfl rfl rfl rfl rfl ⟨rfl, rfl, rfl, rfl, rfl⟩ rfl rfl rfl rfl rfl (by kernel_rfl) Tryd.func5 closed
    (of_decide_eq_true (by kernel_rfl)) (by unfold Func.isWrapper; first | (rw [if_pos (by decide +kernel)]; kernel_rfl) | (rw [if_neg (by decide +kernel)]; exact ⟨rfl, rfl⟩))
    (fun os started H enc _ => lifted os started H enc)
theorem proved : Rows.WriteNamesCardSaid :=
  Claim7.holds_tied_plain_at .later [] [.data, .data, .data, .data, .data] true Rows.writeNamesCard.stood.harness false
    writeNames_holds (fun _ h => by cases h) (by kernel_rfl) (fun _ h => by cases h) writeNames_row_tie rfl ⟨rfl, rfl⟩ (by kernel_rfl) rfl
    (fun f fn hf hfn => by
      obtain rfl : f = 5 := Option.some.inj ((show Tryd.prog.funcNamed "tranship/transhiplaw10.WriteNames" = some 5 by kernel_rfl).symm.trans hf) |>.symm
      obtain rfl : fn = Tryd.f5 := (Option.some.inj (Tryd.func5.symm.trans hfn)).symm
      exact ⟨by kernel_rfl, fun j t ht => by
        rw [Tryd.params5] at ht
        have hm : t ∈ [3] := by simpa using Array.mem_of_getElem? ht
        have hall : ([3].all fun u => !Tryd.prog.wantsStandIn u) = true := by kernel_rfl
        exact (show Tryd.prog.wantsStandIn t = false by simpa using List.all_eq_true.1 hall t hm)⟩)
    (by kernel_rfl)
#print axioms proved
end Go.Proofs.YtficmfiekibjgaaDoor.lawWriteNames
