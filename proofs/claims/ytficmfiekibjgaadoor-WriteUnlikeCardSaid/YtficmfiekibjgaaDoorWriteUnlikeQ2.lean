/-
  WriteUnlike holds: for every input the call returns true, and the arguments read as before. No condition.
-/
import Derived.Lib.ItoaNum
import Derived.Lib.ItoaLen
import Derived.Test.YtficmfiekibjgaaDoorRows
import Derived.WalkKit
import Derived.Lib.Hide
import Derived.KernelRfl
import Derived.Deep.RegionWith
import Derived.Deep.RegionHeld3
import Derived.Test.YtficmfiekibjgaaDoorShelf
import Derived.ProofKit
import Derived.Lib.AppendIntMem
import Derived.Lib.LaidTab
import Derived.Below
import Derived.Lib.Builder
import Derived.Lib.AppendStr
import Derived.Lib.UnsafeStr
import Derived.Lib.Strings
import Derived.Laws.Externs
import Derived.Laws.Rows
import Derived.Shelf.RegionOpenPlain
import Derived.OrdersHeld
import Derived.Laws.OwnMore
import Derived.OwnWalk
import Derived.Deep.QuietTactic
import Derived.BigQuiet
import Derived.Lib.QuietBelow
import Derived.OpenShut
import Derived.Carry
import Derived.Deep.Slices
import Derived.LaidMore
import Derived.LaidSub
import Derived.LaidHandle
import Derived.Stop.Joined
import Derived.JoinedOf
import Derived.Test.YtficmfiekibjgaaDoorCards
import Derived.Test.YtficmfiekibjgaaDoorTie
import Derived.SevenTiedAt
import Derived.ChangeMaps5
import Derived.Test.YtficmfiekibjgaaDoorWriteUnlikeQ1
namespace Go.Proofs.YtficmfiekibjgaaDoor
open Go.RowKit

def o19C_0 : Oper := { dst := some 93, op := Go.Op.move (Go.Operand.tmp 0), type := 37, pos := "write.go:60", after := #[], guard := none }
def o19C_1 : Oper := { dst := some 94, op := Go.Op.load 24 (Go.Operand.tmp 9), type := 24, pos := "write.go:60", after := #[], guard := none }
def o19C_2 : Oper := { dst := some 95, op := Go.Op.move (Go.Operand.tmp 2), type := 3, pos := "write.go:60", after := #[], guard := none }
def o19C_3 : Oper := { dst := some 96, op := Go.Op.fieldAddr 24 (Go.Operand.tmp 4) 0, type := 0, pos := "write.go:60", after := #[], guard := none }
def o19C_4 : Oper := { dst := some 97, op := Go.Op.load 3 (Go.Operand.tmp 96), type := 3, pos := "write.go:60", after := #[{ on := 3, ground := Go.Ground.data }], guard := none }
def o19C_5 : Oper := { dst := some 98, op := Go.Op.move (Go.Operand.tmp 8), type := 3, pos := "write.go:60", after := #[], guard := none }
def o19C_6 : Oper := { dst := some 99, op := Go.Op.call { callee := Go.Callee.value (Go.Operand.func 34), args := #[Go.Operand.tmp 97, Go.Operand.tmp 98], argTypes := #[3, 3] }, type := 3, pos := "write.go:60", after := #[{ on := 4, ground := Go.Ground.data }, { on := 5, ground := Go.Ground.data }], guard := none }
def o19C_7 : Oper := { dst := some 100, op := Go.Op.binOp Go.BinOp.add 3 (Go.Operand.tmp 95) (Go.Operand.tmp 99) 3, type := 3, pos := "write.go:60", after := #[{ on := 2, ground := Go.Ground.data }, { on := 6, ground := Go.Ground.data }], guard := none }
def o19C_8 : Oper := { dst := some 101, op := Go.Op.call { callee := Go.Callee.value (Go.Operand.func 19), args := #[Go.Operand.tmp 93, Go.Operand.tmp 94, Go.Operand.tmp 100], argTypes := #[37, 24, 3] }, type := 0, pos := "write.go:60", after := #[{ on := 0, ground := Go.Ground.data }, { on := 1, ground := Go.Ground.data }, { on := 7, ground := Go.Ground.data }, { on := 6, ground := Go.Ground.chain }], guard := none }

set_option maxHeartbeats 4000000 in
set_option maxRecDepth 100000 in
theorem wput_C (w0 : World) (hW : WTab w0) (b : Nat) (t : Tm) (ih : ∀ x ∈ t.kids, WPut w0 b x) (e2 : (t.k == 2) = false) (e22 : (t.k == 22) = false) (e23 : (t.k == 23) = true) (hbd : bindsN t.k 1 = 0) (hlv : levelsN t.k = 2) : WPut w0 b t := by
  intro w s bs m hl hlw hB hr h0 hf hm hbs
  obtain ⟨a, cap, S, rfl, hc, hmx, hfi, hn, hk⟩ := hl.out
  have hkr := t.node_kind (t.right_node hr)
  have hfit := right_fit hr
  obtain ⟨du, hu1, hu2⟩ := under_termW
  have HX := Lib.hid (show t.wr m = 40 :: (headL t.k ++ (frontL t.k t.i t.j t.n m ++ (wrs t.k 0 t.kids m ++ [41]))) by rw [t.wr_eq, if_neg (by simpa using e2)])
  have HS := Lib.hid (wst_start hB hlw (.cells #[.int .i64 t.k, .int .i64 t.i, .int .i64 t.j, .int .i64 t.n, .slice a t.kids.length cap] 24))
  have HBL := Lib.hid hB.lt
  have HW := Lib.hid hW
  have HL := Lib.hid (wr_len t m hr h0 hf hm)
  have HLN := Lib.hid (show bs.length + (1 + (headL t.k).length + (frontL t.k t.i t.j t.n m).length + (wrs t.k 0 t.kids m).length + 1) ≤ 140737488355328 from by
    have := HL.out; rw [HX.out] at this; simp only [List.length_append, List.length_cons, List.length_nil] at this; omega)
  have HN := Lib.hid hn
  have HK := Lib.hid hk
  have HBS := Lib.hid hbs
  have HR := Lib.hid (t.right_kids hr)
  have HF := Lib.hid (by rw [t.freeN_eq, if_neg (by simpa using e2)] at hf; exact hf : frees t.k 0 t.kids ≤ m)
  have IH := Lib.hid ih
  have hh := (HS.out.tab HW.out).heads_cell t.k (by omega) (by omega)
  have HLV := Lib.hid hlv
  have HFR := Lib.hid (show frontL t.k t.i t.j t.n m = (32 :: symL t.n) ++ (lvP t.i t.j 2 ++ ([])) from by
    have hq :  t.k = 23 := by simpa using e23
    unfold frontL lvlL; rw [if_pos hq, if_neg (by omega), if_pos hlv, if_neg (by omega)]; simp [lvP])
  have HRR := Lib.hid hr
  have HBD := Lib.hid hbd
  have HFM := Lib.hid (show Fit m from ⟨by omega, by omega⟩)
  have HFM1 := Lib.hid (show Fit (m + 1) from ⟨by omega, by omega⟩)
  have hsw := hlw.size
  clear hB hlw hr hW hbs hn hk hl hf ih hfi hlv hbd
  have hk0 : 0 ≤ t.k := by omega
  have hk1 : t.k < 24 := by omega
  unfold tv
  unfold maxLen at hmx
  go_enter Tryd.func19, Tryd.ntmps19
  go_wp2_with fail
  · exfalso; have := head_len t.k; omega
  rw [show (⟨#[40]⟩ : ByteArray) = ⟨[(40 : UInt8)].toArray⟩ from rfl, str_add]
  refine (bstr_any _ b _ _ _ HS.out.bld (by have := HLN.out; simp [ByteArray.size]; omega) HS.out.hB).mono ?_
  rintro e w1 ⟨rfl, hb1, hl1, hk1⟩
  have HS1 := Lib.hid (HS.out.put hb1 hl1 hk1)
  rw [Lib.strCells_toArray] at HS1
  obtain ⟨d0, d1, d2, d3, d4⟩ := HS1.out.cells HBL.out
  have hsz : w.heap.size < w1.heap.size := by have := HS1.out.size; rw [World.size_alloc] at this; omega
  clear hb1 hl1 hk1 hh
  go_wp2_with fail
  refine (rname_any _ _ (HS1.out.tab HW.out)).mono ?_
  rintro e wn ⟨rfl, rfl⟩
  have HSY := Lib.hid (sym_len t.n)
  go_wp2_with fail
  · exfalso; have := HSY.out; omega
  rw [show (⟨#[32]⟩ : ByteArray) = ⟨[(32 : UInt8)].toArray⟩ from rfl, str_add]
  refine (bstr_any _ b _ _ _ HS1.out.bld (by have := HLN.out; rw [HFR.out] at this; simp [ByteArray.size, Lib.byteCells] at this ⊢; omega) HS1.out.hB).mono ?_
  rintro e wu ⟨rfl, hbu, hlu, hku⟩
  have HSU := Lib.hid (HS1.out.put hbu hlu hku)
  rw [Lib.strCells_toArray, bytes_app] at HSU
  clear hbu hlu hku hsz d0 d1 d2 d3 d4 HS1
  obtain ⟨w1, rfl⟩ : ∃ w1, w1 = wu := ⟨_, rfl⟩
  have HS1 := Lib.hid (show WSt w0 b (w.alloc (.cells #[.int .i64 t.k, .int .i64 t.i, .int .i64 t.j, .int .i64 t.n, .slice a t.kids.length cap] 24)) (bs ++ Lib.byteCells ([40] ++ headL t.k ++ 32 :: symL t.n)) w1 from by have h := HSU.out; simpa [Lib.byteCells] using h)
  clear HSU
  obtain ⟨d0, d1, d2, d3, d4⟩ := HS1.out.cells HBL.out
  have hsz : w.heap.size < w1.heap.size := by have := HS1.out.size; rw [World.size_alloc] at this; omega
  go_wp2_with fail
  go_region_held3 (fun w' => Below w1.heap.size w1 w' ∧ w'.cell? ⟨w.heap.size, 0, none⟩ = some (.int .i64 t.k) ∧ w'.cell? ⟨w.heap.size, 1, none⟩ = some (.int .i64 t.i) ∧ w'.cell? ⟨w.heap.size, 2, none⟩ = some (.int .i64 t.j))
    (first | (refine rl_keep hsz d0 d1 d2 ?_; repeat (first | exact Below.refl _ _ | (with_reducible assumption) | exact (by assumption : _ ∧ _).1 | refine Below.drew ?_ | refine Below.alloc ?_ (Nat.le_refl _) _)) | go_keep)
    (first | (go_at_call 32; refine (levels_any _ _).mono ?_; rintro e wn ⟨rfl, rfl⟩; rw [HLV.out]))
  all_goals
    rename_i hHeld
    clear hHeld
    go_wp2_with fail
    obtain ⟨w2, hw2⟩ : ∃ w2, w2 = (w1.alloc (.cells #[.int .i64 t.i, .int .i64 t.j] 3)).drew := ⟨_, rfl⟩
    rw [← hw2]
    have HS2 := Lib.hid (HS1.out.call (wr' := w2) (by rw [hw2]; exact ((Below.refl _ w1).alloc (Nat.le_refl _) _).drew)).again
    have HBX2 := Lib.hid (show w2.heap[w.heap.size]? = some (.cells #[.int .i64 t.k, .int .i64 t.i, .int .i64 t.j, .int .i64 t.n, .slice a t.kids.length cap] 24) from by
      have h := HS1.out.at (alloc_heap_new' w _) (by have := HBL.out; omega) ut_ne
      rw [hw2]; show (w1.alloc _).heap[w.heap.size]? = _; rw [Lib.alloc_old _ _ _ hsz]; exact h)
    have HRW2 := Lib.hid (show w2.heap[w1.heap.size]? = some (.cells #[.int .i64 t.i, .int .i64 t.j] 3) from by rw [hw2]; exact alloc_heap_new _ _)
    have HUP := Lib.hid (show Below w0.heap.size w w2 from by
      rw [hw2]; exact (((Below.refl _ w).alloc hsw _).trans HS1.out.up |>.alloc HS1.out.hB _).drew)
    have HKP := Lib.hid (show Kept b w w2 from by
      rw [hw2]; exact ((Kept.alloc b w _).trans HS1.out.kept).trans (Kept.alloc b w1 _))
    have hs2 : w1.heap.size < w2.heap.size := by rw [hw2]; show _ < (w1.alloc _).heap.size; simp
    clear hw2 d0 d1 d2 d3 d4
    go_loopw [47] (fun i wr => ∃ k : Nat, k ≤ 2 ∧ i = .int .i64 k ∧ WSt w0 b w2 (bs ++ Lib.byteCells ([40] ++ headL t.k ++ 32 :: symL t.n) ++ Lib.byteCells (lvP t.i t.j k)) wr) (fun i _ => 2 - (intOf i).toNat)
    case atStart => exact ⟨0, by omega, rfl, by simpa [lvP, Lib.byteCells] using HS2.out⟩
    case round =>
      obtain ⟨k, hk, rfl, hst⟩ := hrel
      have hrow := hst.at HRW2.out (by have := HBL.out; omega) ti_ne
      have r0 : wr.cell? ⟨w1.heap.size, 0, none⟩ = some (.int .i64 t.i) := by rw [Lib.cell_of_heap hrow]; rfl
      have r1 : wr.cell? ⟨w1.heap.size, 1, none⟩ = some (.int .i64 t.j) := by rw [Lib.cell_of_heap hrow]; rfl
      have hbox := hst.at HBX2.out (by have := HBL.out; omega) ut_ne
      have d0 : wr.cell? ⟨w.heap.size, 0, none⟩ = some (.int .i64 t.k) := by rw [Lib.cell_of_heap hbox]; rfl
      have d4 : wr.cell? ⟨w.heap.size, 4, none⟩ = some (.slice a t.kids.length cap) := by rw [Lib.cell_of_heap hbox]; rfl
      have HST := Lib.hid hst
      clear hrow hbox hst
      by_cases hlt : k < 2
      · rcases (show k = 0 ∨ k = 1 by omega) with rfl | rfl
        · go_wp2_with fail
          refine (put_any _ _ hfit.1 (HST.out.tab HW.out).pow).mono ?_
          rintro e w3 ⟨rfl, hb3⟩
          have HS3 := Lib.hid (HST.out.call hb3)
          have HLI := Lib.hid (Lib.itoa_length_le t.i hfit.1.1 hfit.1.2)
          clear hb3
          go_wp2_with fail
          · exfalso; have := HLI.out; omega
          rw [show (⟨#[32]⟩ : ByteArray) = ⟨[(32 : UInt8)].toArray⟩ from rfl, str_add]
          refine (bstr_any _ b _ _ _ HS3.out.bld (by have := HLN.out; rw [HFR.out] at this; simp [ByteArray.size, lvP, Lib.byteCells] at this ⊢; omega) HS3.out.hB).mono ?_
          rintro e w4 ⟨rfl, hb4, hl4, hk4⟩
          have HS4 := Lib.hid (HS3.out.put hb4 hl4 hk4)
          clear hb4 hl4 hk4
          go_wp2
          go_roundw
          case rel => exact ⟨1, by omega, by go_num, by have h := HS4.out; rw [Lib.strCells_toArray] at h; simpa [lvP, Lib.byteCells] using h⟩
          case measure => simp [intOf]
        · go_wp2_with fail
          refine (put_any _ _ hfit.2 (HST.out.tab HW.out).pow).mono ?_
          rintro e w3 ⟨rfl, hb3⟩
          have HS3 := Lib.hid (HST.out.call hb3)
          have HLI := Lib.hid (Lib.itoa_length_le t.j hfit.2.1 hfit.2.2)
          clear hb3
          go_wp2_with fail
          · exfalso; have := HLI.out; omega
          rw [show (⟨#[32]⟩ : ByteArray) = ⟨[(32 : UInt8)].toArray⟩ from rfl, str_add]
          refine (bstr_any _ b _ _ _ HS3.out.bld (by have := HLN.out; rw [HFR.out] at this; simp [ByteArray.size, lvP, Lib.byteCells] at this ⊢; omega) HS3.out.hB).mono ?_
          rintro e w4 ⟨rfl, hb4, hl4, hk4⟩
          have HS4 := Lib.hid (HS3.out.put hb4 hl4 hk4)
          clear hb4 hl4 hk4
          go_wp2
          go_roundw
          case rel => exact ⟨2, by omega, by go_num, by have h := HS4.out; rw [Lib.strCells_toArray] at h; simpa [lvP, Lib.byteCells] using h⟩
          case measure => simp [intOf]
      · obtain rfl : k = 2 := by omega
        go_wp2_with fail
        refine (binds_any _ _ _).mono ?_
        rintro e w5 ⟨rfl, rfl⟩
        rw [HBD.out]
        go_wp2_with fail
        clear r0 r1 d0 d4
        go_loopw [69] (fun i wv => ∃ q : Nat, q ≤ t.kids.length ∧ i = .int .i64 q ∧ WSt w0 b w2 (bs ++ Lib.byteCells ([40] ++ headL t.k ++ frontL t.k t.i t.j t.n m ++ wrs t.k 0 (t.kids.take q) m)) wv) (fun i _ => t.kids.length - (intOf i).toNat)
        case atStart => exact ⟨0, Nat.zero_le _, rfl, by have h := HST.out; rw [HFR.out]; simpa [wrs, lvP, Lib.byteCells] using h⟩
        case round =>
          obtain ⟨q, hq, rfl, hv⟩ := hrel
          have HV := Lib.hid hv
          have HBX3 := Lib.hid (hv.at HBX2.out (by have := HBL.out; omega) ut_ne)
          have hsv : w.heap.size < wr.heap.size := by have := HV.out.size; omega
          have d0 : wr.cell? ⟨w.heap.size, 0, none⟩ = some (.int .i64 t.k) := by rw [Lib.cell_of_heap HBX3.out]; rfl
          clear hv HST
          by_cases hlt : q < t.kids.length
          · obtain ⟨bn, o, rfl, hx⟩ := HN.out q hlt
            obtain ⟨c0, c1, c2, c3, c4⟩ := hx.below HV.out.low hx.lt
            have hq4 := HK.out q hlt
            obtain ⟨a', cap', S', hS, -⟩ := hq4.out
            rw [hS] at c4 hq4
            have HQ := Lib.hid hq4
            have HM := Lib.hid (List.getElem_mem hlt)
            have HROOM := Lib.hid (put_room HRR.out h0 HF.out hm hlt)
            have HTK := Lib.hid (wrs_take t.k m t.kids 0 q hlt)
            have HKF := Lib.hid (kid_free HF.out hlt)
            have HKS := Lib.hid (kid_size hlt)
            have HV5 := Lib.hid (HV.out.call (wr' := wr.alloc (.cells #[.int .i64 t.kids[q].k, .int .i64 t.kids[q].i, .int .i64 t.kids[q].j, .int .i64 t.kids[q].n, .slice a' t.kids[q].kids.length cap'] 24)) ((Below.refl _ _).alloc (Nat.le_refl _) _)).again
            clear hS hq4 hx
            have hbr := binds_range t.k q
            have HMD := Lib.hid (show midL t.k (0 + q) m = [] from if_neg (fun h => by have := h.1; simp [this] at e22))
            go_wp2_with fail
            refine (bbyte_any _ b _ _ _ HV5.out.bld (by have h1 := HROOM.out; have h2 := HBS.out; simp [Lib.byteCells] ; omega) HV5.out.hB).mono ?_
            rintro e w6 ⟨rfl, hb6, hl6, hk6⟩
            have HS6 := Lib.hid (HV5.out.put hb6 hl6 hk6)
            clear hb6 hl6 hk6
            have hy := HS6.out.at (alloc_heap_new' wr _) (by have := HBL.out; omega) ut_ne
            have hz := HS6.out.at (j := w.heap.size) (by rw [Lib.alloc_old _ _ _ hsv]; exact HBX3.out) (by have := HBL.out; omega) ut_ne
            have HNE := Lib.hid (show wr.heap.size ≠ b ∧ w.heap.size ≠ b by have := HBL.out; omega)
            have HY := Lib.hid hy
            have HZ := Lib.hid hz
            clear hy hz
            have HS6d := Lib.hid (HS6.out.call (wr' := w6.drew) (Below.refl _ w6).drew)
            have hS0 := kid_keep2 HY.out HZ.out HNE.out (Kept.refl b w6)
            have hwr : IntKind.i64.wrap (m + bindsN t.k (q : Int)) = m + bindsN t.k (q : Int) := IntWalk.i64_in _ (by omega)
            go_wp2_with fail
            refine wp_region_held_drew (S := fun w' => Kept b w6 w' ∧ w'.heap[wr.heap.size]? = some (.cells #[.int .i64 t.kids[q].k, .int .i64 t.kids[q].i, .int .i64 t.kids[q].j, .int .i64 t.kids[q].n, .slice a' t.kids[q].kids.length cap'] 24) ∧ w'.cell? ⟨w.heap.size, 0, none⟩ = some (.int .i64 t.k)) (by kernel_rfl) ?_ (fun hHeld => ?_)
            · (try dsimp only)
              (first | exact hS8 | exact hHeld | exact hS0)
            refine take_at 0 93 o19C_0 (v := ?_) (Or.inl ⟨by rfl, ?_⟩) ?_
            rotate_left 1
            · ((intro w hSw; (try dsimp only at hSw); unfold o19C_0; go_simp) <;> with_reducible rfl)
            (try simp only [Act.put, List.setIfInBounds_toArray, List.set_cons_zero, List.set_cons_succ])
            refine take_at 1 94 o19C_1 (yields_row wr.heap.size _ _ _ #[.int .i64 t.kids[q].k, .int .i64 t.kids[q].i, .int .i64 t.kids[q].j, .int .i64 t.kids[q].n, .slice a' t.kids[q].kids.length cap'] _ du (by rfl) rfl (by rfl) (fun w' h => h.2.1) hu1 (by cases du <;> first | rfl | exact hu2) size_termW) ?_
            (try simp only [Act.put, List.setIfInBounds_toArray, List.set_cons_zero, List.set_cons_succ])
            refine take_at 2 95 o19C_2 (v := ?_) (Or.inl ⟨by rfl, ?_⟩) ?_
            rotate_left 1
            · ((intro w hSw; (try dsimp only at hSw); unfold o19C_2; go_simp) <;> with_reducible rfl)
            (try simp only [Act.put, List.setIfInBounds_toArray, List.set_cons_zero, List.set_cons_succ])
            refine take_at 3 96 o19C_3 (v := ?_) (Or.inl ⟨by rfl, ?_⟩) ?_
            rotate_left 1
            · ((intro w hSw; (try dsimp only at hSw); unfold o19C_3; go_simp) <;> with_reducible rfl)
            (try simp only [Act.put, List.setIfInBounds_toArray, List.set_cons_zero, List.set_cons_succ])
            refine take_at 4 97 o19C_4 (v := ?_) (Or.inl ⟨by rfl, ?_⟩) ?_
            rotate_left 1
            · ((intro w hSw; (try dsimp only at hSw); obtain ⟨hSa, hSb, hSc⟩ := hSw; unfold o19C_4; go_simp) <;> with_reducible rfl)
            (try simp only [Act.put, List.setIfInBounds_toArray, List.set_cons_zero, List.set_cons_succ])
            refine take_at 5 98 o19C_5 (v := ?_) (Or.inl ⟨by rfl, ?_⟩) ?_
            rotate_left 1
            · ((intro w hSw; (try dsimp only at hSw); unfold o19C_5; go_simp) <;> with_reducible rfl)
            (try simp only [Act.put, List.setIfInBounds_toArray, List.set_cons_zero, List.set_cons_succ])
            refine wpAnyH_ready (rs := [6]) (by kernel_rfl) (by simp) ?_
            refine AllReadyH.cons (o := o19C_6) rfl (fun K hK => ?_) ?_
            · unfold o19C_6
              go_simp
              (go_at_call 34; refine (binds_any _ _ _).mono ?_; rintro e w7 ⟨rfl, rfl⟩)
              refine hK.out _ _ ?_ (fun hHeld => ?_)
              · (try dsimp only)
                (first | exact hS8 | exact hHeld | exact hS0)
              clear hK K
              (try simp only [Act.put, List.setIfInBounds_toArray, List.set_cons_zero, List.set_cons_succ])
              refine take_at 7 100 o19C_7 (v := ?_) (Or.inl ⟨by rfl, ?_⟩) ?_
              rotate_left 1
              · ((intro w hSw; (try dsimp only at hSw); unfold o19C_7; go_simp) <;> with_reducible rfl)
              (try simp only [Act.put, List.setIfInBounds_toArray, List.set_cons_zero, List.set_cons_succ])
              refine wpAnyH_ready (rs := [8]) (by kernel_rfl) (by simp) ?_
              refine AllReadyH.cons (o := o19C_8) rfl (fun K hK => ?_) ?_
              · unfold o19C_8
                go_simp
                (go_at_call 19; with_reducible refine Calls.mono ((IH.out _ HM.out).use _ _ _ _ HQ.out HS6d.out.low HS6d.out.bld (HR.out _ HM.out) (by omega) HKF.out (by have := HKS.out; omega) (by have h1 := HROOM.out; have h2 := HBS.out; simp [Lib.byteCells] ; omega)) ?_; rintro e w8 ⟨rfl, hb8, hl8, hk8⟩)
                have HS8 := Lib.hid (HV.out.over (HS6d.out.put hb8 hl8 hk8))
                have hS8 := kid_keep2 HY.out HZ.out HNE.out hk8
                clear hb8 hl8 hk8 hHeld
                refine hK.out _ _ ?_ (fun hHeld => ?_)
                · (try dsimp only)
                  (first | exact hS8 | exact hHeld | exact hS0)
                clear hK K
                (try simp only [Act.put, List.setIfInBounds_toArray, List.set_cons_zero, List.set_cons_succ])
                refine wpAnyH_done (by kernel_rfl) ?_ _
                go_wp2
                go_roundw
                case rel => exact ⟨q + 1, by omega, by go_num, by have h := HS8.out; rw [HTK.out, HMD.out]; simpa [Lib.byteCells] using h⟩
                case measure => simp [intOf]; omega
              exact AllReadyH.nil
            exact AllReadyH.nil
          · obtain rfl : q = t.kids.length := by omega
            go_wp2_with fail
            refine (bbyte_any _ b _ _ _ HV.out.bld (by have := HLN.out; simp [Lib.byteCells]; omega) HV.out.hB).mono ?_
            rintro e w6 ⟨rfl, hb6, hl6, hk6⟩
            have HS6 := Lib.hid (HV.out.put hb6 hl6 hk6)
            have HB6 := Lib.hid hb6
            clear hb6 hl6 hk6
            go_wp2
            go_end0
            exact ⟨rfl, by have h := HB6.out; rw [HX.out]; rw [List.take_length] at h; simpa [Lib.byteCells] using h, HUP.out.trans HS6.out.up, HKP.out.trans HS6.out.kept⟩
end Go.Proofs.YtficmfiekibjgaaDoor

namespace Go.Proofs.YtficmfiekibjgaaDoor
open Go.RowKit

def o19D_0 : Oper := { dst := some 93, op := Go.Op.move (Go.Operand.tmp 0), type := 37, pos := "write.go:60", after := #[], guard := none }
def o19D_1 : Oper := { dst := some 94, op := Go.Op.load 24 (Go.Operand.tmp 9), type := 24, pos := "write.go:60", after := #[], guard := none }
def o19D_2 : Oper := { dst := some 95, op := Go.Op.move (Go.Operand.tmp 2), type := 3, pos := "write.go:60", after := #[], guard := none }
def o19D_3 : Oper := { dst := some 96, op := Go.Op.fieldAddr 24 (Go.Operand.tmp 4) 0, type := 0, pos := "write.go:60", after := #[], guard := none }
def o19D_4 : Oper := { dst := some 97, op := Go.Op.load 3 (Go.Operand.tmp 96), type := 3, pos := "write.go:60", after := #[{ on := 3, ground := Go.Ground.data }], guard := none }
def o19D_5 : Oper := { dst := some 98, op := Go.Op.move (Go.Operand.tmp 8), type := 3, pos := "write.go:60", after := #[], guard := none }
def o19D_6 : Oper := { dst := some 99, op := Go.Op.call { callee := Go.Callee.value (Go.Operand.func 34), args := #[Go.Operand.tmp 97, Go.Operand.tmp 98], argTypes := #[3, 3] }, type := 3, pos := "write.go:60", after := #[{ on := 4, ground := Go.Ground.data }, { on := 5, ground := Go.Ground.data }], guard := none }
def o19D_7 : Oper := { dst := some 100, op := Go.Op.binOp Go.BinOp.add 3 (Go.Operand.tmp 95) (Go.Operand.tmp 99) 3, type := 3, pos := "write.go:60", after := #[{ on := 2, ground := Go.Ground.data }, { on := 6, ground := Go.Ground.data }], guard := none }
def o19D_8 : Oper := { dst := some 101, op := Go.Op.call { callee := Go.Callee.value (Go.Operand.func 19), args := #[Go.Operand.tmp 93, Go.Operand.tmp 94, Go.Operand.tmp 100], argTypes := #[37, 24, 3] }, type := 0, pos := "write.go:60", after := #[{ on := 0, ground := Go.Ground.data }, { on := 1, ground := Go.Ground.data }, { on := 7, ground := Go.Ground.data }, { on := 6, ground := Go.Ground.chain }], guard := none }

set_option maxHeartbeats 4000000 in
set_option maxRecDepth 100000 in
theorem wput_D (w0 : World) (hW : WTab w0) (b : Nat) (t : Tm) (ih : ∀ x ∈ t.kids, WPut w0 b x) (e2 : (t.k == 2) = false) (e22 : (t.k == 22) = false) (e23 : (t.k == 23) = false) (hbd : bindsN t.k 1 = 1) (hlv : levelsN t.k = 0) : WPut w0 b t := by
  intro w s bs m hl hlw hB hr h0 hf hm hbs
  obtain ⟨a, cap, S, rfl, hc, hmx, hfi, hn, hk⟩ := hl.out
  have hkr := t.node_kind (t.right_node hr)
  have hfit := right_fit hr
  obtain ⟨du, hu1, hu2⟩ := under_termW
  have HX := Lib.hid (show t.wr m = 40 :: (headL t.k ++ (frontL t.k t.i t.j t.n m ++ (wrs t.k 0 t.kids m ++ [41]))) by rw [t.wr_eq, if_neg (by simpa using e2)])
  have HS := Lib.hid (wst_start hB hlw (.cells #[.int .i64 t.k, .int .i64 t.i, .int .i64 t.j, .int .i64 t.n, .slice a t.kids.length cap] 24))
  have HBL := Lib.hid hB.lt
  have HW := Lib.hid hW
  have HL := Lib.hid (wr_len t m hr h0 hf hm)
  have HLN := Lib.hid (show bs.length + (1 + (headL t.k).length + (frontL t.k t.i t.j t.n m).length + (wrs t.k 0 t.kids m).length + 1) ≤ 140737488355328 from by
    have := HL.out; rw [HX.out] at this; simp only [List.length_append, List.length_cons, List.length_nil] at this; omega)
  have HN := Lib.hid hn
  have HK := Lib.hid hk
  have HBS := Lib.hid hbs
  have HR := Lib.hid (t.right_kids hr)
  have HF := Lib.hid (by rw [t.freeN_eq, if_neg (by simpa using e2)] at hf; exact hf : frees t.k 0 t.kids ≤ m)
  have IH := Lib.hid ih
  have hh := (HS.out.tab HW.out).heads_cell t.k (by omega) (by omega)
  have HLV := Lib.hid hlv
  have HFR := Lib.hid (show frontL t.k t.i t.j t.n m = ([]) ++ (lvP t.i t.j 0 ++ (32 :: nameW m)) from by
    have hq : ¬ t.k = 23 := by simpa using e23
    unfold frontL lvlL; simp [hlv, hbd, hq, lvP])
  have HRR := Lib.hid hr
  have HBD := Lib.hid hbd
  have HFM := Lib.hid (show Fit m from ⟨by omega, by omega⟩)
  have HFM1 := Lib.hid (show Fit (m + 1) from ⟨by omega, by omega⟩)
  have hsw := hlw.size
  clear hB hlw hr hW hbs hn hk hl hf ih hfi hlv hbd
  have hk0 : 0 ≤ t.k := by omega
  have hk1 : t.k < 24 := by omega
  unfold tv
  unfold maxLen at hmx
  go_enter Tryd.func19, Tryd.ntmps19
  go_wp2_with fail
  · exfalso; have := head_len t.k; omega
  rw [show (⟨#[40]⟩ : ByteArray) = ⟨[(40 : UInt8)].toArray⟩ from rfl, str_add]
  refine (bstr_any _ b _ _ _ HS.out.bld (by have := HLN.out; simp [ByteArray.size]; omega) HS.out.hB).mono ?_
  rintro e w1 ⟨rfl, hb1, hl1, hk1⟩
  have HS1 := Lib.hid (HS.out.put hb1 hl1 hk1)
  rw [Lib.strCells_toArray] at HS1
  obtain ⟨d0, d1, d2, d3, d4⟩ := HS1.out.cells HBL.out
  have hsz : w.heap.size < w1.heap.size := by have := HS1.out.size; rw [World.size_alloc] at this; omega
  clear hb1 hl1 hk1 hh
  go_wp2_with fail
  go_region_held3 (fun w' => Below w1.heap.size w1 w' ∧ w'.cell? ⟨w.heap.size, 0, none⟩ = some (.int .i64 t.k) ∧ w'.cell? ⟨w.heap.size, 1, none⟩ = some (.int .i64 t.i) ∧ w'.cell? ⟨w.heap.size, 2, none⟩ = some (.int .i64 t.j))
    (first | (refine rl_keep hsz d0 d1 d2 ?_; repeat (first | exact Below.refl _ _ | (with_reducible assumption) | exact (by assumption : _ ∧ _).1 | refine Below.drew ?_ | refine Below.alloc ?_ (Nat.le_refl _) _)) | go_keep)
    (first | (go_at_call 32; refine (levels_any _ _).mono ?_; rintro e wn ⟨rfl, rfl⟩; rw [HLV.out]))
  all_goals
    rename_i hHeld
    clear hHeld
    go_wp2_with fail
    obtain ⟨w2, hw2⟩ : ∃ w2, w2 = (w1.alloc (.cells #[.int .i64 t.i, .int .i64 t.j] 3)).drew := ⟨_, rfl⟩
    rw [← hw2]
    have HS2 := Lib.hid (HS1.out.call (wr' := w2) (by rw [hw2]; exact ((Below.refl _ w1).alloc (Nat.le_refl _) _).drew)).again
    have HBX2 := Lib.hid (show w2.heap[w.heap.size]? = some (.cells #[.int .i64 t.k, .int .i64 t.i, .int .i64 t.j, .int .i64 t.n, .slice a t.kids.length cap] 24) from by
      have h := HS1.out.at (alloc_heap_new' w _) (by have := HBL.out; omega) ut_ne
      rw [hw2]; show (w1.alloc _).heap[w.heap.size]? = _; rw [Lib.alloc_old _ _ _ hsz]; exact h)
    have HRW2 := Lib.hid (show w2.heap[w1.heap.size]? = some (.cells #[.int .i64 t.i, .int .i64 t.j] 3) from by rw [hw2]; exact alloc_heap_new _ _)
    have HUP := Lib.hid (show Below w0.heap.size w w2 from by
      rw [hw2]; exact (((Below.refl _ w).alloc hsw _).trans HS1.out.up |>.alloc HS1.out.hB _).drew)
    have HKP := Lib.hid (show Kept b w w2 from by
      rw [hw2]; exact ((Kept.alloc b w _).trans HS1.out.kept).trans (Kept.alloc b w1 _))
    have hs2 : w1.heap.size < w2.heap.size := by rw [hw2]; show _ < (w1.alloc _).heap.size; simp
    clear hw2 d0 d1 d2 d3 d4
    go_loopw [47] (fun i wr => ∃ k : Nat, k ≤ 0 ∧ i = .int .i64 k ∧ WSt w0 b w2 (bs ++ Lib.byteCells ([40] ++ headL t.k) ++ Lib.byteCells (lvP t.i t.j k)) wr) (fun i _ => 0 - (intOf i).toNat)
    case atStart => exact ⟨0, by omega, rfl, by simpa [lvP, Lib.byteCells] using HS2.out⟩
    case round =>
      obtain ⟨k, hk, rfl, hst⟩ := hrel
      have hrow := hst.at HRW2.out (by have := HBL.out; omega) ti_ne
      have r0 : wr.cell? ⟨w1.heap.size, 0, none⟩ = some (.int .i64 t.i) := by rw [Lib.cell_of_heap hrow]; rfl
      have r1 : wr.cell? ⟨w1.heap.size, 1, none⟩ = some (.int .i64 t.j) := by rw [Lib.cell_of_heap hrow]; rfl
      have hbox := hst.at HBX2.out (by have := HBL.out; omega) ut_ne
      have d0 : wr.cell? ⟨w.heap.size, 0, none⟩ = some (.int .i64 t.k) := by rw [Lib.cell_of_heap hbox]; rfl
      have d4 : wr.cell? ⟨w.heap.size, 4, none⟩ = some (.slice a t.kids.length cap) := by rw [Lib.cell_of_heap hbox]; rfl
      have HST := Lib.hid hst
      clear hrow hbox hst
      obtain rfl : k = 0 := by omega
      go_wp2_with fail
      refine (binds_any _ _ _).mono ?_
      rintro e w5 ⟨rfl, rfl⟩
      rw [HBD.out]
      go_wp2_with fail
      refine (name_any m _ HFM.out (HST.out.tab HW.out).pow).mono ?_
      rintro e w5 ⟨rfl, hb5⟩
      have HS5 := Lib.hid (HST.out.call hb5)
      have HNL := Lib.hid (name_len HFM.out)
      clear hb5
      go_wp2_with fail
      · exfalso; have := HNL.out; omega
      rw [show (⟨#[32]⟩ : ByteArray) = ⟨[(32 : UInt8)].toArray⟩ from rfl, str_add]
      refine (bstr_any _ b _ _ _ HS5.out.bld (by have := HLN.out; rw [HFR.out] at this; simp [ByteArray.size, lvP, Lib.byteCells] at this ⊢; omega) HS5.out.hB).mono ?_
      rintro e w5' ⟨rfl, hb5, hl5, hk5⟩
      have HSB := Lib.hid (HS5.out.put hb5 hl5 hk5)
      rw [Lib.strCells_toArray] at HSB
      clear hb5 hl5 hk5 r0 r1 d0 d4
      have hbox5 := HSB.out.at HBX2.out (by have := HBL.out; omega) ut_ne
      have d4 : w5'.cell? ⟨w.heap.size, 4, none⟩ = some (.slice a t.kids.length cap) := by rw [Lib.cell_of_heap hbox5]; rfl
      clear hbox5
      go_wp2_with fail
      clear d4
      go_loopw [69] (fun i wv => ∃ q : Nat, q ≤ t.kids.length ∧ i = .int .i64 q ∧ WSt w0 b w2 (bs ++ Lib.byteCells ([40] ++ headL t.k ++ frontL t.k t.i t.j t.n m ++ wrs t.k 0 (t.kids.take q) m)) wv) (fun i _ => t.kids.length - (intOf i).toNat)
      case atStart => exact ⟨0, Nat.zero_le _, rfl, by have h := HSB.out; rw [HFR.out]; simpa [wrs, lvP, Lib.byteCells] using h⟩
      case round =>
        obtain ⟨q, hq, rfl, hv⟩ := hrel
        have HV := Lib.hid hv
        have HBX3 := Lib.hid (hv.at HBX2.out (by have := HBL.out; omega) ut_ne)
        have hsv : w.heap.size < wr.heap.size := by have := HV.out.size; omega
        have d0 : wr.cell? ⟨w.heap.size, 0, none⟩ = some (.int .i64 t.k) := by rw [Lib.cell_of_heap HBX3.out]; rfl
        clear hv HSB
        by_cases hlt : q < t.kids.length
        · obtain ⟨bn, o, rfl, hx⟩ := HN.out q hlt
          obtain ⟨c0, c1, c2, c3, c4⟩ := hx.below HV.out.low hx.lt
          have hq4 := HK.out q hlt
          obtain ⟨a', cap', S', hS, -⟩ := hq4.out
          rw [hS] at c4 hq4
          have HQ := Lib.hid hq4
          have HM := Lib.hid (List.getElem_mem hlt)
          have HROOM := Lib.hid (put_room HRR.out h0 HF.out hm hlt)
          have HTK := Lib.hid (wrs_take t.k m t.kids 0 q hlt)
          have HKF := Lib.hid (kid_free HF.out hlt)
          have HKS := Lib.hid (kid_size hlt)
          have HV5 := Lib.hid (HV.out.call (wr' := wr.alloc (.cells #[.int .i64 t.kids[q].k, .int .i64 t.kids[q].i, .int .i64 t.kids[q].j, .int .i64 t.kids[q].n, .slice a' t.kids[q].kids.length cap'] 24)) ((Below.refl _ _).alloc (Nat.le_refl _) _)).again
          clear hS hq4 hx
          have hbr := binds_range t.k q
          have HMD := Lib.hid (show midL t.k (0 + q) m = [] from if_neg (fun h => by have := h.1; simp [this] at e22))
          go_wp2_with fail
          refine (bbyte_any _ b _ _ _ HV5.out.bld (by have h1 := HROOM.out; have h2 := HBS.out; simp [Lib.byteCells] ; omega) HV5.out.hB).mono ?_
          rintro e w6 ⟨rfl, hb6, hl6, hk6⟩
          have HS6 := Lib.hid (HV5.out.put hb6 hl6 hk6)
          clear hb6 hl6 hk6
          have hy := HS6.out.at (alloc_heap_new' wr _) (by have := HBL.out; omega) ut_ne
          have hz := HS6.out.at (j := w.heap.size) (by rw [Lib.alloc_old _ _ _ hsv]; exact HBX3.out) (by have := HBL.out; omega) ut_ne
          have HNE := Lib.hid (show wr.heap.size ≠ b ∧ w.heap.size ≠ b by have := HBL.out; omega)
          have HY := Lib.hid hy
          have HZ := Lib.hid hz
          clear hy hz
          have HS6d := Lib.hid (HS6.out.call (wr' := w6.drew) (Below.refl _ w6).drew)
          have hS0 := kid_keep2 HY.out HZ.out HNE.out (Kept.refl b w6)
          have hwr : IntKind.i64.wrap (m + bindsN t.k (q : Int)) = m + bindsN t.k (q : Int) := IntWalk.i64_in _ (by omega)
          go_wp2_with fail
          refine wp_region_held_drew (S := fun w' => Kept b w6 w' ∧ w'.heap[wr.heap.size]? = some (.cells #[.int .i64 t.kids[q].k, .int .i64 t.kids[q].i, .int .i64 t.kids[q].j, .int .i64 t.kids[q].n, .slice a' t.kids[q].kids.length cap'] 24) ∧ w'.cell? ⟨w.heap.size, 0, none⟩ = some (.int .i64 t.k)) (by kernel_rfl) ?_ (fun hHeld => ?_)
          · (try dsimp only)
            (first | exact hS8 | exact hHeld | exact hS0)
          refine take_at 0 93 o19D_0 (v := ?_) (Or.inl ⟨by rfl, ?_⟩) ?_
          rotate_left 1
          · ((intro w hSw; (try dsimp only at hSw); unfold o19D_0; go_simp) <;> with_reducible rfl)
          (try simp only [Act.put, List.setIfInBounds_toArray, List.set_cons_zero, List.set_cons_succ])
          refine take_at 1 94 o19D_1 (yields_row wr.heap.size _ _ _ #[.int .i64 t.kids[q].k, .int .i64 t.kids[q].i, .int .i64 t.kids[q].j, .int .i64 t.kids[q].n, .slice a' t.kids[q].kids.length cap'] _ du (by rfl) rfl (by rfl) (fun w' h => h.2.1) hu1 (by cases du <;> first | rfl | exact hu2) size_termW) ?_
          (try simp only [Act.put, List.setIfInBounds_toArray, List.set_cons_zero, List.set_cons_succ])
          refine take_at 2 95 o19D_2 (v := ?_) (Or.inl ⟨by rfl, ?_⟩) ?_
          rotate_left 1
          · ((intro w hSw; (try dsimp only at hSw); unfold o19D_2; go_simp) <;> with_reducible rfl)
          (try simp only [Act.put, List.setIfInBounds_toArray, List.set_cons_zero, List.set_cons_succ])
          refine take_at 3 96 o19D_3 (v := ?_) (Or.inl ⟨by rfl, ?_⟩) ?_
          rotate_left 1
          · ((intro w hSw; (try dsimp only at hSw); unfold o19D_3; go_simp) <;> with_reducible rfl)
          (try simp only [Act.put, List.setIfInBounds_toArray, List.set_cons_zero, List.set_cons_succ])
          refine take_at 4 97 o19D_4 (v := ?_) (Or.inl ⟨by rfl, ?_⟩) ?_
          rotate_left 1
          · ((intro w hSw; (try dsimp only at hSw); obtain ⟨hSa, hSb, hSc⟩ := hSw; unfold o19D_4; go_simp) <;> with_reducible rfl)
          (try simp only [Act.put, List.setIfInBounds_toArray, List.set_cons_zero, List.set_cons_succ])
          refine take_at 5 98 o19D_5 (v := ?_) (Or.inl ⟨by rfl, ?_⟩) ?_
          rotate_left 1
          · ((intro w hSw; (try dsimp only at hSw); unfold o19D_5; go_simp) <;> with_reducible rfl)
          (try simp only [Act.put, List.setIfInBounds_toArray, List.set_cons_zero, List.set_cons_succ])
          refine wpAnyH_ready (rs := [6]) (by kernel_rfl) (by simp) ?_
          refine AllReadyH.cons (o := o19D_6) rfl (fun K hK => ?_) ?_
          · unfold o19D_6
            go_simp
            (go_at_call 34; refine (binds_any _ _ _).mono ?_; rintro e w7 ⟨rfl, rfl⟩)
            refine hK.out _ _ ?_ (fun hHeld => ?_)
            · (try dsimp only)
              (first | exact hS8 | exact hHeld | exact hS0)
            clear hK K
            (try simp only [Act.put, List.setIfInBounds_toArray, List.set_cons_zero, List.set_cons_succ])
            refine take_at 7 100 o19D_7 (v := ?_) (Or.inl ⟨by rfl, ?_⟩) ?_
            rotate_left 1
            · ((intro w hSw; (try dsimp only at hSw); unfold o19D_7; go_simp) <;> with_reducible rfl)
            (try simp only [Act.put, List.setIfInBounds_toArray, List.set_cons_zero, List.set_cons_succ])
            refine wpAnyH_ready (rs := [8]) (by kernel_rfl) (by simp) ?_
            refine AllReadyH.cons (o := o19D_8) rfl (fun K hK => ?_) ?_
            · unfold o19D_8
              go_simp
              (go_at_call 19; with_reducible refine Calls.mono ((IH.out _ HM.out).use _ _ _ _ HQ.out HS6d.out.low HS6d.out.bld (HR.out _ HM.out) (by omega) HKF.out (by have := HKS.out; omega) (by have h1 := HROOM.out; have h2 := HBS.out; simp [Lib.byteCells] ; omega)) ?_; rintro e w8 ⟨rfl, hb8, hl8, hk8⟩)
              have HS8 := Lib.hid (HV.out.over (HS6d.out.put hb8 hl8 hk8))
              have hS8 := kid_keep2 HY.out HZ.out HNE.out hk8
              clear hb8 hl8 hk8 hHeld
              refine hK.out _ _ ?_ (fun hHeld => ?_)
              · (try dsimp only)
                (first | exact hS8 | exact hHeld | exact hS0)
              clear hK K
              (try simp only [Act.put, List.setIfInBounds_toArray, List.set_cons_zero, List.set_cons_succ])
              refine wpAnyH_done (by kernel_rfl) ?_ _
              go_wp2
              go_roundw
              case rel => exact ⟨q + 1, by omega, by go_num, by have h := HS8.out; rw [HTK.out, HMD.out]; simpa [Lib.byteCells] using h⟩
              case measure => simp [intOf]; omega
            exact AllReadyH.nil
          exact AllReadyH.nil
        · obtain rfl : q = t.kids.length := by omega
          go_wp2_with fail
          refine (bbyte_any _ b _ _ _ HV.out.bld (by have := HLN.out; simp [Lib.byteCells]; omega) HV.out.hB).mono ?_
          rintro e w6 ⟨rfl, hb6, hl6, hk6⟩
          have HS6 := Lib.hid (HV.out.put hb6 hl6 hk6)
          have HB6 := Lib.hid hb6
          clear hb6 hl6 hk6
          go_wp2
          go_end0
          exact ⟨rfl, by have h := HB6.out; rw [HX.out]; rw [List.take_length] at h; simpa [Lib.byteCells] using h, HUP.out.trans HS6.out.up, HKP.out.trans HS6.out.kept⟩
end Go.Proofs.YtficmfiekibjgaaDoor

namespace Go.Proofs.YtficmfiekibjgaaDoor
open Go.RowKit

def o19E_0 : Oper := { dst := some 93, op := Go.Op.move (Go.Operand.tmp 0), type := 37, pos := "write.go:60", after := #[], guard := none }
def o19E_1 : Oper := { dst := some 94, op := Go.Op.load 24 (Go.Operand.tmp 9), type := 24, pos := "write.go:60", after := #[], guard := none }
def o19E_2 : Oper := { dst := some 95, op := Go.Op.move (Go.Operand.tmp 2), type := 3, pos := "write.go:60", after := #[], guard := none }
def o19E_3 : Oper := { dst := some 96, op := Go.Op.fieldAddr 24 (Go.Operand.tmp 4) 0, type := 0, pos := "write.go:60", after := #[], guard := none }
def o19E_4 : Oper := { dst := some 97, op := Go.Op.load 3 (Go.Operand.tmp 96), type := 3, pos := "write.go:60", after := #[{ on := 3, ground := Go.Ground.data }], guard := none }
def o19E_5 : Oper := { dst := some 98, op := Go.Op.move (Go.Operand.tmp 8), type := 3, pos := "write.go:60", after := #[], guard := none }
def o19E_6 : Oper := { dst := some 99, op := Go.Op.call { callee := Go.Callee.value (Go.Operand.func 34), args := #[Go.Operand.tmp 97, Go.Operand.tmp 98], argTypes := #[3, 3] }, type := 3, pos := "write.go:60", after := #[{ on := 4, ground := Go.Ground.data }, { on := 5, ground := Go.Ground.data }], guard := none }
def o19E_7 : Oper := { dst := some 100, op := Go.Op.binOp Go.BinOp.add 3 (Go.Operand.tmp 95) (Go.Operand.tmp 99) 3, type := 3, pos := "write.go:60", after := #[{ on := 2, ground := Go.Ground.data }, { on := 6, ground := Go.Ground.data }], guard := none }
def o19E_8 : Oper := { dst := some 101, op := Go.Op.call { callee := Go.Callee.value (Go.Operand.func 19), args := #[Go.Operand.tmp 93, Go.Operand.tmp 94, Go.Operand.tmp 100], argTypes := #[37, 24, 3] }, type := 0, pos := "write.go:60", after := #[{ on := 0, ground := Go.Ground.data }, { on := 1, ground := Go.Ground.data }, { on := 7, ground := Go.Ground.data }, { on := 6, ground := Go.Ground.chain }], guard := none }

set_option maxHeartbeats 4000000 in
set_option maxRecDepth 100000 in
theorem wput_E (w0 : World) (hW : WTab w0) (b : Nat) (t : Tm) (ih : ∀ x ∈ t.kids, WPut w0 b x) (e2 : (t.k == 2) = false) (e22 : (t.k == 22) = false) (e23 : (t.k == 23) = false) (hbd : bindsN t.k 1 = 0) (hlv : levelsN t.k = 0) : WPut w0 b t := by
  intro w s bs m hl hlw hB hr h0 hf hm hbs
  obtain ⟨a, cap, S, rfl, hc, hmx, hfi, hn, hk⟩ := hl.out
  have hkr := t.node_kind (t.right_node hr)
  have hfit := right_fit hr
  obtain ⟨du, hu1, hu2⟩ := under_termW
  have HX := Lib.hid (show t.wr m = 40 :: (headL t.k ++ (frontL t.k t.i t.j t.n m ++ (wrs t.k 0 t.kids m ++ [41]))) by rw [t.wr_eq, if_neg (by simpa using e2)])
  have HS := Lib.hid (wst_start hB hlw (.cells #[.int .i64 t.k, .int .i64 t.i, .int .i64 t.j, .int .i64 t.n, .slice a t.kids.length cap] 24))
  have HBL := Lib.hid hB.lt
  have HW := Lib.hid hW
  have HL := Lib.hid (wr_len t m hr h0 hf hm)
  have HLN := Lib.hid (show bs.length + (1 + (headL t.k).length + (frontL t.k t.i t.j t.n m).length + (wrs t.k 0 t.kids m).length + 1) ≤ 140737488355328 from by
    have := HL.out; rw [HX.out] at this; simp only [List.length_append, List.length_cons, List.length_nil] at this; omega)
  have HN := Lib.hid hn
  have HK := Lib.hid hk
  have HBS := Lib.hid hbs
  have HR := Lib.hid (t.right_kids hr)
  have HF := Lib.hid (by rw [t.freeN_eq, if_neg (by simpa using e2)] at hf; exact hf : frees t.k 0 t.kids ≤ m)
  have IH := Lib.hid ih
  have hh := (HS.out.tab HW.out).heads_cell t.k (by omega) (by omega)
  have HLV := Lib.hid hlv
  have HFR := Lib.hid (show frontL t.k t.i t.j t.n m = ([]) ++ (lvP t.i t.j 0 ++ ([])) from by
    have hq : ¬ t.k = 23 := by simpa using e23
    unfold frontL lvlL; simp [hlv, hbd, hq, lvP])
  have HRR := Lib.hid hr
  have HBD := Lib.hid hbd
  have HFM := Lib.hid (show Fit m from ⟨by omega, by omega⟩)
  have HFM1 := Lib.hid (show Fit (m + 1) from ⟨by omega, by omega⟩)
  have hsw := hlw.size
  clear hB hlw hr hW hbs hn hk hl hf ih hfi hlv hbd
  have hk0 : 0 ≤ t.k := by omega
  have hk1 : t.k < 24 := by omega
  unfold tv
  unfold maxLen at hmx
  go_enter Tryd.func19, Tryd.ntmps19
  go_wp2_with fail
  · exfalso; have := head_len t.k; omega
  rw [show (⟨#[40]⟩ : ByteArray) = ⟨[(40 : UInt8)].toArray⟩ from rfl, str_add]
  refine (bstr_any _ b _ _ _ HS.out.bld (by have := HLN.out; simp [ByteArray.size]; omega) HS.out.hB).mono ?_
  rintro e w1 ⟨rfl, hb1, hl1, hk1⟩
  have HS1 := Lib.hid (HS.out.put hb1 hl1 hk1)
  rw [Lib.strCells_toArray] at HS1
  obtain ⟨d0, d1, d2, d3, d4⟩ := HS1.out.cells HBL.out
  have hsz : w.heap.size < w1.heap.size := by have := HS1.out.size; rw [World.size_alloc] at this; omega
  clear hb1 hl1 hk1 hh
  go_wp2_with fail
  go_region_held3 (fun w' => Below w1.heap.size w1 w' ∧ w'.cell? ⟨w.heap.size, 0, none⟩ = some (.int .i64 t.k) ∧ w'.cell? ⟨w.heap.size, 1, none⟩ = some (.int .i64 t.i) ∧ w'.cell? ⟨w.heap.size, 2, none⟩ = some (.int .i64 t.j))
    (first | (refine rl_keep hsz d0 d1 d2 ?_; repeat (first | exact Below.refl _ _ | (with_reducible assumption) | exact (by assumption : _ ∧ _).1 | refine Below.drew ?_ | refine Below.alloc ?_ (Nat.le_refl _) _)) | go_keep)
    (first | (go_at_call 32; refine (levels_any _ _).mono ?_; rintro e wn ⟨rfl, rfl⟩; rw [HLV.out]))
  all_goals
    rename_i hHeld
    clear hHeld
    go_wp2_with fail
    obtain ⟨w2, hw2⟩ : ∃ w2, w2 = (w1.alloc (.cells #[.int .i64 t.i, .int .i64 t.j] 3)).drew := ⟨_, rfl⟩
    rw [← hw2]
    have HS2 := Lib.hid (HS1.out.call (wr' := w2) (by rw [hw2]; exact ((Below.refl _ w1).alloc (Nat.le_refl _) _).drew)).again
    have HBX2 := Lib.hid (show w2.heap[w.heap.size]? = some (.cells #[.int .i64 t.k, .int .i64 t.i, .int .i64 t.j, .int .i64 t.n, .slice a t.kids.length cap] 24) from by
      have h := HS1.out.at (alloc_heap_new' w _) (by have := HBL.out; omega) ut_ne
      rw [hw2]; show (w1.alloc _).heap[w.heap.size]? = _; rw [Lib.alloc_old _ _ _ hsz]; exact h)
    have HRW2 := Lib.hid (show w2.heap[w1.heap.size]? = some (.cells #[.int .i64 t.i, .int .i64 t.j] 3) from by rw [hw2]; exact alloc_heap_new _ _)
    have HUP := Lib.hid (show Below w0.heap.size w w2 from by
      rw [hw2]; exact (((Below.refl _ w).alloc hsw _).trans HS1.out.up |>.alloc HS1.out.hB _).drew)
    have HKP := Lib.hid (show Kept b w w2 from by
      rw [hw2]; exact ((Kept.alloc b w _).trans HS1.out.kept).trans (Kept.alloc b w1 _))
    have hs2 : w1.heap.size < w2.heap.size := by rw [hw2]; show _ < (w1.alloc _).heap.size; simp
    clear hw2 d0 d1 d2 d3 d4
    go_loopw [47] (fun i wr => ∃ k : Nat, k ≤ 0 ∧ i = .int .i64 k ∧ WSt w0 b w2 (bs ++ Lib.byteCells ([40] ++ headL t.k) ++ Lib.byteCells (lvP t.i t.j k)) wr) (fun i _ => 0 - (intOf i).toNat)
    case atStart => exact ⟨0, by omega, rfl, by simpa [lvP, Lib.byteCells] using HS2.out⟩
    case round =>
      obtain ⟨k, hk, rfl, hst⟩ := hrel
      have hrow := hst.at HRW2.out (by have := HBL.out; omega) ti_ne
      have r0 : wr.cell? ⟨w1.heap.size, 0, none⟩ = some (.int .i64 t.i) := by rw [Lib.cell_of_heap hrow]; rfl
      have r1 : wr.cell? ⟨w1.heap.size, 1, none⟩ = some (.int .i64 t.j) := by rw [Lib.cell_of_heap hrow]; rfl
      have hbox := hst.at HBX2.out (by have := HBL.out; omega) ut_ne
      have d0 : wr.cell? ⟨w.heap.size, 0, none⟩ = some (.int .i64 t.k) := by rw [Lib.cell_of_heap hbox]; rfl
      have d4 : wr.cell? ⟨w.heap.size, 4, none⟩ = some (.slice a t.kids.length cap) := by rw [Lib.cell_of_heap hbox]; rfl
      have HST := Lib.hid hst
      clear hrow hbox hst
      obtain rfl : k = 0 := by omega
      go_wp2_with fail
      refine (binds_any _ _ _).mono ?_
      rintro e w5 ⟨rfl, rfl⟩
      rw [HBD.out]
      go_wp2_with fail
      clear r0 r1 d0 d4
      go_loopw [69] (fun i wv => ∃ q : Nat, q ≤ t.kids.length ∧ i = .int .i64 q ∧ WSt w0 b w2 (bs ++ Lib.byteCells ([40] ++ headL t.k ++ frontL t.k t.i t.j t.n m ++ wrs t.k 0 (t.kids.take q) m)) wv) (fun i _ => t.kids.length - (intOf i).toNat)
      case atStart => exact ⟨0, Nat.zero_le _, rfl, by have h := HST.out; rw [HFR.out]; simpa [wrs, lvP, Lib.byteCells] using h⟩
      case round =>
        obtain ⟨q, hq, rfl, hv⟩ := hrel
        have HV := Lib.hid hv
        have HBX3 := Lib.hid (hv.at HBX2.out (by have := HBL.out; omega) ut_ne)
        have hsv : w.heap.size < wr.heap.size := by have := HV.out.size; omega
        have d0 : wr.cell? ⟨w.heap.size, 0, none⟩ = some (.int .i64 t.k) := by rw [Lib.cell_of_heap HBX3.out]; rfl
        clear hv HST
        by_cases hlt : q < t.kids.length
        · obtain ⟨bn, o, rfl, hx⟩ := HN.out q hlt
          obtain ⟨c0, c1, c2, c3, c4⟩ := hx.below HV.out.low hx.lt
          have hq4 := HK.out q hlt
          obtain ⟨a', cap', S', hS, -⟩ := hq4.out
          rw [hS] at c4 hq4
          have HQ := Lib.hid hq4
          have HM := Lib.hid (List.getElem_mem hlt)
          have HROOM := Lib.hid (put_room HRR.out h0 HF.out hm hlt)
          have HTK := Lib.hid (wrs_take t.k m t.kids 0 q hlt)
          have HKF := Lib.hid (kid_free HF.out hlt)
          have HKS := Lib.hid (kid_size hlt)
          have HV5 := Lib.hid (HV.out.call (wr' := wr.alloc (.cells #[.int .i64 t.kids[q].k, .int .i64 t.kids[q].i, .int .i64 t.kids[q].j, .int .i64 t.kids[q].n, .slice a' t.kids[q].kids.length cap'] 24)) ((Below.refl _ _).alloc (Nat.le_refl _) _)).again
          clear hS hq4 hx
          have hbr := binds_range t.k q
          have HMD := Lib.hid (show midL t.k (0 + q) m = [] from if_neg (fun h => by have := h.1; simp [this] at e22))
          go_wp2_with fail
          refine (bbyte_any _ b _ _ _ HV5.out.bld (by have h1 := HROOM.out; have h2 := HBS.out; simp [Lib.byteCells] ; omega) HV5.out.hB).mono ?_
          rintro e w6 ⟨rfl, hb6, hl6, hk6⟩
          have HS6 := Lib.hid (HV5.out.put hb6 hl6 hk6)
          clear hb6 hl6 hk6
          have hy := HS6.out.at (alloc_heap_new' wr _) (by have := HBL.out; omega) ut_ne
          have hz := HS6.out.at (j := w.heap.size) (by rw [Lib.alloc_old _ _ _ hsv]; exact HBX3.out) (by have := HBL.out; omega) ut_ne
          have HNE := Lib.hid (show wr.heap.size ≠ b ∧ w.heap.size ≠ b by have := HBL.out; omega)
          have HY := Lib.hid hy
          have HZ := Lib.hid hz
          clear hy hz
          have HS6d := Lib.hid (HS6.out.call (wr' := w6.drew) (Below.refl _ w6).drew)
          have hS0 := kid_keep2 HY.out HZ.out HNE.out (Kept.refl b w6)
          have hwr : IntKind.i64.wrap (m + bindsN t.k (q : Int)) = m + bindsN t.k (q : Int) := IntWalk.i64_in _ (by omega)
          go_wp2_with fail
          refine wp_region_held_drew (S := fun w' => Kept b w6 w' ∧ w'.heap[wr.heap.size]? = some (.cells #[.int .i64 t.kids[q].k, .int .i64 t.kids[q].i, .int .i64 t.kids[q].j, .int .i64 t.kids[q].n, .slice a' t.kids[q].kids.length cap'] 24) ∧ w'.cell? ⟨w.heap.size, 0, none⟩ = some (.int .i64 t.k)) (by kernel_rfl) ?_ (fun hHeld => ?_)
          · (try dsimp only)
            (first | exact hS8 | exact hHeld | exact hS0)
          refine take_at 0 93 o19E_0 (v := ?_) (Or.inl ⟨by rfl, ?_⟩) ?_
          rotate_left 1
          · ((intro w hSw; (try dsimp only at hSw); unfold o19E_0; go_simp) <;> with_reducible rfl)
          (try simp only [Act.put, List.setIfInBounds_toArray, List.set_cons_zero, List.set_cons_succ])
          refine take_at 1 94 o19E_1 (yields_row wr.heap.size _ _ _ #[.int .i64 t.kids[q].k, .int .i64 t.kids[q].i, .int .i64 t.kids[q].j, .int .i64 t.kids[q].n, .slice a' t.kids[q].kids.length cap'] _ du (by rfl) rfl (by rfl) (fun w' h => h.2.1) hu1 (by cases du <;> first | rfl | exact hu2) size_termW) ?_
          (try simp only [Act.put, List.setIfInBounds_toArray, List.set_cons_zero, List.set_cons_succ])
          refine take_at 2 95 o19E_2 (v := ?_) (Or.inl ⟨by rfl, ?_⟩) ?_
          rotate_left 1
          · ((intro w hSw; (try dsimp only at hSw); unfold o19E_2; go_simp) <;> with_reducible rfl)
          (try simp only [Act.put, List.setIfInBounds_toArray, List.set_cons_zero, List.set_cons_succ])
          refine take_at 3 96 o19E_3 (v := ?_) (Or.inl ⟨by rfl, ?_⟩) ?_
          rotate_left 1
          · ((intro w hSw; (try dsimp only at hSw); unfold o19E_3; go_simp) <;> with_reducible rfl)
          (try simp only [Act.put, List.setIfInBounds_toArray, List.set_cons_zero, List.set_cons_succ])
          refine take_at 4 97 o19E_4 (v := ?_) (Or.inl ⟨by rfl, ?_⟩) ?_
          rotate_left 1
          · ((intro w hSw; (try dsimp only at hSw); obtain ⟨hSa, hSb, hSc⟩ := hSw; unfold o19E_4; go_simp) <;> with_reducible rfl)
          (try simp only [Act.put, List.setIfInBounds_toArray, List.set_cons_zero, List.set_cons_succ])
          refine take_at 5 98 o19E_5 (v := ?_) (Or.inl ⟨by rfl, ?_⟩) ?_
          rotate_left 1
          · ((intro w hSw; (try dsimp only at hSw); unfold o19E_5; go_simp) <;> with_reducible rfl)
          (try simp only [Act.put, List.setIfInBounds_toArray, List.set_cons_zero, List.set_cons_succ])
          refine wpAnyH_ready (rs := [6]) (by kernel_rfl) (by simp) ?_
          refine AllReadyH.cons (o := o19E_6) rfl (fun K hK => ?_) ?_
          · unfold o19E_6
            go_simp
            (go_at_call 34; refine (binds_any _ _ _).mono ?_; rintro e w7 ⟨rfl, rfl⟩)
            refine hK.out _ _ ?_ (fun hHeld => ?_)
            · (try dsimp only)
              (first | exact hS8 | exact hHeld | exact hS0)
            clear hK K
            (try simp only [Act.put, List.setIfInBounds_toArray, List.set_cons_zero, List.set_cons_succ])
            refine take_at 7 100 o19E_7 (v := ?_) (Or.inl ⟨by rfl, ?_⟩) ?_
            rotate_left 1
            · ((intro w hSw; (try dsimp only at hSw); unfold o19E_7; go_simp) <;> with_reducible rfl)
            (try simp only [Act.put, List.setIfInBounds_toArray, List.set_cons_zero, List.set_cons_succ])
            refine wpAnyH_ready (rs := [8]) (by kernel_rfl) (by simp) ?_
            refine AllReadyH.cons (o := o19E_8) rfl (fun K hK => ?_) ?_
            · unfold o19E_8
              go_simp
              (go_at_call 19; with_reducible refine Calls.mono ((IH.out _ HM.out).use _ _ _ _ HQ.out HS6d.out.low HS6d.out.bld (HR.out _ HM.out) (by omega) HKF.out (by have := HKS.out; omega) (by have h1 := HROOM.out; have h2 := HBS.out; simp [Lib.byteCells] ; omega)) ?_; rintro e w8 ⟨rfl, hb8, hl8, hk8⟩)
              have HS8 := Lib.hid (HV.out.over (HS6d.out.put hb8 hl8 hk8))
              have hS8 := kid_keep2 HY.out HZ.out HNE.out hk8
              clear hb8 hl8 hk8 hHeld
              refine hK.out _ _ ?_ (fun hHeld => ?_)
              · (try dsimp only)
                (first | exact hS8 | exact hHeld | exact hS0)
              clear hK K
              (try simp only [Act.put, List.setIfInBounds_toArray, List.set_cons_zero, List.set_cons_succ])
              refine wpAnyH_done (by kernel_rfl) ?_ _
              go_wp2
              go_roundw
              case rel => exact ⟨q + 1, by omega, by go_num, by have h := HS8.out; rw [HTK.out, HMD.out]; simpa [Lib.byteCells] using h⟩
              case measure => simp [intOf]; omega
            exact AllReadyH.nil
          exact AllReadyH.nil
        · obtain rfl : q = t.kids.length := by omega
          go_wp2_with fail
          refine (bbyte_any _ b _ _ _ HV.out.bld (by have := HLN.out; simp [Lib.byteCells]; omega) HV.out.hB).mono ?_
          rintro e w6 ⟨rfl, hb6, hl6, hk6⟩
          have HS6 := Lib.hid (HV.out.put hb6 hl6 hk6)
          have HB6 := Lib.hid hb6
          clear hb6 hl6 hk6
          go_wp2
          go_end0
          exact ⟨rfl, by have h := HB6.out; rw [HX.out]; rw [List.take_length] at h; simpa [Lib.byteCells] using h, HUP.out.trans HS6.out.up, HKP.out.trans HS6.out.kept⟩
end Go.Proofs.YtficmfiekibjgaaDoor

namespace Go.Proofs.YtficmfiekibjgaaDoor
open Go.RowKit

def o19F_0 : Oper := { dst := some 93, op := Go.Op.move (Go.Operand.tmp 0), type := 37, pos := "write.go:60", after := #[], guard := none }
def o19F_1 : Oper := { dst := some 94, op := Go.Op.load 24 (Go.Operand.tmp 9), type := 24, pos := "write.go:60", after := #[], guard := none }
def o19F_2 : Oper := { dst := some 95, op := Go.Op.move (Go.Operand.tmp 2), type := 3, pos := "write.go:60", after := #[], guard := none }
def o19F_3 : Oper := { dst := some 96, op := Go.Op.fieldAddr 24 (Go.Operand.tmp 4) 0, type := 0, pos := "write.go:60", after := #[], guard := none }
def o19F_4 : Oper := { dst := some 97, op := Go.Op.load 3 (Go.Operand.tmp 96), type := 3, pos := "write.go:60", after := #[{ on := 3, ground := Go.Ground.data }], guard := none }
def o19F_5 : Oper := { dst := some 98, op := Go.Op.move (Go.Operand.tmp 8), type := 3, pos := "write.go:60", after := #[], guard := none }
def o19F_6 : Oper := { dst := some 99, op := Go.Op.call { callee := Go.Callee.value (Go.Operand.func 34), args := #[Go.Operand.tmp 97, Go.Operand.tmp 98], argTypes := #[3, 3] }, type := 3, pos := "write.go:60", after := #[{ on := 4, ground := Go.Ground.data }, { on := 5, ground := Go.Ground.data }], guard := none }
def o19F_7 : Oper := { dst := some 100, op := Go.Op.binOp Go.BinOp.add 3 (Go.Operand.tmp 95) (Go.Operand.tmp 99) 3, type := 3, pos := "write.go:60", after := #[{ on := 2, ground := Go.Ground.data }, { on := 6, ground := Go.Ground.data }], guard := none }
def o19F_8 : Oper := { dst := some 101, op := Go.Op.call { callee := Go.Callee.value (Go.Operand.func 19), args := #[Go.Operand.tmp 93, Go.Operand.tmp 94, Go.Operand.tmp 100], argTypes := #[37, 24, 3] }, type := 0, pos := "write.go:60", after := #[{ on := 0, ground := Go.Ground.data }, { on := 1, ground := Go.Ground.data }, { on := 7, ground := Go.Ground.data }, { on := 6, ground := Go.Ground.chain }], guard := none }

set_option maxHeartbeats 4000000 in
set_option maxRecDepth 100000 in
theorem wput_F (w0 : World) (hW : WTab w0) (b : Nat) (t : Tm) (ih : ∀ x ∈ t.kids, WPut w0 b x) (e2 : (t.k == 2) = false) (e22 : (t.k == 22) = true) (e23 : (t.k == 23) = false) (hbd : bindsN t.k 1 = 0) (hlv : levelsN t.k = 0) : WPut w0 b t := by
  intro w s bs m hl hlw hB hr h0 hf hm hbs
  obtain ⟨a, cap, S, rfl, hc, hmx, hfi, hn, hk⟩ := hl.out
  have hkr := t.node_kind (t.right_node hr)
  have hfit := right_fit hr
  obtain ⟨du, hu1, hu2⟩ := under_termW
  have HX := Lib.hid (show t.wr m = 40 :: (headL t.k ++ (frontL t.k t.i t.j t.n m ++ (wrs t.k 0 t.kids m ++ [41]))) by rw [t.wr_eq, if_neg (by simpa using e2)])
  have HS := Lib.hid (wst_start hB hlw (.cells #[.int .i64 t.k, .int .i64 t.i, .int .i64 t.j, .int .i64 t.n, .slice a t.kids.length cap] 24))
  have HBL := Lib.hid hB.lt
  have HW := Lib.hid hW
  have HL := Lib.hid (wr_len t m hr h0 hf hm)
  have HLN := Lib.hid (show bs.length + (1 + (headL t.k).length + (frontL t.k t.i t.j t.n m).length + (wrs t.k 0 t.kids m).length + 1) ≤ 140737488355328 from by
    have := HL.out; rw [HX.out] at this; simp only [List.length_append, List.length_cons, List.length_nil] at this; omega)
  have HN := Lib.hid hn
  have HK := Lib.hid hk
  have HBS := Lib.hid hbs
  have HR := Lib.hid (t.right_kids hr)
  have HF := Lib.hid (by rw [t.freeN_eq, if_neg (by simpa using e2)] at hf; exact hf : frees t.k 0 t.kids ≤ m)
  have IH := Lib.hid ih
  have hh := (HS.out.tab HW.out).heads_cell t.k (by omega) (by omega)
  have HLV := Lib.hid hlv
  have HFR := Lib.hid (show frontL t.k t.i t.j t.n m = ([]) ++ (lvP t.i t.j 0 ++ ([])) from by
    have hq : ¬ t.k = 23 := by simpa using e23
    unfold frontL lvlL; simp [hlv, hbd, hq, lvP])
  have HRR := Lib.hid hr
  have HBD := Lib.hid hbd
  have HFM := Lib.hid (show Fit m from ⟨by omega, by omega⟩)
  have HFM1 := Lib.hid (show Fit (m + 1) from ⟨by omega, by omega⟩)
  have hsw := hlw.size
  clear hB hlw hr hW hbs hn hk hl hf ih hfi hlv hbd
  have hk0 : 0 ≤ t.k := by omega
  have hk1 : t.k < 24 := by omega
  unfold tv
  unfold maxLen at hmx
  go_enter Tryd.func19, Tryd.ntmps19
  go_wp2_with fail
  · exfalso; have := head_len t.k; omega
  rw [show (⟨#[40]⟩ : ByteArray) = ⟨[(40 : UInt8)].toArray⟩ from rfl, str_add]
  refine (bstr_any _ b _ _ _ HS.out.bld (by have := HLN.out; simp [ByteArray.size]; omega) HS.out.hB).mono ?_
  rintro e w1 ⟨rfl, hb1, hl1, hk1⟩
  have HS1 := Lib.hid (HS.out.put hb1 hl1 hk1)
  rw [Lib.strCells_toArray] at HS1
  obtain ⟨d0, d1, d2, d3, d4⟩ := HS1.out.cells HBL.out
  have hsz : w.heap.size < w1.heap.size := by have := HS1.out.size; rw [World.size_alloc] at this; omega
  clear hb1 hl1 hk1 hh
  go_wp2_with fail
  go_region_held3 (fun w' => Below w1.heap.size w1 w' ∧ w'.cell? ⟨w.heap.size, 0, none⟩ = some (.int .i64 t.k) ∧ w'.cell? ⟨w.heap.size, 1, none⟩ = some (.int .i64 t.i) ∧ w'.cell? ⟨w.heap.size, 2, none⟩ = some (.int .i64 t.j))
    (first | (refine rl_keep hsz d0 d1 d2 ?_; repeat (first | exact Below.refl _ _ | (with_reducible assumption) | exact (by assumption : _ ∧ _).1 | refine Below.drew ?_ | refine Below.alloc ?_ (Nat.le_refl _) _)) | go_keep)
    (first | (go_at_call 32; refine (levels_any _ _).mono ?_; rintro e wn ⟨rfl, rfl⟩; rw [HLV.out]))
  all_goals
    rename_i hHeld
    clear hHeld
    go_wp2_with fail
    obtain ⟨w2, hw2⟩ : ∃ w2, w2 = (w1.alloc (.cells #[.int .i64 t.i, .int .i64 t.j] 3)).drew := ⟨_, rfl⟩
    rw [← hw2]
    have HS2 := Lib.hid (HS1.out.call (wr' := w2) (by rw [hw2]; exact ((Below.refl _ w1).alloc (Nat.le_refl _) _).drew)).again
    have HBX2 := Lib.hid (show w2.heap[w.heap.size]? = some (.cells #[.int .i64 t.k, .int .i64 t.i, .int .i64 t.j, .int .i64 t.n, .slice a t.kids.length cap] 24) from by
      have h := HS1.out.at (alloc_heap_new' w _) (by have := HBL.out; omega) ut_ne
      rw [hw2]; show (w1.alloc _).heap[w.heap.size]? = _; rw [Lib.alloc_old _ _ _ hsz]; exact h)
    have HRW2 := Lib.hid (show w2.heap[w1.heap.size]? = some (.cells #[.int .i64 t.i, .int .i64 t.j] 3) from by rw [hw2]; exact alloc_heap_new _ _)
    have HUP := Lib.hid (show Below w0.heap.size w w2 from by
      rw [hw2]; exact (((Below.refl _ w).alloc hsw _).trans HS1.out.up |>.alloc HS1.out.hB _).drew)
    have HKP := Lib.hid (show Kept b w w2 from by
      rw [hw2]; exact ((Kept.alloc b w _).trans HS1.out.kept).trans (Kept.alloc b w1 _))
    have hs2 : w1.heap.size < w2.heap.size := by rw [hw2]; show _ < (w1.alloc _).heap.size; simp
    clear hw2 d0 d1 d2 d3 d4
    go_loopw [47] (fun i wr => ∃ k : Nat, k ≤ 0 ∧ i = .int .i64 k ∧ WSt w0 b w2 (bs ++ Lib.byteCells ([40] ++ headL t.k) ++ Lib.byteCells (lvP t.i t.j k)) wr) (fun i _ => 0 - (intOf i).toNat)
    case atStart => exact ⟨0, by omega, rfl, by simpa [lvP, Lib.byteCells] using HS2.out⟩
    case round =>
      obtain ⟨k, hk, rfl, hst⟩ := hrel
      have hrow := hst.at HRW2.out (by have := HBL.out; omega) ti_ne
      have r0 : wr.cell? ⟨w1.heap.size, 0, none⟩ = some (.int .i64 t.i) := by rw [Lib.cell_of_heap hrow]; rfl
      have r1 : wr.cell? ⟨w1.heap.size, 1, none⟩ = some (.int .i64 t.j) := by rw [Lib.cell_of_heap hrow]; rfl
      have hbox := hst.at HBX2.out (by have := HBL.out; omega) ut_ne
      have d0 : wr.cell? ⟨w.heap.size, 0, none⟩ = some (.int .i64 t.k) := by rw [Lib.cell_of_heap hbox]; rfl
      have d4 : wr.cell? ⟨w.heap.size, 4, none⟩ = some (.slice a t.kids.length cap) := by rw [Lib.cell_of_heap hbox]; rfl
      have HST := Lib.hid hst
      clear hrow hbox hst
      obtain rfl : k = 0 := by omega
      go_wp2_with fail
      refine (binds_any _ _ _).mono ?_
      rintro e w5 ⟨rfl, rfl⟩
      rw [HBD.out]
      go_wp2_with fail
      clear r0 r1 d0 d4
      go_loopw [69] (fun i wv => ∃ q : Nat, q ≤ t.kids.length ∧ i = .int .i64 q ∧ WSt w0 b w2 (bs ++ Lib.byteCells ([40] ++ headL t.k ++ frontL t.k t.i t.j t.n m ++ wrs t.k 0 (t.kids.take q) m)) wv) (fun i _ => t.kids.length - (intOf i).toNat)
      case atStart => exact ⟨0, Nat.zero_le _, rfl, by have h := HST.out; rw [HFR.out]; simpa [wrs, lvP, Lib.byteCells] using h⟩
      case round =>
        obtain ⟨q, hq, rfl, hv⟩ := hrel
        have HV := Lib.hid hv
        have HBX3 := Lib.hid (hv.at HBX2.out (by have := HBL.out; omega) ut_ne)
        have hsv : w.heap.size < wr.heap.size := by have := HV.out.size; omega
        have d0 : wr.cell? ⟨w.heap.size, 0, none⟩ = some (.int .i64 t.k) := by rw [Lib.cell_of_heap HBX3.out]; rfl
        clear hv HST
        by_cases hlt : q < t.kids.length
        · obtain ⟨bn, o, rfl, hx⟩ := HN.out q hlt
          obtain ⟨c0, c1, c2, c3, c4⟩ := hx.below HV.out.low hx.lt
          have hq4 := HK.out q hlt
          obtain ⟨a', cap', S', hS, -⟩ := hq4.out
          rw [hS] at c4 hq4
          have HQ := Lib.hid hq4
          have HM := Lib.hid (List.getElem_mem hlt)
          have HROOM := Lib.hid (put_room HRR.out h0 HF.out hm hlt)
          have HTK := Lib.hid (wrs_take t.k m t.kids 0 q hlt)
          have HKF := Lib.hid (kid_free HF.out hlt)
          have HKS := Lib.hid (kid_size hlt)
          have HV5 := Lib.hid (HV.out.call (wr' := wr.alloc (.cells #[.int .i64 t.kids[q].k, .int .i64 t.kids[q].i, .int .i64 t.kids[q].j, .int .i64 t.kids[q].n, .slice a' t.kids[q].kids.length cap'] 24)) ((Below.refl _ _).alloc (Nat.le_refl _) _)).again
          clear hS hq4 hx
          have hbr := binds_range t.k q
          by_cases hq2 : q = 2
          · have HMD := Lib.hid (show midL t.k (0 + q) m = 32 :: (nameW m ++ 32 :: nameW (m + 1)) from by unfold midL; rw [if_pos ⟨by simpa using e22, by omega⟩])
            have HMR := Lib.hid (show midL t.k q m = 32 :: (nameW m ++ 32 :: nameW (m + 1)) from by unfold midL; rw [if_pos ⟨by simpa using e22, by omega⟩])
            have hqn : ((q : Int) == 2) = true := by simp; omega
            clear hq2
            have HROOM := Lib.hid (by have h := HROOM.out; rw [HMR.out] at h; exact h)
            have HNL := Lib.hid (name_len HFM.out)
            have HNL1 := Lib.hid (name_len HFM1.out)
            go_wp2_with fail
            refine (name_any m _ HFM.out (HV5.out.tab HW.out).pow).mono ?_
            rintro e w5 ⟨rfl, hb5⟩
            have HS5 := Lib.hid (HV5.out.call hb5)
            clear hb5
            go_wp2_with fail
            · exfalso; have := HNL.out; omega
            · exfalso; have := HNL.out; omega
            refine (name_any (m + 1) _ HFM1.out (HS5.out.tab HW.out).pow).mono ?_
            rintro e w5' ⟨rfl, hb5⟩
            have HSA := Lib.hid (HS5.out.call hb5)
            clear hb5
            go_wp2_with fail
            · exfalso; have := HNL.out; have := HNL1.out; omega
            rw [show (⟨#[32]⟩ : ByteArray) = ⟨[(32 : UInt8)].toArray⟩ from rfl, str_add, str_add, str_add]
            refine (bstr_any _ b _ _ _ HSA.out.bld (by have h1 := HROOM.out; have h2 := HBS.out; simp [ByteArray.size, Lib.byteCells] at h1 h2 ⊢; omega) HSA.out.hB).mono ?_
            rintro e w5'' ⟨rfl, hb5, hl5, hk5⟩
            have HSB := Lib.hid (HSA.out.put hb5 hl5 hk5)
            rw [Lib.strCells_toArray] at HSB
            clear hb5 hl5 hk5
            go_wp2_with fail
            refine (bbyte_any _ b _ _ _ HSB.out.bld (by have h1 := HROOM.out; have h2 := HBS.out; simp [Lib.byteCells] at h1 h2 ⊢; omega) HSB.out.hB).mono ?_
            rintro e w6 ⟨rfl, hb6, hl6, hk6⟩
            have HS6 := Lib.hid (HSB.out.put hb6 hl6 hk6)
            clear hb6 hl6 hk6
            have hy := HS6.out.at (alloc_heap_new' wr _) (by have := HBL.out; omega) ut_ne
            have hz := HS6.out.at (j := w.heap.size) (by rw [Lib.alloc_old _ _ _ hsv]; exact HBX3.out) (by have := HBL.out; omega) ut_ne
            have HNE := Lib.hid (show wr.heap.size ≠ b ∧ w.heap.size ≠ b by have := HBL.out; omega)
            have HY := Lib.hid hy
            have HZ := Lib.hid hz
            clear hy hz
            have HS6d := Lib.hid (HS6.out.call (wr' := w6.drew) (Below.refl _ w6).drew)
            have hS0 := kid_keep2 HY.out HZ.out HNE.out (Kept.refl b w6)
            have hwr : IntKind.i64.wrap (m + bindsN t.k (q : Int)) = m + bindsN t.k (q : Int) := IntWalk.i64_in _ (by omega)
            go_wp2_with fail
            refine wp_region_held_drew (S := fun w' => Kept b w6 w' ∧ w'.heap[wr.heap.size]? = some (.cells #[.int .i64 t.kids[q].k, .int .i64 t.kids[q].i, .int .i64 t.kids[q].j, .int .i64 t.kids[q].n, .slice a' t.kids[q].kids.length cap'] 24) ∧ w'.cell? ⟨w.heap.size, 0, none⟩ = some (.int .i64 t.k)) (by kernel_rfl) ?_ (fun hHeld => ?_)
            · (try dsimp only)
              (first | exact hS8 | exact hHeld | exact hS0)
            refine take_at 0 93 o19F_0 (v := ?_) (Or.inl ⟨by rfl, ?_⟩) ?_
            rotate_left 1
            · ((intro w hSw; (try dsimp only at hSw); unfold o19F_0; go_simp) <;> with_reducible rfl)
            (try simp only [Act.put, List.setIfInBounds_toArray, List.set_cons_zero, List.set_cons_succ])
            refine take_at 1 94 o19F_1 (yields_row wr.heap.size _ _ _ #[.int .i64 t.kids[q].k, .int .i64 t.kids[q].i, .int .i64 t.kids[q].j, .int .i64 t.kids[q].n, .slice a' t.kids[q].kids.length cap'] _ du (by rfl) rfl (by rfl) (fun w' h => h.2.1) hu1 (by cases du <;> first | rfl | exact hu2) size_termW) ?_
            (try simp only [Act.put, List.setIfInBounds_toArray, List.set_cons_zero, List.set_cons_succ])
            refine take_at 2 95 o19F_2 (v := ?_) (Or.inl ⟨by rfl, ?_⟩) ?_
            rotate_left 1
            · ((intro w hSw; (try dsimp only at hSw); unfold o19F_2; go_simp) <;> with_reducible rfl)
            (try simp only [Act.put, List.setIfInBounds_toArray, List.set_cons_zero, List.set_cons_succ])
            refine take_at 3 96 o19F_3 (v := ?_) (Or.inl ⟨by rfl, ?_⟩) ?_
            rotate_left 1
            · ((intro w hSw; (try dsimp only at hSw); unfold o19F_3; go_simp) <;> with_reducible rfl)
            (try simp only [Act.put, List.setIfInBounds_toArray, List.set_cons_zero, List.set_cons_succ])
            refine take_at 4 97 o19F_4 (v := ?_) (Or.inl ⟨by rfl, ?_⟩) ?_
            rotate_left 1
            · ((intro w hSw; (try dsimp only at hSw); obtain ⟨hSa, hSb, hSc⟩ := hSw; unfold o19F_4; go_simp) <;> with_reducible rfl)
            (try simp only [Act.put, List.setIfInBounds_toArray, List.set_cons_zero, List.set_cons_succ])
            refine take_at 5 98 o19F_5 (v := ?_) (Or.inl ⟨by rfl, ?_⟩) ?_
            rotate_left 1
            · ((intro w hSw; (try dsimp only at hSw); unfold o19F_5; go_simp) <;> with_reducible rfl)
            (try simp only [Act.put, List.setIfInBounds_toArray, List.set_cons_zero, List.set_cons_succ])
            refine wpAnyH_ready (rs := [6]) (by kernel_rfl) (by simp) ?_
            refine AllReadyH.cons (o := o19F_6) rfl (fun K hK => ?_) ?_
            · unfold o19F_6
              go_simp
              (go_at_call 34; refine (binds_any _ _ _).mono ?_; rintro e w7 ⟨rfl, rfl⟩)
              refine hK.out _ _ ?_ (fun hHeld => ?_)
              · (try dsimp only)
                (first | exact hS8 | exact hHeld | exact hS0)
              clear hK K
              (try simp only [Act.put, List.setIfInBounds_toArray, List.set_cons_zero, List.set_cons_succ])
              refine take_at 7 100 o19F_7 (v := ?_) (Or.inl ⟨by rfl, ?_⟩) ?_
              rotate_left 1
              · ((intro w hSw; (try dsimp only at hSw); unfold o19F_7; go_simp) <;> with_reducible rfl)
              (try simp only [Act.put, List.setIfInBounds_toArray, List.set_cons_zero, List.set_cons_succ])
              refine wpAnyH_ready (rs := [8]) (by kernel_rfl) (by simp) ?_
              refine AllReadyH.cons (o := o19F_8) rfl (fun K hK => ?_) ?_
              · unfold o19F_8
                go_simp
                (go_at_call 19; with_reducible refine Calls.mono ((IH.out _ HM.out).use _ _ _ _ HQ.out HS6d.out.low HS6d.out.bld (HR.out _ HM.out) (by omega) HKF.out (by have := HKS.out; omega) (by have h1 := HROOM.out; have h2 := HBS.out; simp [Lib.byteCells] at h1 h2 ⊢; omega)) ?_; rintro e w8 ⟨rfl, hb8, hl8, hk8⟩)
                have HS8 := Lib.hid (HV.out.over (HS6d.out.put hb8 hl8 hk8))
                have hS8 := kid_keep2 HY.out HZ.out HNE.out hk8
                clear hb8 hl8 hk8 hHeld
                refine hK.out _ _ ?_ (fun hHeld => ?_)
                · (try dsimp only)
                  (first | exact hS8 | exact hHeld | exact hS0)
                clear hK K
                (try simp only [Act.put, List.setIfInBounds_toArray, List.set_cons_zero, List.set_cons_succ])
                refine wpAnyH_done (by kernel_rfl) ?_ _
                go_wp2
                go_roundw
                case rel => exact ⟨q + 1, by omega, by go_num, by have h := HS8.out; rw [HTK.out, HMD.out]; simpa [Lib.byteCells] using h⟩
                case measure => simp [intOf]; omega
              exact AllReadyH.nil
            exact AllReadyH.nil
          · have HMD := Lib.hid (show midL t.k (0 + q) m = [] from if_neg (fun h => by have := h.2; omega))
            have hqn : ((q : Int) == 2) = false := by simp; omega
            go_wp2_with fail
            refine (bbyte_any _ b _ _ _ HV5.out.bld (by have h1 := HROOM.out; have h2 := HBS.out; simp [Lib.byteCells] ; omega) HV5.out.hB).mono ?_
            rintro e w6 ⟨rfl, hb6, hl6, hk6⟩
            have HS6 := Lib.hid (HV5.out.put hb6 hl6 hk6)
            clear hb6 hl6 hk6
            have hy := HS6.out.at (alloc_heap_new' wr _) (by have := HBL.out; omega) ut_ne
            have hz := HS6.out.at (j := w.heap.size) (by rw [Lib.alloc_old _ _ _ hsv]; exact HBX3.out) (by have := HBL.out; omega) ut_ne
            have HNE := Lib.hid (show wr.heap.size ≠ b ∧ w.heap.size ≠ b by have := HBL.out; omega)
            have HY := Lib.hid hy
            have HZ := Lib.hid hz
            clear hy hz
            have HS6d := Lib.hid (HS6.out.call (wr' := w6.drew) (Below.refl _ w6).drew)
            have hS0 := kid_keep2 HY.out HZ.out HNE.out (Kept.refl b w6)
            have hwr : IntKind.i64.wrap (m + bindsN t.k (q : Int)) = m + bindsN t.k (q : Int) := IntWalk.i64_in _ (by omega)
            go_wp2_with fail
            refine wp_region_held_drew (S := fun w' => Kept b w6 w' ∧ w'.heap[wr.heap.size]? = some (.cells #[.int .i64 t.kids[q].k, .int .i64 t.kids[q].i, .int .i64 t.kids[q].j, .int .i64 t.kids[q].n, .slice a' t.kids[q].kids.length cap'] 24) ∧ w'.cell? ⟨w.heap.size, 0, none⟩ = some (.int .i64 t.k)) (by kernel_rfl) ?_ (fun hHeld => ?_)
            · (try dsimp only)
              (first | exact hS8 | exact hHeld | exact hS0)
            refine take_at 0 93 o19F_0 (v := ?_) (Or.inl ⟨by rfl, ?_⟩) ?_
            rotate_left 1
            · ((intro w hSw; (try dsimp only at hSw); unfold o19F_0; go_simp) <;> with_reducible rfl)
            (try simp only [Act.put, List.setIfInBounds_toArray, List.set_cons_zero, List.set_cons_succ])
            refine take_at 1 94 o19F_1 (yields_row wr.heap.size _ _ _ #[.int .i64 t.kids[q].k, .int .i64 t.kids[q].i, .int .i64 t.kids[q].j, .int .i64 t.kids[q].n, .slice a' t.kids[q].kids.length cap'] _ du (by rfl) rfl (by rfl) (fun w' h => h.2.1) hu1 (by cases du <;> first | rfl | exact hu2) size_termW) ?_
            (try simp only [Act.put, List.setIfInBounds_toArray, List.set_cons_zero, List.set_cons_succ])
            refine take_at 2 95 o19F_2 (v := ?_) (Or.inl ⟨by rfl, ?_⟩) ?_
            rotate_left 1
            · ((intro w hSw; (try dsimp only at hSw); unfold o19F_2; go_simp) <;> with_reducible rfl)
            (try simp only [Act.put, List.setIfInBounds_toArray, List.set_cons_zero, List.set_cons_succ])
            refine take_at 3 96 o19F_3 (v := ?_) (Or.inl ⟨by rfl, ?_⟩) ?_
            rotate_left 1
            · ((intro w hSw; (try dsimp only at hSw); unfold o19F_3; go_simp) <;> with_reducible rfl)
            (try simp only [Act.put, List.setIfInBounds_toArray, List.set_cons_zero, List.set_cons_succ])
            refine take_at 4 97 o19F_4 (v := ?_) (Or.inl ⟨by rfl, ?_⟩) ?_
            rotate_left 1
            · ((intro w hSw; (try dsimp only at hSw); obtain ⟨hSa, hSb, hSc⟩ := hSw; unfold o19F_4; go_simp) <;> with_reducible rfl)
            (try simp only [Act.put, List.setIfInBounds_toArray, List.set_cons_zero, List.set_cons_succ])
            refine take_at 5 98 o19F_5 (v := ?_) (Or.inl ⟨by rfl, ?_⟩) ?_
            rotate_left 1
            · ((intro w hSw; (try dsimp only at hSw); unfold o19F_5; go_simp) <;> with_reducible rfl)
            (try simp only [Act.put, List.setIfInBounds_toArray, List.set_cons_zero, List.set_cons_succ])
            refine wpAnyH_ready (rs := [6]) (by kernel_rfl) (by simp) ?_
            refine AllReadyH.cons (o := o19F_6) rfl (fun K hK => ?_) ?_
            · unfold o19F_6
              go_simp
              (go_at_call 34; refine (binds_any _ _ _).mono ?_; rintro e w7 ⟨rfl, rfl⟩)
              refine hK.out _ _ ?_ (fun hHeld => ?_)
              · (try dsimp only)
                (first | exact hS8 | exact hHeld | exact hS0)
              clear hK K
              (try simp only [Act.put, List.setIfInBounds_toArray, List.set_cons_zero, List.set_cons_succ])
              refine take_at 7 100 o19F_7 (v := ?_) (Or.inl ⟨by rfl, ?_⟩) ?_
              rotate_left 1
              · ((intro w hSw; (try dsimp only at hSw); unfold o19F_7; go_simp) <;> with_reducible rfl)
              (try simp only [Act.put, List.setIfInBounds_toArray, List.set_cons_zero, List.set_cons_succ])
              refine wpAnyH_ready (rs := [8]) (by kernel_rfl) (by simp) ?_
              refine AllReadyH.cons (o := o19F_8) rfl (fun K hK => ?_) ?_
              · unfold o19F_8
                go_simp
                (go_at_call 19; with_reducible refine Calls.mono ((IH.out _ HM.out).use _ _ _ _ HQ.out HS6d.out.low HS6d.out.bld (HR.out _ HM.out) (by omega) HKF.out (by have := HKS.out; omega) (by have h1 := HROOM.out; have h2 := HBS.out; simp [Lib.byteCells] ; omega)) ?_; rintro e w8 ⟨rfl, hb8, hl8, hk8⟩)
                have HS8 := Lib.hid (HV.out.over (HS6d.out.put hb8 hl8 hk8))
                have hS8 := kid_keep2 HY.out HZ.out HNE.out hk8
                clear hb8 hl8 hk8 hHeld
                refine hK.out _ _ ?_ (fun hHeld => ?_)
                · (try dsimp only)
                  (first | exact hS8 | exact hHeld | exact hS0)
                clear hK K
                (try simp only [Act.put, List.setIfInBounds_toArray, List.set_cons_zero, List.set_cons_succ])
                refine wpAnyH_done (by kernel_rfl) ?_ _
                go_wp2
                go_roundw
                case rel => exact ⟨q + 1, by omega, by go_num, by have h := HS8.out; rw [HTK.out, HMD.out]; simpa [Lib.byteCells] using h⟩
                case measure => simp [intOf]; omega
              exact AllReadyH.nil
            exact AllReadyH.nil
        · obtain rfl : q = t.kids.length := by omega
          go_wp2_with fail
          refine (bbyte_any _ b _ _ _ HV.out.bld (by have := HLN.out; simp [Lib.byteCells]; omega) HV.out.hB).mono ?_
          rintro e w6 ⟨rfl, hb6, hl6, hk6⟩
          have HS6 := Lib.hid (HV.out.put hb6 hl6 hk6)
          have HB6 := Lib.hid hb6
          clear hb6 hl6 hk6
          go_wp2
          go_end0
          exact ⟨rfl, by have h := HB6.out; rw [HX.out]; rw [List.take_length] at h; simpa [Lib.byteCells] using h, HUP.out.trans HS6.out.up, HKP.out.trans HS6.out.kept⟩
end Go.Proofs.YtficmfiekibjgaaDoor

namespace Go.Proofs.YtficmfiekibjgaaDoor
open Go.RowKit

theorem wput_any (w0 : World) (hW : WTab w0) (b : Nat) (t : Tm) : WPut w0 b t := by
  induction t using Tm.ind with
  | h t ih =>
    intro w s bs m hl hlw hB hr h0 hf hm hbs
    have hz := t.size_eq
    have hk := t.node_kind (t.right_node hr)
    by_cases h2 : t.k = 2
    · exact wput_var w0 hW b t w s bs m hlw hB hr h2 h0 hf (by omega) (by omega)
    have e2 : (t.k == 2) = false := by simpa using h2
    have hc : t.k = 1 ∨ t.k = 3 ∨ t.k = 4 ∨ t.k = 5 ∨ t.k = 6 ∨ t.k = 7 ∨ t.k = 8 ∨ t.k = 9 ∨ t.k = 10 ∨ t.k = 11 ∨ t.k = 12 ∨ t.k = 13 ∨ t.k = 14 ∨ t.k = 15 ∨ t.k = 16 ∨ t.k = 17 ∨ t.k = 18 ∨ t.k = 19 ∨ t.k = 20 ∨ t.k = 21 ∨ t.k = 22 ∨ t.k = 23 := by omega
    rcases hc with h | h | h | h | h | h | h | h | h | h | h | h | h | h | h | h | h | h | h | h | h | h
    · exact wput_A w0 hW b t ih e2 (by rw [h]; decide) (by rw [h]; decide) (by rw [h]; decide) (by rw [h]; decide) w s bs m hl hlw hB hr h0 hf hm hbs
    · exact wput_B w0 hW b t ih e2 (by rw [h]; decide) (by rw [h]; decide) (by rw [h]; decide) (by rw [h]; decide) w s bs m hl hlw hB hr h0 hf hm hbs
    · exact wput_B w0 hW b t ih e2 (by rw [h]; decide) (by rw [h]; decide) (by rw [h]; decide) (by rw [h]; decide) w s bs m hl hlw hB hr h0 hf hm hbs
    · exact wput_B w0 hW b t ih e2 (by rw [h]; decide) (by rw [h]; decide) (by rw [h]; decide) (by rw [h]; decide) w s bs m hl hlw hB hr h0 hf hm hbs
    · exact wput_B w0 hW b t ih e2 (by rw [h]; decide) (by rw [h]; decide) (by rw [h]; decide) (by rw [h]; decide) w s bs m hl hlw hB hr h0 hf hm hbs
    · exact wput_B w0 hW b t ih e2 (by rw [h]; decide) (by rw [h]; decide) (by rw [h]; decide) (by rw [h]; decide) w s bs m hl hlw hB hr h0 hf hm hbs
    · exact wput_B w0 hW b t ih e2 (by rw [h]; decide) (by rw [h]; decide) (by rw [h]; decide) (by rw [h]; decide) w s bs m hl hlw hB hr h0 hf hm hbs
    · exact wput_B w0 hW b t ih e2 (by rw [h]; decide) (by rw [h]; decide) (by rw [h]; decide) (by rw [h]; decide) w s bs m hl hlw hB hr h0 hf hm hbs
    · exact wput_A w0 hW b t ih e2 (by rw [h]; decide) (by rw [h]; decide) (by rw [h]; decide) (by rw [h]; decide) w s bs m hl hlw hB hr h0 hf hm hbs
    · exact wput_A w0 hW b t ih e2 (by rw [h]; decide) (by rw [h]; decide) (by rw [h]; decide) (by rw [h]; decide) w s bs m hl hlw hB hr h0 hf hm hbs
    · exact wput_A w0 hW b t ih e2 (by rw [h]; decide) (by rw [h]; decide) (by rw [h]; decide) (by rw [h]; decide) w s bs m hl hlw hB hr h0 hf hm hbs
    · exact wput_D w0 hW b t ih e2 (by rw [h]; decide) (by rw [h]; decide) (by rw [h]; decide) (by rw [h]; decide) w s bs m hl hlw hB hr h0 hf hm hbs
    · exact wput_D w0 hW b t ih e2 (by rw [h]; decide) (by rw [h]; decide) (by rw [h]; decide) (by rw [h]; decide) w s bs m hl hlw hB hr h0 hf hm hbs
    · exact wput_E w0 hW b t ih e2 (by rw [h]; decide) (by rw [h]; decide) (by rw [h]; decide) (by rw [h]; decide) w s bs m hl hlw hB hr h0 hf hm hbs
    · exact wput_D w0 hW b t ih e2 (by rw [h]; decide) (by rw [h]; decide) (by rw [h]; decide) (by rw [h]; decide) w s bs m hl hlw hB hr h0 hf hm hbs
    · exact wput_D w0 hW b t ih e2 (by rw [h]; decide) (by rw [h]; decide) (by rw [h]; decide) (by rw [h]; decide) w s bs m hl hlw hB hr h0 hf hm hbs
    · exact wput_E w0 hW b t ih e2 (by rw [h]; decide) (by rw [h]; decide) (by rw [h]; decide) (by rw [h]; decide) w s bs m hl hlw hB hr h0 hf hm hbs
    · exact wput_E w0 hW b t ih e2 (by rw [h]; decide) (by rw [h]; decide) (by rw [h]; decide) (by rw [h]; decide) w s bs m hl hlw hB hr h0 hf hm hbs
    · exact wput_E w0 hW b t ih e2 (by rw [h]; decide) (by rw [h]; decide) (by rw [h]; decide) (by rw [h]; decide) w s bs m hl hlw hB hr h0 hf hm hbs
    · exact wput_E w0 hW b t ih e2 (by rw [h]; decide) (by rw [h]; decide) (by rw [h]; decide) (by rw [h]; decide) w s bs m hl hlw hB hr h0 hf hm hbs
    · exact wput_F w0 hW b t ih e2 (by rw [h]; decide) (by rw [h]; decide) (by rw [h]; decide) (by rw [h]; decide) w s bs m hl hlw hB hr h0 hf hm hbs
    · exact wput_C w0 hW b t ih e2 (by rw [h]; decide) (by rw [h]; decide) (by rw [h]; decide) (by rw [h]; decide) w s bs m hl hlw hB hr h0 hf hm hbs
end Go.Proofs.YtficmfiekibjgaaDoor

namespace Go.Proofs.YtficmfiekibjgaaDoor
open Go.RowKit

set_option maxHeartbeats 2000000 in
set_option maxRecDepth 100000 in
theorem write_any (t : Tm) (n : Int) (w : World) (s : Value) (hl : Lies w t.kids s) (hW : WTab w) (hz : t.size ≤ 1000000) :
    Calls Tryd.prog 7 #[tv t s, .int .i64 n] w fun e w' => e = .returned (.string ⟨(writeB t n).toArray⟩) ∧ Below w.heap.size w w' := by
  obtain ⟨a, cap, S, hs, -⟩ := hl.out
  subst hs
  have HB := (Below.refl (w.heap.size + 1) (w.alloc (.cells #[.int .i64 t.k, .int .i64 t.i, .int .i64 t.j, .int .i64 t.n, .slice a t.kids.length cap] 24)))
  have HL := Lib.hid (hl.keep (below_of_box HB))
  have HBX := Lib.hid (fun (wr : World) => box_cells (w := w) (wr := wr) (v0 := .int .i64 t.k) (v1 := .int .i64 t.i) (v2 := .int .i64 t.j) (v3 := .int .i64 t.n) (v4 := .slice a t.kids.length cap) (T := 24))
  have HW := Lib.hid hW
  have HB0 := Lib.hid HB
  obtain ⟨d0, d1, d2, d3, d4⟩ := HBX.out _ HB
  clear hl hW HB
  unfold tv
  go_enter Tryd.func7, Tryd.ntmps7
  by_cases h1 : n < 0
  · go_wp2
    go_ret
    exact ⟨by unfold writeB; rw [if_neg (by omega)]; rfl, below_of_box HB0.out⟩
  by_cases h2 : 1000000 < n
  · go_wp2
    go_ret
    exact ⟨by unfold writeB; rw [if_neg (by omega)]; rfl, below_of_box HB0.out⟩
  cases hr : t.rightB
  · go_wp2_with fail
    refine (right_any t _ _ HL.out).mono ?_
    rintro e w1 ⟨rfl, hb1⟩
    rw [hr]
    have HB1 := Lib.hid (below_call HB0.out hb1 (by simp))
    clear hb1
    go_wp2
    go_ret
    exact ⟨by unfold writeB; rw [if_neg (by rw [hr]; simp)]; rfl, below_of_box HB1.out⟩
  go_wp2_with fail
  refine (right_any t _ _ HL.out).mono ?_
  rintro e w1 ⟨rfl, hb1⟩
  rw [hr]
  have HB1 := Lib.hid (below_call HB0.out hb1 (by simp))
  have HL1 := Lib.hid (HL.out.keep hb1)
  clear hb1 d0 d1 d2 d3 d4
  obtain ⟨d0, d1, d2, d3, d4⟩ := HBX.out _ HB1.out
  go_wp2_with fail
  refine (Free_any t _ _ HL1.out).mono ?_
  rintro e w2 ⟨rfl, hb2⟩
  have HB2 := Lib.hid (below_call HB1.out hb2 (by have := HB1.out.size; simpa using this))
  have HL2 := Lib.hid (HL1.out.keep hb2)
  clear hb2 d0 d1 d2 d3 d4
  obtain ⟨d0, d1, d2, d3, d4⟩ := HBX.out _ HB2.out
  have hW2 := Lib.hid (HW.out.later (below_of_box HB2.out))
  by_cases h3 : n < t.freeB
  · go_wp2
    go_ret
    exact ⟨by unfold writeB; rw [if_neg (by omega)]; rfl, below_of_box HB2.out⟩
  have hfn : t.freeN ≤ n := by unfold Tm.freeB at h3; rw [if_pos hr] at h3; omega
  have hlt : w.heap.size < w2.heap.size := by have := HB2.out.size; simp at this; omega
  go_wp2_with fail
  refine ((wput_any w2 hW2.out w2.heap.size t).use _ _ [] n HL2.out ((Below.refl _ w2).alloc (Nat.le_refl _) _) (Lib.fresh_isBuilder _ _ w2) hr (by omega) hfn (by omega) (by simp; omega)).mono ?_
  rintro e w3 ⟨rfl, hb3, hl3, hk3⟩
  have HB3 := Lib.hid hb3
  have HL3 := Lib.hid hl3
  clear hb3 hl3 hk3
  go_wp2_with fail
  refine (btext_any _ _ _ (t.wr n) w3 (by simpa using HB3.out) (wr_some t n)).mono ?_
  rintro e w4 ⟨rfl, hb4⟩
  have HB4 := Lib.hid hb4
  clear hb4
  go_wp2
  go_ret
  exact ⟨by unfold writeB; rw [if_pos ⟨by omega, hr, by omega⟩]; rfl, (below_of_box HB2.out).trans ((((Below.refl _ w2).alloc (Nat.le_refl _) _).trans (HL3.out.trans HB4.out)).mono (by omega))⟩

/-- A row of texts. -/
def sv (x : List UInt8) : Value := .string ⟨x.toArray⟩
def SRow (B : Nat) (w : World) (v : Value) (l : List (List UInt8)) : Prop := w.ownsRow B 9 1 v l.length (l.map sv)
theorem SRow.len {B : Nat} {w : World} {v : Value} {l : List (List UInt8)} (h : SRow B w v l) : ∃ a cap, v = .slice a l.length cap := by
  rcases h.2 with ⟨rfl, h0⟩ | ⟨g, cap, cur, rfl, r⟩
  · exact ⟨none, 0, by rw [h0]⟩
  · exact ⟨_, cap, rfl⟩
theorem SRow.cell {B g : Nat} {w : World} {n cap : Nat} {l : List (List UInt8)} (h : SRow B w (.slice (some ⟨g, 0, none⟩) n cap) l) (i : Nat) (hi : i < l.length) : w.cell? ⟨g, i, none⟩ = some (sv l[i]) := by
  have := h.cells (g := g) rfl i (sv l[i]) (by simp [hi])
  cases i <;> simpa [Addr.add] using this
theorem SRow.keep {B : Nat} {w w' : World} {v : Value} {l : List (List UInt8)} (h : SRow B w v l) (hb : Below w.heap.size w w') : SRow B w' v l := by
  refine ⟨h.1, ?_⟩
  rcases h.2 with h2 | ⟨g, cap, cur, hv, hg, hh, r⟩
  · exact Or.inl h2
  · refine Or.inr ⟨g, cap, cur, hv, hg, ?_, r⟩
    rw [hb.block g ?_]; exact hh
    exact (Array.getElem?_eq_some_iff.1 hh).1
def vnames (n : Nat) : List (List UInt8) := (List.range n).map fun (i : Nat) => nameW (i : Int)
theorem vnames_set (n k : Nat) (h : k < n) : ((vnames k ++ List.replicate (n - k) []).set k (nameW (k : Int))) = vnames (k + 1) ++ List.replicate (n - (k + 1)) [] := by
  have hl : (vnames k).length = k := by simp [vnames]
  rw [List.set_append_right _ _ (by omega), hl, Nat.sub_self, show n - k = (n - (k + 1)) + 1 by omega, List.replicate_succ, List.set_cons_zero]
  unfold vnames
  rw [List.range_succ]; simp
theorem str_info : (Tryd.prog.info? 9).map (fun i => (i.zero, i.size, i.bytes)) = some (some (.string ⟨#[]⟩), 1, 16) := by kernel_rfl

set_option maxHeartbeats 2000000 in
set_option maxRecDepth 100000 in
theorem names_any (n : Int) (w : World) (hW : WTab w) :
    Calls Tryd.prog 13 #[.int .i64 n] w fun e w' => ∃ v, e = .returned v ∧ SRow w.heap.size w' v (if 0 ≤ n ∧ n ≤ 1000000 then vnames n.toNat else []) ∧ Below w.heap.size w w' := by
  have HW := Lib.hid hW
  obtain ⟨i0, hi, hz0, hz1, hz2⟩ := info_parts str_info
  have HI := Lib.hid (And.intro hi (And.intro hz0 (And.intro hz1 hz2)))
  clear hW hi hz0 hz1 hz2
  go_enter Tryd.func13, Tryd.ntmps13
  by_cases h1 : n < 0
  · go_wp2
    go_ret
    exact ⟨_, rfl, by (try rw [if_neg (by omega)]); exact World.ownsRow_nil _ _ _ _, Below.refl _ _⟩
  by_cases h2 : 1000000 < n
  · go_wp2
    go_ret
    exact ⟨_, rfl, by (try rw [if_neg (by omega)]); exact World.ownsRow_nil _ _ _ _, Below.refl _ _⟩
  obtain ⟨m, rfl⟩ : ∃ m : Nat, n = (m : Int) := ⟨n.toNat, by omega⟩
  go_wp2_with (at_make; refine wpList_make_full _ rfl _ _ 32 rfl w.heap.size 9 i0 _ 1 (by kernel_rfl) HI.out.1 HI.out.2.1 HI.out.2.2.1 _ _ _ _ m rfl rfl rfl rfl ?bytes ?max ?base ?next)
  case bytes => rw [HI.out.2.2.2]; omega
  case max => unfold maxLen; omega
  case next =>
  intro w2 hown hgrow
  obtain ⟨g, hg⟩ : ∃ g, w.heap.size = g := ⟨_, rfl⟩
  have HO := Lib.hid (show SRow w.heap.size w2 (.slice (some ⟨g, 0, none⟩) m m) (vnames 0 ++ List.replicate (m - 0) []) from by
    have h := hown
    simp only [toList_madeCells_one] at h
    rw [hg] at h ⊢
    unfold SRow; simpa [vnames, sv] using h)
  have HBG := Lib.hid (show Below w.heap.size w w2 from Below.grown (Below.refl _ w) hgrow (Nat.le_refl _) (by simp))
  rw [hg]
  clear hown hgrow
  go_wp2_with fail
  go_loopw [15] (fun i wr => ∃ k : Nat, k ≤ m ∧ i = .int .i64 k ∧ SRow g wr (.slice (some ⟨g, 0, none⟩) m m) (vnames k ++ List.replicate (m - k) []) ∧ Below g w wr) (fun i _ => m - (intOf i).toNat)
  case atStart => exact ⟨0, Nat.zero_le _, rfl, by rw [← hg]; have h := HO.out; rw [hg]; rw [hg] at h; exact h, by rw [← hg]; exact HBG.out⟩
  case round =>
    obtain ⟨k, hk, rfl, hrow, hbl⟩ := hrel
    have HR := Lib.hid hrow
    have HBL := Lib.hid hbl
    clear hrow hbl
    by_cases hlt : k < m
    · have hlen : (vnames k ++ List.replicate (m - k) []).length = m := by simp [vnames]; omega
      go_wp2_with fail
      refine (name_any (k : Int) _ ⟨by omega, by omega⟩ (HW.out.later (by rw [hg]; exact HBL.out)).pow).mono ?_
      rintro e w3 ⟨rfl, hb3⟩
      have HR3 := Lib.hid (HR.out.keep hb3)
      have HB3 := Lib.hid (HBL.out.trans (hb3.mono (by have := HBL.out.size; omega)))
      have HC := Lib.hid (HR3.out.cell k (by rw [hlen]; exact hlt))
      have hc := HC.out
      have hfz : w3.frozen? ⟨g, k, none⟩ = false := by
        have h := HR3.out; unfold SRow at h; rw [hlen] at h; exact h.frozenAt k
      have HS := Lib.hid (show SRow g (w3.setCell ⟨g, k, none⟩ (.string ⟨(nameW (k : Int)).toArray⟩)) (.slice (some ⟨g, 0, none⟩) m m) (vnames (k + 1) ++ List.replicate (m - (k + 1)) []) from by
        have h := HR3.out; unfold SRow at h; rw [hlen] at h
        have h2 := (h.stored k (sv (nameW (k : Int)))).1
        rw [← List.map_set, vnames_set m k hlt] at h2
        unfold SRow
        rw [show (vnames (k + 1) ++ List.replicate (m - (k + 1)) ([] : List UInt8)).length = m by simp [vnames]; omega]
        exact h2)
      clear hb3
      go_wp2
      go_roundw
      case rel => exact ⟨k + 1, by omega, by go_num, HS.out, HB3.out.setCell (Nat.le_refl _) _⟩
      case measure => simp [intOf]; omega
    · obtain rfl : k = m := by omega
      go_wp2
      go_ret
      exact ⟨_, rfl, by (try rw [if_pos (by omega)]); have h := HR.out; simpa using h, HBL.out⟩
end Go.Proofs.YtficmfiekibjgaaDoor

namespace Go.Proofs.YtficmfiekibjgaaDoor
open Go.RowKit

/-- Terms one behind the other, each with the slice of its kids. -/
def Row (w : World) (b : Nat) : Nat → List (Tm × Value) → Prop
  | _, [] => True
  | o, (t, s) :: r => Node w b o t s ∧ t.fine ∧ Lies w t.kids s ∧ Row w b (o + 5) r

theorem Row.at {w : World} {b : Nat} {ps : List (Tm × Value)} : ∀ {o : Nat}, Row w b o ps → ∀ i (h : i < ps.length), Node w b (o + i * 5) (ps[i]).1 (ps[i]).2 ∧ (ps[i]).1.fine ∧ Lies w (ps[i]).1.kids (ps[i]).2 := by
  induction ps with
  | nil => intro o _ i h; simp at h
  | cons p r ih =>
    intro o hr i h
    cases i with
    | zero => exact ⟨by simpa using hr.1, hr.2.1, hr.2.2.1⟩
    | succ i =>
      have := ih hr.2.2.2 i (by simpa using h)
      rw [show o + 5 + i * 5 = o + (i + 1) * 5 by omega] at this
      simpa using this

theorem Row.lies {w : World} {b o cap : Nat} {ps : List (Tm × Value)} (h : Row w b o ps) (hc : ps.length ≤ cap) (hm : cap ≤ maxLen) : Lies w (ps.map (·.1)) (.slice (some ⟨b, o, none⟩) ps.length cap) := by
  have := Lies.mk (w := w) (ps.map (·.1)) (some ⟨b, o, none⟩) cap (fun i => (ps[i]?.map (·.2)).getD (.slice none 0 0)) (by simpa using hc) hm
    (fun x hx => by
      obtain ⟨p, hp, rfl⟩ := List.mem_map.1 hx
      obtain ⟨i, hi, rfl⟩ := List.getElem_of_mem hp
      exact (h.at i hi).2.1)
    (fun i hi => by
      have hi' : i < ps.length := by simpa using hi
      refine ⟨b, o, rfl, ?_⟩
      simp only [List.getElem_map, List.getElem?_eq_getElem hi', Option.map_some, Option.getD_some]
      exact (h.at i hi').1)
    (fun i hi => by
      have hi' : i < ps.length := by simpa using hi
      simp only [List.getElem_map, List.getElem?_eq_getElem hi', Option.map_some, Option.getD_some]
      exact (h.at i hi').2.2)
  simpa using this

theorem lies_nil (w : World) : Lies w [] (.slice none 0 0) := .mk [] none 0 (fun _ => .nilIface) (Nat.le_refl _) (by decide) (fun _ h => by cases h) (fun _ h => by cases h) (fun _ h => by cases h)

end Go.Proofs.YtficmfiekibjgaaDoor

namespace Go.Proofs.YtficmfiekibjgaaDoor
open Go.RowKit

theorem heapX3 (w : World) (a b c : Obj) : (((w.alloc a).alloc b).alloc c).heap[w.heap.size]? = some a ∧ (((w.alloc a).alloc b).alloc c).heap[w.heap.size + 1]? = some b ∧ (((w.alloc a).alloc b).alloc c).heap[w.heap.size + 2]? = some c := by
  refine ⟨?_, ?_, ?_⟩
  · rw [Lib.alloc_old _ _ _ (by simp; omega), Lib.alloc_old _ _ _ (by simp)]; exact alloc_heap_new' w a
  · rw [Lib.alloc_old _ _ _ (by simp)]; have h := alloc_heap_new' (w.alloc a) b; rw [World.size_alloc] at h; exact h
  · have h := alloc_heap_new' ((w.alloc a).alloc b) c; rw [World.size_alloc, World.size_alloc] at h; exact h
def wakeX : Tm := .mk 14 0 0 0 [.mk 1 4 0 0 [], .mk 15 0 0 0 [.mk 2 0 0 0 [], .mk 2 1 0 0 []]]
def wakeXw (w : World) : World := ((w.alloc (.cells #[.int .i64 2, .int .i64 0, .int .i64 0, .int .i64 0, .slice none 0 0, .int .i64 2, .int .i64 1, .int .i64 0, .int .i64 0, .slice none 0 0] 24)).alloc (.cells #[.int .i64 1, .int .i64 4, .int .i64 0, .int .i64 0, .slice none 0 0, .int .i64 15, .int .i64 0, .int .i64 0, .int .i64 0, .slice (some ⟨w.heap.size, 0, none⟩) 2 2] 24)).alloc (.cells #[.int .i64 14, .int .i64 0, .int .i64 0, .int .i64 0, .slice (some ⟨w.heap.size + 1, 0, none⟩) 2 2] 24)
theorem wakeX_heap (w : World) : (wakeXw w).heap[w.heap.size]? = some (.cells #[.int .i64 2, .int .i64 0, .int .i64 0, .int .i64 0, .slice none 0 0, .int .i64 2, .int .i64 1, .int .i64 0, .int .i64 0, .slice none 0 0] 24) ∧ (wakeXw w).heap[w.heap.size + 1]? = some (.cells #[.int .i64 1, .int .i64 4, .int .i64 0, .int .i64 0, .slice none 0 0, .int .i64 15, .int .i64 0, .int .i64 0, .int .i64 0, .slice (some ⟨w.heap.size, 0, none⟩) 2 2] 24) ∧ (wakeXw w).heap[w.heap.size + 2]? = some (.cells #[.int .i64 14, .int .i64 0, .int .i64 0, .int .i64 0, .slice (some ⟨w.heap.size + 1, 0, none⟩) 2 2] 24) := by
  exact heapX3 w _ _ _
theorem smallX_fine (k i : Int) (l : List Tm) (hk : I64 k) (hi : I64 i) : (Tm.mk k i 0 0 l).fine := ⟨hk, hi, by show I64 0; unfold I64; omega, by show I64 0; unfold I64; omega⟩
theorem smallX_I64 (n : Nat) (h : n < 1000) : I64 (n : Int) := by unfold I64; omega
theorem wakeX_lies (w : World) : Lies (wakeXw w) wakeX.kids (.slice (some ⟨w.heap.size + 1, 0, none⟩) 2 2) := by
  obtain ⟨h0, h1, -⟩ := wakeX_heap w
  have c0 := fun q => Lib.cell_of_heap h0 q
  have c1 := fun q => Lib.cell_of_heap h1 q
  have hin : Lies (wakeXw w) [.mk 2 0 0 0 [], .mk 2 1 0 0 []] (.slice (some ⟨w.heap.size, 0, none⟩) 2 2) :=
    Row.lies (ps := [(.mk 2 0 0 0 [], .slice none 0 0), (.mk 2 1 0 0 [], .slice none 0 0)]) ⟨⟨by rw [c0]; rfl, by rw [c0]; rfl, by rw [c0]; rfl, by rw [c0]; rfl, by rw [c0]; rfl⟩, smallX_fine _ _ _ (smallX_I64 2 (by decide)) (smallX_I64 0 (by decide)), lies_nil _, ⟨by rw [c0]; rfl, by rw [c0]; rfl, by rw [c0]; rfl, by rw [c0]; rfl, by rw [c0]; rfl⟩, smallX_fine _ _ _ (smallX_I64 2 (by decide)) (smallX_I64 1 (by decide)), lies_nil _, trivial⟩ (by decide) (by decide)
  exact Row.lies (ps := [(.mk 1 4 0 0 [], .slice none 0 0), (.mk 15 0 0 0 [.mk 2 0 0 0 [], .mk 2 1 0 0 []], .slice (some ⟨w.heap.size, 0, none⟩) 2 2)]) ⟨⟨by rw [c1]; rfl, by rw [c1]; rfl, by rw [c1]; rfl, by rw [c1]; rfl, by rw [c1]; rfl⟩, smallX_fine _ _ _ (smallX_I64 1 (by decide)) (smallX_I64 4 (by decide)), lies_nil _, ⟨by rw [c1]; rfl, by rw [c1]; rfl, by rw [c1]; rfl, by rw [c1]; rfl, by rw [c1]; rfl⟩, smallX_fine _ _ _ (smallX_I64 15 (by decide)) (smallX_I64 0 (by decide)), hin, trivial⟩ (Nat.le_refl 2) (by decide)
theorem wakeX_below (w : World) : Below w.heap.size w (wakeXw w) := (((Below.refl _ w).alloc (Nat.le_refl _) _).alloc (by simp) _).alloc (by simp; omega) _
theorem wakeX_one : writeB wakeX 1 = [40, 76, 97, 109, 32, 118, 49, 32, 40, 115, 111, 114, 116, 32, 52, 41, 32, 40, 65, 112, 112, 32, 118, 49, 32, 118, 48, 41, 41] := by decide +kernel
theorem wakeX_none : writeB wakeX 0 = [] := by decide +kernel
theorem vnames_two : (if (0 : Int) ≤ 2 ∧ (2 : Int) ≤ 1000000 then vnames (2 : Int).toNat else []) = [[118, 48], [118, 49]] := by decide +kernel

set_option maxRecDepth 20000 in
set_option maxHeartbeats 2000000 in
theorem wakes10_any (w : World) (hW : WTab w) : Calls Tryd.prog 9 #[] w fun e w' => e = .returned (.bool true) ∧ Below w.heap.size w w' := by
  obtain ⟨h0, h1, h2⟩ := wakeX_heap w
  have HW := Lib.hid (hW.later (wakeX_below w))
  have HL := Lib.hid (wakeX_lies w)
  have HB0 := Lib.hid (wakeX_below w)
  have hsw : (wakeXw w).heap.size = w.heap.size + 3 := by simp [wakeXw]
  have H2 := Lib.hid h2
  have HSW := Lib.hid hsw
  clear h0 h1 h2 hsw hW
  go_enter Tryd.func9, Tryd.ntmps9
  go_wp2_with fail
  refine (names_any 2 (wakeXw w) HW.out).mono ?_
  rintro e w1 ⟨v1, rfl, hrow, hb1⟩
  rw [vnames_two] at hrow
  obtain ⟨g, cap, rfl⟩ : ∃ g cap, v1 = .slice (some ⟨g, 0, none⟩) 2 cap := by
    rcases hrow.2 with ⟨_, h0⟩ | ⟨g, cap, cur, hv, _⟩
    · cases h0
    · exact ⟨g, cap, hv⟩
  have HR := Lib.hid hrow
  have HB1 := Lib.hid (HB0.out.trans (hb1.mono (by rw [HSW.out]; omega)))
  have HL1 := Lib.hid (HL.out.keep hb1)
  have HW1 := Lib.hid (HW.out.later hb1)
  have hx1 := (hb1.block (w.heap.size + 2) (by rw [HSW.out]; omega)).trans H2.out
  have hz1 : w.heap.size + 1 + 1 < w1.heap.size := by have := hb1.size; rw [HSW.out] at this; omega
  have HX1 := Lib.hid hx1
  have d0 : w1.cell? ⟨w.heap.size + 1 + 1, 0, none⟩ = some (.int .i64 14) := by rw [Lib.cell_of_heap hx1]; rfl
  have d1 : w1.cell? ⟨w.heap.size + 1 + 1, 1, none⟩ = some (.int .i64 0) := by rw [Lib.cell_of_heap hx1]; rfl
  have d2 : w1.cell? ⟨w.heap.size + 1 + 1, 2, none⟩ = some (.int .i64 0) := by rw [Lib.cell_of_heap hx1]; rfl
  have d3 : w1.cell? ⟨w.heap.size + 1 + 1, 3, none⟩ = some (.int .i64 0) := by rw [Lib.cell_of_heap hx1]; rfl
  have d4 : w1.cell? ⟨w.heap.size + 1 + 1, 4, none⟩ = some (.slice (some ⟨w.heap.size + 1, 0, none⟩) 2 2) := by rw [Lib.cell_of_heap hx1]; rfl
  clear hrow hb1 hx1
  go_wp2_with fail
  refine (write_any wakeX 1 w1 _ HL1.out HW1.out (by decide +kernel)).mono ?_
  rintro e w2 ⟨rfl, hb2⟩
  rw [wakeX_one]
  have HR2 := Lib.hid (HR.out.keep hb2)
  have HB2 := Lib.hid (HB1.out.trans (hb2.mono (by omega)))
  have HL2 := Lib.hid (HL1.out.keep hb2)
  have HW2 := Lib.hid (HW1.out.later hb2)
  have hx2 := (hb2.block (w.heap.size + 2) (by omega)).trans HX1.out
  clear d0 d1 d2 d3 d4 hb2
  have d0 : w2.cell? ⟨w.heap.size + 1 + 1, 0, none⟩ = some (.int .i64 14) := by rw [Lib.cell_of_heap hx2]; rfl
  have d1 : w2.cell? ⟨w.heap.size + 1 + 1, 1, none⟩ = some (.int .i64 0) := by rw [Lib.cell_of_heap hx2]; rfl
  have d2 : w2.cell? ⟨w.heap.size + 1 + 1, 2, none⟩ = some (.int .i64 0) := by rw [Lib.cell_of_heap hx2]; rfl
  have d3 : w2.cell? ⟨w.heap.size + 1 + 1, 3, none⟩ = some (.int .i64 0) := by rw [Lib.cell_of_heap hx2]; rfl
  have d4 : w2.cell? ⟨w.heap.size + 1 + 1, 4, none⟩ = some (.slice (some ⟨w.heap.size + 1, 0, none⟩) 2 2) := by rw [Lib.cell_of_heap hx2]; rfl
  clear hx2
  go_wp2_with fail
  refine (write_any wakeX 0 w2 _ HL2.out HW2.out (by decide +kernel)).mono ?_
  rintro e w3 ⟨rfl, hb3⟩
  rw [wakeX_none]
  have hr3 := HR2.out.keep hb3
  have HB3 := Lib.hid (HB2.out.trans (hb3.mono (by have := HB2.out.size; omega)))
  have e1 : w3.cell? ⟨g, 1, none⟩ = some (.string ⟨#[118, 49]⟩) := hr3.cell 1 (by decide)
  clear hb3 hr3 d0 d1 d2 d3 d4
  go_wp2
  go_ret
  exact ⟨rfl, HB3.out⟩
end Go.Proofs.YtficmfiekibjgaaDoor

namespace Go.Proofs.YtficmfiekibjgaaDoor
open Go.RowKit

set_option maxHeartbeats 1000000 in
theorem terms_of (l : List Tm) (ih : ∀ x ∈ l, ∀ (y : Tm) (w : World) (s r : Value), Lies w x.kids s → Lies w y.kids r → Calls Tryd.prog 12 #[tv x s, tv y r] w fun e w' => e = .returned (.bool (sameB x y)) ∧ Below w.heap.size w w')
    (m : List Tm) (w : World) (s r : Value) (hl : Lies w l s) (hm : Lies w m r) : Calls Tryd.prog 25 #[s, r] w fun e w' => e = .returned (.bool (samesB l m)) ∧ Below w.heap.size w w' := by
  obtain ⟨a, cap, S, rfl, hc, hmx, -, hn, hk⟩ := hl.out
  obtain ⟨a2, cap2, S2, rfl, hc2, hmx2, -, hn2, hk2⟩ := hm.out
  unfold maxLen at hmx hmx2
  have IH := Lib.hid ih
  have HN := Lib.hid hn
  have HK := Lib.hid hk
  have HN2 := Lib.hid hn2
  have HK2 := Lib.hid hk2
  clear ih hn hk hn2 hk2 hl hm
  by_cases hlen : l.length = m.length
  rotate_left
  · have h1 : ((l.length : Int) == (m.length : Int)) = false := by simp; omega
    have h2 : ((l.length : Int) != (m.length : Int)) = true := by simp; omega
    have HS := Lib.hid (sames_ne hlen)
    clear hlen
    go_enter Tryd.func25, Tryd.ntmps25
    go_wp2
    go_ret
    exact ⟨ret_bool HS.out.symm, Below.refl _ _⟩
  have h1 : ((l.length : Int) == (m.length : Int)) = true := by simp; omega
  have h2 : ((l.length : Int) != (m.length : Int)) = false := by simp; omega
  have HL := Lib.hid hlen
  clear hlen
  go_enter Tryd.func25, Tryd.ntmps25
  go_wp2
  go_loopw [5] (fun iv wr => ∃ k : Nat, k ≤ l.length ∧ iv = .int .i64 k ∧ Hid (samesB (l.take k) (m.take k) = true) ∧ Below w.heap.size w wr) (fun iv _ => l.length - (intOf iv).toNat)
  case atStart => exact ⟨0, Nat.zero_le _, rfl, by simp [Hid, samesB], Below.refl _ _⟩
  case round =>
    obtain ⟨k, hk, rfl, hgood, hb⟩ := hrel
    by_cases hlt : k < l.length
    · have hlt2 : k < m.length := by have := HL.out; omega
      obtain ⟨b, o, rfl, hx⟩ := HN.out k hlt
      obtain ⟨b2, o2, rfl, hx2⟩ := HN2.out k hlt2
      obtain ⟨c0, c1, c2, c3, c4⟩ := hx.below hb hx.lt
      obtain ⟨e0, e1, e2, e3, e4⟩ := hx2.below hb hx2.lt
      have hq := (HK.out k hlt).keep hb
      have hq2 := (HK2.out k hlt2).keep hb
      obtain ⟨a', cap', S', hS, -⟩ := hq.out
      obtain ⟨a2', cap2', S2', hS2, -⟩ := hq2.out
      rw [hS] at c4 hq
      rw [hS2] at e4 hq2
      have HQ := Lib.hid hq
      have HQ2 := Lib.hid hq2
      have HM := Lib.hid (List.getElem_mem hlt)
      have HT := Lib.hid (sames_take l m k hlt hlt2)
      have HO := Lib.hid (sames_of l m k hlt hlt2)
      clear hS hS2 hq hq2
      go_wp2
      go_region_with (go_at_call 12; refine (IH.out _ HM.out _ _ _ _ (HQ.out.keep (Below.refl _ _).drew) (HQ2.out.keep (Below.refl _ _).drew)).mono ?_; rintro e wn ⟨rfl, hb'⟩; have HB3 := below_call hb.drew hb' hb.size; clear hb')
      all_goals
        cases hs : sameB l[k] m[k]
        · go_wp2
          go_ret
          exact ⟨ret_bool (HO.out hs).symm, HB3⟩
        · go_wp2
          go_roundw
          case rel => exact ⟨k + 1, by omega, by go_num, by show _ = true; rw [HT.out, hgood.out, hs]; rfl, HB3⟩
          case measure => simp [intOf]; omega
    · have : k = l.length := by omega
      subst this
      go_wp2
      go_ret
      exact ⟨ret_bool (by have hg := hgood.out; rw [List.take_length, HL.out, List.take_length] at hg; exact hg.symm), hb⟩

set_option maxHeartbeats 1000000 in
theorem keepsame_any (t : Tm) : ∀ (u : Tm) (w : World) (s r : Value), Lies w t.kids s → Lies w u.kids r → Calls Tryd.prog 12 #[tv t s, tv u r] w fun e w' => e = .returned (.bool (sameB t u)) ∧ Below w.heap.size w w' := by
  induction t using Tm.ind with
  | h t ih =>
    intro u w s r hl hm
    obtain ⟨a, cap, S, rfl, -⟩ := hl.out
    obtain ⟨a2, cap2, S2, rfl, -⟩ := hm.out
    have HTM := Lib.hid (terms_of t.kids ih)
    have HE := Lib.hid (sameB_eq t u)
    have HL := Lib.hid hl
    have HM := Lib.hid hm
    have H0 := held2_start w t (.slice a t.kids.length cap) u (.slice a2 u.kids.length cap2)
    clear hl hm ih
    unfold tv
    cases ek : (t.k == u.k)
    · go_enter Tryd.func12, Tryd.ntmps12
      go_wp2
      go_ret
      exact ⟨ret_bool (by rw [HE.out]; simp only [ek, Bool.false_and]), held2_below H0⟩
    cases ei : (t.i == u.i)
    · go_enter Tryd.func12, Tryd.ntmps12
      go_wp2
      go_ret
      exact ⟨ret_bool (by rw [HE.out]; simp only [ek, ei, Bool.false_and, Bool.true_and]), held2_below H0⟩
    cases ej : (t.j == u.j)
    · go_enter Tryd.func12, Tryd.ntmps12
      go_wp2
      go_ret
      exact ⟨ret_bool (by rw [HE.out]; simp only [ek, ei, ej, Bool.false_and, Bool.true_and]), held2_below H0⟩
    cases en : (t.n == u.n)
    · go_enter Tryd.func12, Tryd.ntmps12
      go_wp2
      go_ret
      exact ⟨ret_bool (by rw [HE.out]; simp only [ek, ei, ej, en, Bool.false_and, Bool.true_and]), held2_below H0⟩
    go_enter Tryd.func12, Tryd.ntmps12
    go_wp2_with fail
    refine (HTM.out u.kids _ _ _ (held2_lies H0 HL.out) (held2_lies H0 HM.out)).mono ?_
    rintro e wn ⟨rfl, hb'⟩
    have H1 := held2_call H0 hb'
    clear hb'
    go_wp2
    go_ret
    exact ⟨ret_bool (by rw [HE.out]; simp only [ek, ei, ej, en, Bool.true_and]), held2_below H1⟩
end Go.Proofs.YtficmfiekibjgaaDoor

namespace Go.Proofs.YtficmfiekibjgaaDoor
open Go.RowKit

set_option maxHeartbeats 1000000 in
theorem refnode_any (t : Tm) (w : World) (s : Value) (hl : Lies w t.kids s) : Calls Tryd.prog 40 #[tv t s] w fun e w' => e = .returned (.bool t.nodeB) ∧ Below w.heap.size w w' := by
  obtain ⟨a, cap, S, hs, hc, hm, -⟩ := hl.out
  subst hs
  unfold maxLen at hm
  have HB := (Below.refl (w.heap.size + 1) (w.alloc (.cells #[.int .i64 t.k, .int .i64 t.i, .int .i64 t.j, .int .i64 t.n, .slice a t.kids.length cap] 24)))
  have HBX := Lib.hid (fun (wr : World) => box_cells (w := w) (wr := wr) (v0 := .int .i64 t.k) (v1 := .int .i64 t.i) (v2 := .int .i64 t.j) (v3 := .int .i64 t.n) (v4 := .slice a t.kids.length cap) (T := 24))
  clear hl
  unfold tv
  go_enter Tryd.func40, Tryd.ntmps40
  cases h3 : ((t.kids.length : Int) == kidsN t.k t.n)
  · go_wp2
    go_region_with (go_at_call 46; refine (refkids_any _ _ _).mono ?_; rintro e w1 ⟨rfl, hb1⟩; have HB2 := below_call HB.drew hb1 (by simp); obtain ⟨d0, d1, d2, d3, d4⟩ := HBX.out _ HB2; clear hb1)
    all_goals
      go_wp2
      go_ret
      exact ⟨ret_bool (by simp only [Tm.nodeB, h3, Bool.false_and]), below_of_box HB2⟩
  · go_wp2
    go_region_held3 (fun w' => w'.cell? ⟨w.heap.size, 0, none⟩ = some (.int .i64 t.k) ∧ w'.cell? ⟨w.heap.size, 1, none⟩ = some (.int .i64 t.i) ∧ w'.cell? ⟨w.heap.size, 2, none⟩ = some (.int .i64 t.j) ∧ w'.cell? ⟨w.heap.size, 3, none⟩ = some (.int .i64 t.n) ∧ w'.cell? ⟨w.heap.size, 4, none⟩ = some (.slice a t.kids.length cap)) (go_keep)
      (first | (go_at_call 46; refine (refkids_any _ _ _).mono ?_; rintro e w1 ⟨rfl, hb1⟩; have HB2 := below_call HB.drew hb1 (by simp); obtain ⟨d0, d1, d2, d3, d4⟩ := HBX.out _ HB2; clear hb1) | (go_at_call 47; refine (refnumbers_any t _ _).mono ?_; rintro e w2 ⟨rfl, hb2⟩; have HB3 := below_call HB2 hb2 (by have := HB2.size; simpa using this); obtain ⟨y0, y1, y2, y3, y4⟩ := HBX.out _ HB3; clear hb2))
    go_wp2
    go_ret
    exact ⟨ret_bool (by simp only [Tm.nodeB, h3, Bool.true_and]), below_of_box HB3⟩

set_option maxHeartbeats 1000000 in
theorem refplain_any (t : Tm) : ∀ (w : World) (s : Value), Lies w t.kids s → Calls Tryd.prog 23 #[tv t s] w fun e w' => e = .returned (.bool t.plainB) ∧ Below w.heap.size w w' := by
  induction t using Tm.ind with
  | h t ih =>
    intro w s hl
    obtain ⟨a, cap, S, rfl, hc, hm, hf, hn, hk⟩ := hl.out
    unfold tv
    unfold maxLen at hm
    have HL := Lib.hid ((hl.keep (w' := w.alloc (.cells #[.int .i64 t.k, .int .i64 t.i, .int .i64 t.j, .int .i64 t.n, .slice a t.kids.length cap] 24)) ((Below.refl _ _).alloc (Nat.le_refl _) _)))
    have HP := Lib.hid (t.plainB_eq)
    have IH := Lib.hid ih
    have HN := Lib.hid hn
    have HK := Lib.hid hk
    have HBX := Lib.hid (fun (wr : World) => box_cells (w := w) (wr := wr) (v0 := .int .i64 t.k) (v1 := .int .i64 t.i) (v2 := .int .i64 t.j) (v3 := .int .i64 t.n) (v4 := .slice a t.kids.length cap) (T := 24))
    clear ih hn hk hf hl
    by_cases hkind : t.k = 1 ∨ t.k = 2 ∨ (13 ≤ t.k ∧ t.k ≤ 23)
    rotate_left
    · have h1 : (t.k == 1) = false := by simp; omega
      have h2 : (t.k == 2) = false := by simp; omega
      have h5 : t.plainB = false := by rw [HP.out, h1, h2]; simp; omega
      have H5 := Lib.hid h5
      clear h5
      have h1' : (t.k != 1) = true := by simp; omega
      have h2' : (t.k != 2) = true := by simp; omega
      have h3 : t.k < 13 ∨ 23 < t.k := by omega
      rcases h3 with h3 | h3
      all_goals
        go_enter Tryd.func23, Tryd.ntmps23
        go_wp2
        go_ret
        exact ⟨ret_bool H5.out.symm, (Below.refl _ _).alloc (Nat.le_refl _) _⟩
    have hkb : (t.k == 1 || (t.k == 2 || (decide (13 ≤ t.k) && decide (t.k ≤ 23)))) = true := by simp; omega
    have HP2 : Hid (t.plainB = (t.nodeB && plains t.kids)) := by have := HP.out; rw [hkb, Bool.true_and] at this; exact this
    clear hkb
    have hk3 : t.k = 1 ∨ t.k = 2 ∨ (¬ t.k = 1 ∧ ¬ t.k = 2 ∧ 13 ≤ t.k ∧ t.k ≤ 23) := by omega
    have hb3 : ((t.k != 1) = false) ∨ ((t.k != 1) = true ∧ (t.k != 2) = false) ∨ ((t.k != 1) = true ∧ (t.k != 2) = true ∧ 13 ≤ t.k ∧ t.k ≤ 23) := by
      rcases hk3 with h | h | h
      · left; simp [h]
      · right; left; simp [h]
      · right; right; simp; omega
    clear hk3 hkind
    cases hn : t.nodeB with
    | false =>
      have h5 : t.plainB = false := by rw [HP2.out, hn]; rfl
      have H5 := Lib.hid h5
      have HNN := Lib.hid hn
      clear h5 hn
      rcases hb3 with h1 | ⟨h1, h2⟩ | ⟨h1, h2, h3, h4⟩
      all_goals
        go_enter Tryd.func23, Tryd.ntmps23
        go_wp2_with fail
        refine (refnode_any t _ _ HL.out).mono ?_
        rintro e w1 ⟨rfl, hb'⟩
        have HB2 := below_call (Below.refl (w.heap.size + 1) (w.alloc (.cells #[.int .i64 t.k, .int .i64 t.i, .int .i64 t.j, .int .i64 t.n, .slice a t.kids.length cap] 24))) hb' (by simp)
        obtain ⟨d0, d1, d2, d3, d4⟩ := HBX.out _ HB2
        clear hb'
        rw [HNN.out]
        go_wp2
        go_ret
        exact ⟨ret_bool H5.out.symm, below_of_box HB2⟩
    | true =>
      have HNN := Lib.hid hn
      clear hn
      rcases hb3 with h1 | ⟨h1, h2⟩ | ⟨h1, h2, h3, h4⟩
      all_goals
        go_enter Tryd.func23, Tryd.ntmps23
        go_wp2_with fail
        refine (refnode_any t _ _ HL.out).mono ?_
        rintro e w1 ⟨rfl, hb'⟩
        have HB2 := below_call (Below.refl (w.heap.size + 1) (w.alloc (.cells #[.int .i64 t.k, .int .i64 t.i, .int .i64 t.j, .int .i64 t.n, .slice a t.kids.length cap] 24))) hb' (by simp)
        obtain ⟨d0, d1, d2, d3, d4⟩ := HBX.out _ HB2
        clear hb'
        rw [HNN.out]
        go_wp2_with fail
        go_loopw [3] (fun iv wr => ∃ k : Nat, k ≤ t.kids.length ∧ iv = .int .i64 k ∧ Hid (plains (t.kids.take k) = true) ∧ Below (w.heap.size + 1) (w.alloc (.cells #[.int .i64 t.k, .int .i64 t.i, .int .i64 t.j, .int .i64 t.n, .slice a t.kids.length cap] 24)) wr) (fun iv _ => t.kids.length - (intOf iv).toNat)
        case atStart => exact ⟨0, Nat.zero_le _, rfl, by simp [Hid, plains], HB2⟩
        case round =>
          obtain ⟨k, hk, rfl, hgood, hb⟩ := hrel
          obtain ⟨d0, d1, d2, d3, d4⟩ := HBX.out _ hb
          have hb0 := below_of_box hb
          by_cases hlt : k < t.kids.length
          · obtain ⟨b, o, rfl, hx⟩ := HN.out k hlt
            have hy := hx.below hb0 hx.lt
            obtain ⟨c0, c1, c2, c3, c4⟩ := hy
            have hq := HK.out k hlt
            obtain ⟨a', cap', S', hS, -⟩ := hq.out
            rw [hS] at c4 hq
            have HQ := Lib.hid (hq.keep hb0)
            clear hS hq
            have HM := Lib.hid (List.getElem_mem hlt)
            have HT := Lib.hid (plains_take t.kids k hlt)
            go_wp2_with fail
            refine (IH.out _ HM.out _ _ HQ.out).mono ?_
            rintro e w2 ⟨rfl, hb'⟩
            have HB3 := below_call hb hb' (by have := hb.size; simpa using this)
            obtain ⟨x0, x1, x2, x3, x4⟩ := HBX.out _ HB3
            clear hb' hb d0 d1 d2 d3 d4 hb0 c0 c1 c2 c3 c4
            cases hp : (t.kids[k]).plainB
            · go_wp2
              go_ret
              exact ⟨ret_bool (by rw [HP2.out, plains_of t.kids k hlt hp, Bool.and_false]), below_of_box HB3⟩
            · go_wp2
              go_roundw
              case rel => exact ⟨k + 1, by omega, by go_num, by show _ = true; rw [HT.out, hgood.out, hp]; rfl, HB3⟩
              case measure => simp [intOf]; omega
          · have : k = t.kids.length := by omega
            subst this
            go_wp2
            go_ret
            exact ⟨ret_bool (by have hg := hgood.out; rw [List.take_length] at hg; rw [HP2.out, HNN.out, hg]; rfl), hb0⟩
end Go.Proofs.YtficmfiekibjgaaDoor

namespace Go.Proofs.YtficmfiekibjgaaDoor
open Go.RowKit

set_option maxHeartbeats 1000000 in
theorem refmarked_any (t : Tm) : ∀ (w : World) (s : Value), Lies w t.kids s → Calls Tryd.prog 22 #[tv t s] w fun e w' => e = .returned (.bool t.markedB) ∧ Below w.heap.size w w' := by
  induction t using Tm.ind with
  | h t ih =>
    intro w s hl
    obtain ⟨a, cap, S, rfl, hc, hm, hf, hn, hk⟩ := hl.out
    unfold tv
    unfold maxLen at hm
    have HL := Lib.hid ((hl.keep (w' := w.alloc (.cells #[.int .i64 t.k, .int .i64 t.i, .int .i64 t.j, .int .i64 t.n, .slice a t.kids.length cap] 24)) ((Below.refl _ _).alloc (Nat.le_refl _) _)))
    have HP := Lib.hid (t.markedB_eq)
    have IH := Lib.hid ih
    have HN := Lib.hid hn
    have HK := Lib.hid hk
    have HBX := Lib.hid (fun (wr : World) => box_cells (w := w) (wr := wr) (v0 := .int .i64 t.k) (v1 := .int .i64 t.i) (v2 := .int .i64 t.j) (v3 := .int .i64 t.n) (v4 := .slice a t.kids.length cap) (T := 24))
    clear ih hn hk hf hl
    by_cases h1 : t.k < 1
    · have H5 : Hid (t.markedB = false) := by show _ = _; rw [HP.out]; simp; omega
      go_enter Tryd.func22, Tryd.ntmps22
      go_wp2
      go_ret
      exact ⟨ret_bool H5.out.symm, (Below.refl _ _).alloc (Nat.le_refl _) _⟩
    by_cases h2 : 12 < t.k
    · have H5 : Hid (t.markedB = false) := by show _ = _; rw [HP.out]; simp; omega
      go_enter Tryd.func22, Tryd.ntmps22
      go_wp2
      go_ret
      exact ⟨ret_bool H5.out.symm, (Below.refl _ _).alloc (Nat.le_refl _) _⟩
    have hkb : (decide (1 ≤ t.k) && decide (t.k ≤ 12)) = true := by simp; omega
    have HP2 : Hid (t.markedB = (t.nodeB && markeds (t.k == 12) 0 t.kids)) := by have := HP.out; rw [hkb, Bool.true_and] at this; exact this
    clear hkb
    cases hn : t.nodeB with
    | false =>
      have H5 : Hid (t.markedB = false) := by show _ = _; rw [HP2.out, hn]; rfl
      have HNN := Lib.hid hn
      clear hn
      go_enter Tryd.func22, Tryd.ntmps22
      go_wp2_with fail
      refine (refnode_any t _ _ HL.out).mono ?_
      rintro e w1 ⟨rfl, hb'⟩
      have HB2 := below_call (Below.refl (w.heap.size + 1) (w.alloc (.cells #[.int .i64 t.k, .int .i64 t.i, .int .i64 t.j, .int .i64 t.n, .slice a t.kids.length cap] 24))) hb' (by simp)
      obtain ⟨d0, d1, d2, d3, d4⟩ := HBX.out _ HB2
      clear hb'
      rw [HNN.out]
      go_wp2
      go_ret
      exact ⟨ret_bool H5.out.symm, below_of_box HB2⟩
    | true =>
      have HNN := Lib.hid hn
      clear hn
      go_enter Tryd.func22, Tryd.ntmps22
      go_wp2_with fail
      refine (refnode_any t _ _ HL.out).mono ?_
      rintro e w1 ⟨rfl, hb'⟩
      have HB2 := below_call (Below.refl (w.heap.size + 1) (w.alloc (.cells #[.int .i64 t.k, .int .i64 t.i, .int .i64 t.j, .int .i64 t.n, .slice a t.kids.length cap] 24))) hb' (by simp)
      obtain ⟨d0, d1, d2, d3, d4⟩ := HBX.out _ HB2
      clear hb'
      rw [HNN.out]
      go_wp2_with fail
      go_loopw [3] (fun iv wr => ∃ k : Nat, k ≤ t.kids.length ∧ iv = .int .i64 k ∧ Hid (markeds (t.k == 12) 0 (t.kids.take k) = true) ∧ Below (w.heap.size + 1) (w.alloc (.cells #[.int .i64 t.k, .int .i64 t.i, .int .i64 t.j, .int .i64 t.n, .slice a t.kids.length cap] 24)) wr) (fun iv _ => t.kids.length - (intOf iv).toNat)
      case atStart => exact ⟨0, Nat.zero_le _, rfl, by simp [Hid, markeds], HB2⟩
      case round =>
        obtain ⟨k, hk, rfl, hgood, hb⟩ := hrel
        obtain ⟨d0, d1, d2, d3, d4⟩ := HBX.out _ hb
        have hb0 := below_of_box hb
        by_cases hlt : k < t.kids.length
        · obtain ⟨b, o, rfl, hx⟩ := HN.out k hlt
          have hy := hx.below hb0 hx.lt
          obtain ⟨c0, c1, c2, c3, c4⟩ := hy
          have hq := HK.out k hlt
          obtain ⟨a', cap', S', hS, -⟩ := hq.out
          rw [hS] at c4 hq
          have HQ := Lib.hid (hq.keep hb0)
          clear hS hq
          have HM := Lib.hid (List.getElem_mem hlt)
          have HT := Lib.hid (markeds_take (t.k == 12) t.kids 0 k hlt)
          cases e12 : (t.k == 12) <;> cases e2 : ((k : Int) == 2)
          rotate_right
          · have e2' : (k == 2) = ((k : Int) == 2) := by rw [e2]; simp at e2 ⊢; omega
            have hkB : (t.kids[k]).kidB (t.k == 12) k = (t.kids[k]).plainB := by simp [Tm.kidB, e12, e2', e2]
            have HKB := Lib.hid hkB
            clear e2' hkB
            go_wp2_with fail
            refine (refplain_any _ _ _ HQ.out).mono ?_
            rintro e w2 ⟨rfl, hb'⟩
            have HB3 := below_call hb hb' (by have := hb.size; simpa using this)
            obtain ⟨x0, x1, x2, x3, x4⟩ := HBX.out _ HB3
            clear hb' hb d0 d1 d2 d3 d4 hb0 c0 c1 c2 c3 c4
            cases hp : (t.kids[k]).plainB
            · go_wp2
              go_ret
              exact ⟨ret_bool (by rw [HP2.out, markeds_of _ t.kids 0 k hlt (by rw [Nat.zero_add, HKB.out]; exact hp), Bool.and_false]), below_of_box HB3⟩
            · go_wp2
              go_roundw
              case rel => exact ⟨k + 1, by omega, by go_num, by have h1 := HT.out; rw [hgood.out, Nat.zero_add, HKB.out, hp] at h1; show _ = true; first | exact h1 | (rw [e12] at h1; exact h1), HB3⟩
              case measure => simp [intOf]; omega
          all_goals
            have e2' : (k == 2) = ((k : Int) == 2) := by rw [e2]; simp at e2 ⊢; omega
            have hkB : (t.kids[k]).kidB (t.k == 12) k = (t.kids[k]).markedB := by simp [Tm.kidB, e12, e2', e2]
            have HKB := Lib.hid hkB
            clear e2' hkB
            go_wp2_with fail
            refine (IH.out _ HM.out _ _ HQ.out).mono ?_
            rintro e w2 ⟨rfl, hb'⟩
            have HB3 := below_call hb hb' (by have := hb.size; simpa using this)
            obtain ⟨x0, x1, x2, x3, x4⟩ := HBX.out _ HB3
            clear hb' hb d0 d1 d2 d3 d4 hb0 c0 c1 c2 c3 c4
            cases hp : (t.kids[k]).markedB
            · go_wp2
              go_ret
              exact ⟨ret_bool (by rw [HP2.out, markeds_of _ t.kids 0 k hlt (by rw [Nat.zero_add, HKB.out]; exact hp), Bool.and_false]), below_of_box HB3⟩
            · go_wp2
              go_roundw
              case rel => exact ⟨k + 1, by omega, by go_num, by have h1 := HT.out; rw [hgood.out, Nat.zero_add, HKB.out, hp] at h1; show _ = true; first | exact h1 | (rw [e12] at h1; exact h1), HB3⟩
              case measure => simp [intOf]; omega
        · have : k = t.kids.length := by omega
          subst this
          go_wp2
          go_ret
          exact ⟨ret_bool (by have hg := hgood.out; rw [List.take_length] at hg; rw [HP2.out, HNN.out, hg]; rfl), hb0⟩
end Go.Proofs.YtficmfiekibjgaaDoor

namespace Go.Proofs.YtficmfiekibjgaaDoor
open Go.RowKit

set_option maxHeartbeats 800000 in
theorem refright_any (t : Tm) (w : World) (s : Value) (hl : Lies w t.kids s) : Calls Tryd.prog 10 #[tv t s] w fun e w' => e = .returned (.bool t.rightB) ∧ Below w.heap.size w w' := by
  obtain ⟨a, cap, S, hs, -⟩ := hl.out
  subst hs
  have HB := (Below.refl (w.heap.size + 1) (w.alloc (.cells #[.int .i64 t.k, .int .i64 t.i, .int .i64 t.j, .int .i64 t.n, .slice a t.kids.length cap] 24)))
  have HL := Lib.hid (hl.keep (below_of_box HB))
  have HBX := Lib.hid (fun (wr : World) => box_cells (w := w) (wr := wr) (v0 := .int .i64 t.k) (v1 := .int .i64 t.i) (v2 := .int .i64 t.j) (v3 := .int .i64 t.n) (v4 := .slice a t.kids.length cap) (T := 24))
  have hl0 := Lib.hid hl
  clear hl
  unfold tv
  go_enter Tryd.func10, Tryd.ntmps10
  go_wp2_with fail
  refine (refmarked_any t _ _ HL.out).mono ?_
  rintro e w' ⟨rfl, hb'⟩
  have HB2 := below_call HB hb' (by simp)
  obtain ⟨d0, d1, d2, d3, d4⟩ := HBX.out _ HB2
  clear hb'
  have HL2 := Lib.hid (hl0.out.keep (below_of_box HB2))
  cases hm : t.markedB
  · go_wp2_with fail
    refine (refplain_any t _ _ HL2.out).mono ?_
    rintro e w2 ⟨rfl, hb'⟩
    have HB3 := below_call HB2 hb' (by have := HB2.size; simpa using this)
    clear hb'
    go_wp2
    go_ret
    exact ⟨ret_bool (by simp [Tm.rightB, hm]), below_of_box HB3⟩
  · go_wp2
    go_ret
    exact ⟨ret_bool (by simp [Tm.rightB, hm]), below_of_box HB2⟩

set_option maxHeartbeats 800000 in
theorem refFree_any (t : Tm) (w : World) (s : Value) (hl : Lies w t.kids s) : Calls Tryd.prog 11 #[tv t s] w fun e w' => e = .returned (.int .i64 t.freeB) ∧ Below w.heap.size w w' := by
  obtain ⟨a, cap, S, hs, -⟩ := hl.out
  subst hs
  have HB := (Below.refl (w.heap.size + 1) (w.alloc (.cells #[.int .i64 t.k, .int .i64 t.i, .int .i64 t.j, .int .i64 t.n, .slice a t.kids.length cap] 24)))
  have HL := Lib.hid (hl.keep (below_of_box HB))
  have HBX := Lib.hid (fun (wr : World) => box_cells (w := w) (wr := wr) (v0 := .int .i64 t.k) (v1 := .int .i64 t.i) (v2 := .int .i64 t.j) (v3 := .int .i64 t.n) (v4 := .slice a t.kids.length cap) (T := 24))
  have hl0 := Lib.hid hl
  clear hl
  unfold tv
  go_enter Tryd.func11, Tryd.ntmps11
  go_wp2_with fail
  refine (refright_any t _ _ HL.out).mono ?_
  rintro e w' ⟨rfl, hb'⟩
  have HB2 := below_call HB hb' (by simp)
  obtain ⟨d0, d1, d2, d3, d4⟩ := HBX.out _ HB2
  clear hb'
  have HL2 := Lib.hid (hl0.out.keep (below_of_box HB2))
  cases hr : t.rightB
  · go_wp2
    go_ret
    exact ⟨ret_int (by simp [Tm.freeB, hr]), below_of_box HB2⟩
  · go_wp2_with fail
    refine (reffree_any t _ _ HL2.out hr).mono ?_
    rintro e w2 ⟨rfl, hb'⟩
    have HB3 := below_call HB2 hb' (by have := HB2.size; simpa using this)
    clear hb'
    go_wp2
    go_ret
    exact ⟨ret_int (by simp [Tm.freeB, hr]), below_of_box HB3⟩

end Go.Proofs.YtficmfiekibjgaaDoor

namespace Go.Proofs.YtficmfiekibjgaaDoor
open Go.RowKit Go.Sort

set_option maxRecDepth 20000 in
set_option maxHeartbeats 4000000 in
theorem writeUnlike_any (t u : Tm) (n : Int) (w : World) (s r : Value) (hl : Lies w t.kids s) (hm : Lies w u.kids r) (hW : WTab w) : Calls Tryd.prog 4 #[tv t s, tv u r, .int .i64 n] w fun e w' => e = .returned (.bool true) ∧ Below w.heap.size w w' := by
  obtain ⟨a, cap, S, rfl, hc, hmx, -, hn, hk⟩ := hl.out
  obtain ⟨a2, cap2, S2, rfl, hc2, hmx2, -, hn2, hk2⟩ := hm.out
  unfold maxLen at hmx hmx2
  unfold tv
  have HL := Lib.hid hl
  have HM := Lib.hid hm
  have HW := Lib.hid hW
  clear hl hm hn hk hn2 hk2 hW
  go_enter Tryd.func4, Tryd.ntmps4
  have H0 := held2_start w t (.slice a t.kids.length cap) u (.slice a2 u.kids.length cap2)
  obtain ⟨d0, d1, d2, d3, d4, e0, e1, e2, e3, e4⟩ := held2_cells H0
  go_wp2_with fail
  refine (great_any t _ _ _ (held2_lies H0 HL.out) (by omega) (by omega)).mono ?_
  rintro e w1 ⟨g, rfl, hg, hb'⟩
  have H1 := held2_call H0 hb'
  have HG := Lib.hid hg
  clear d0 d1 d2 d3 d4 e0 e1 e2 e3 e4 hg hb'
  obtain ⟨d0, d1, d2, d3, d4, e0, e1, e2, e3, e4⟩ := held2_cells H1
  cases g with
  | true =>
    go_wp2
    go_ret
    exact ⟨rfl, held2_below H1⟩
  | false =>
    have HZ := Lib.hid (HG.out rfl).1
    clear HG
    go_wp2_with fail
    refine (great_any u _ _ _ (held2_lies H1 HM.out) (by omega) (by omega)).mono ?_
    rintro e w2 ⟨g, rfl, hg, hb'⟩
    have H2 := held2_call H1 hb'
    have HG := Lib.hid hg
    clear d0 d1 d2 d3 d4 e0 e1 e2 e3 e4 hg hb'
    obtain ⟨d0, d1, d2, d3, d4, e0, e1, e2, e3, e4⟩ := held2_cells H2
    cases g with
    | true =>
      go_wp2
      go_ret
      exact ⟨rfl, held2_below H2⟩
    | false =>
      have HY := Lib.hid (HG.out rfl).1
      clear HG
      go_wp2_with fail
      cases hr : t.rightB
      · refine (refright_any t _ _ (held2_lies H2 HL.out)).mono ?_
        rintro e w3 ⟨rfl, hb'⟩
        have H3 := held2_call H2 hb'
        clear d0 d1 d2 d3 d4 e0 e1 e2 e3 e4 hb'
        obtain ⟨d0, d1, d2, d3, d4, e0, e1, e2, e3, e4⟩ := held2_cells H3
        rw [hr]
        go_wp2
        go_ret
        exact ⟨rfl, held2_below H3⟩
      refine (refright_any t _ _ (held2_lies H2 HL.out)).mono ?_
      rintro e w3 ⟨rfl, hb'⟩
      have H3 := held2_call H2 hb'
      clear d0 d1 d2 d3 d4 e0 e1 e2 e3 e4 hb'
      obtain ⟨d0, d1, d2, d3, d4, e0, e1, e2, e3, e4⟩ := held2_cells H3
      rw [hr]
      go_wp2_with fail
      cases hr2 : u.rightB
      · refine (refright_any u _ _ (held2_lies H3 HM.out)).mono ?_
        rintro e w4 ⟨rfl, hb'⟩
        have H4 := held2_call H3 hb'
        clear d0 d1 d2 d3 d4 e0 e1 e2 e3 e4 hb'
        obtain ⟨d0, d1, d2, d3, d4, e0, e1, e2, e3, e4⟩ := held2_cells H4
        rw [hr2]
        go_wp2
        go_ret
        exact ⟨rfl, held2_below H4⟩
      refine (refright_any u _ _ (held2_lies H3 HM.out)).mono ?_
      rintro e w4 ⟨rfl, hb'⟩
      have H4 := held2_call H3 hb'
      clear d0 d1 d2 d3 d4 e0 e1 e2 e3 e4 hb'
      obtain ⟨d0, d1, d2, d3, d4, e0, e1, e2, e3, e4⟩ := held2_cells H4
      rw [hr2]
      go_wp2_with fail
      refine (refFree_any t _ _ (held2_lies H4 HL.out)).mono ?_
      rintro e w5 ⟨rfl, hb'⟩
      have H5 := held2_call H4 hb'
      clear d0 d1 d2 d3 d4 e0 e1 e2 e3 e4 hb'
      obtain ⟨d0, d1, d2, d3, d4, e0, e1, e2, e3, e4⟩ := held2_cells H5
      by_cases hf : n < t.freeB
      · go_wp2
        go_ret
        exact ⟨rfl, held2_below H5⟩
      have fd1 := decide_eq_false hf
      go_wp2_with fail
      refine (refFree_any u _ _ (held2_lies H5 HM.out)).mono ?_
      rintro e w6 ⟨rfl, hb'⟩
      have H6 := held2_call H5 hb'
      clear d0 d1 d2 d3 d4 e0 e1 e2 e3 e4 hb'
      obtain ⟨d0, d1, d2, d3, d4, e0, e1, e2, e3, e4⟩ := held2_cells H6
      by_cases hf2 : n < u.freeB
      · go_wp2
        go_ret
        exact ⟨rfl, held2_below H6⟩
      have fd2 := decide_eq_false hf2
      by_cases hn : 1000000 < n
      · go_wp2
        go_ret
        exact ⟨rfl, held2_below H6⟩
      have fd3 := decide_eq_false hn
      have h0 : 0 ≤ t.freeB := by
        unfold Tm.freeB; rw [if_pos hr, t.freeN_eq]; split
        · rename_i h; have := t.right_var hr h; omega
        · exact frees_nonneg _ _ _
      have he : (writeB t n == writeB u n) = sameB t u := writeB_unlike (by omega) (by omega) hr hr2 (by omega) (by omega)
      have hw6 : WTab w6 := HW.out.later (held2_below H6)
      have cA : ∀ d os, Calls Tryd.prog 7 #[.agg #[.int .i64 t.k, .int .i64 t.i, .int .i64 t.j, .int .i64 t.n, .slice a t.kids.length cap], .int .i64 n] (Go.Sort.grow (redrawn w6 d) os) fun e w'' => e = .returned (.string ⟨(writeB t n).toArray⟩) ∧ ∃ p : Regrown, w'' = Go.Sort.grow (redrawn w6 p.d) p.os := fun d os => Calls.regrown_of (write_any t n _ _ ((held2_lies H6 HL.out).keep (below_regrown w6 d os)) (hw6.later (below_regrown w6 d os)) (by have := HZ.out; omega))
      have cB : ∀ d os, Calls Tryd.prog 7 #[.agg #[.int .i64 u.k, .int .i64 u.i, .int .i64 u.j, .int .i64 u.n, .slice a2 u.kids.length cap2], .int .i64 n] (Go.Sort.grow (redrawn w6 d) os) fun e w'' => e = .returned (.string ⟨(writeB u n).toArray⟩) ∧ ∃ p : Regrown, w'' = Go.Sort.grow (redrawn w6 p.d) p.os := fun d os => Calls.regrown_of (write_any u n _ _ ((held2_lies H6 HM.out).keep (below_regrown w6 d os)) (hw6.later (below_regrown w6 d os)) (by have := HY.out; omega))
      have cS : ∀ d os, Calls Tryd.prog 12 #[.agg #[.int .i64 t.k, .int .i64 t.i, .int .i64 t.j, .int .i64 t.n, .slice a t.kids.length cap], .agg #[.int .i64 u.k, .int .i64 u.i, .int .i64 u.j, .int .i64 u.n, .slice a2 u.kids.length cap2]] (Go.Sort.grow (redrawn w6 d) os) fun e w'' => e = .returned (.bool (sameB t u)) ∧ ∃ p : Regrown, w'' = Go.Sort.grow (redrawn w6 p.d) p.os := fun d os => Calls.regrown_of (keepsame_any t u _ _ _ ((held2_lies H6 HL.out).keep (below_regrown w6 d os)) ((held2_lies H6 HM.out).keep (below_regrown w6 d os)))
      have cW : ∀ d os, Calls Tryd.prog 9 #[] (Go.Sort.grow (redrawn w6 d) os) fun e w'' => e = .returned (.bool true) ∧ ∃ p : Regrown, w'' = Go.Sort.grow (redrawn w6 p.d) p.os := fun d os => Calls.regrown_of (wakes10_any _ (hw6.later (below_regrown w6 d os)))
      have k0 := cell_regrown d0
      have m0 := cell_regrown e0
      have k1 := cell_regrown d1
      have m1 := cell_regrown e1
      have k2 := cell_regrown d2
      have m2 := cell_regrown e2
      have k3 := cell_regrown d3
      have m3 := cell_regrown e3
      have k4 := cell_regrown d4
      have m4 := cell_regrown e4
      clear h0 hr hr2 hw6
      go_wp2_with fail
      refine wp_region_quiet_below (by kernel_rfl) (by kernel_rfl) ?_
      repeat (any_goals (first | go_big_quiet_step (first | with_reducible exact cA _ _ | with_reducible exact cB _ _ | with_reducible exact cS _ _ | with_reducible exact cW _ _) | quiet_step (first | with_reducible exact cA _ _ | with_reducible exact cB _ _ | with_reducible exact cS _ _ | with_reducible exact cW _ _)))
      refine wpQuiet_nil ?_
      intro _ hw'
      obtain ⟨⟨dq, osq⟩, hw''⟩ := hw'
      subst hw''
      have hbq := below_regrown w6 dq osq
      generalize Go.Sort.grow (redrawn w6 dq) osq = w7 at hbq ⊢
      have H7 := held2_call H6 hbq
      go_wp2
      go_ret
      exact ⟨rfl, held2_below H7⟩
end Go.Proofs.YtficmfiekibjgaaDoor

namespace Go.Proofs.YtficmfiekibjgaaDoor
open Go.ChangeShapes Go.WideShapes Go.ChangeAt Go.RowKit

theorem own : ownKnob Tryd.prog.godebug = none := by kernel_rfl
theorem cells_int : Tryd.prog.cellsOf 3 = 1 := by kernel_rfl
theorem cells_kids : Tryd.prog.cellsOf 22 = 1 := by kernel_rfl
theorem cells_term : Tryd.prog.cellsOf 24 = 5 := by kernel_rfl
theorem laidOut : laidOutB Tryd.prog = true := by kernel_rfl

instance instOpenTm : Inhabited (Tm × Value) := ⟨(.mk 0 0 0 0 [], .nilIface)⟩

theorem list5 {α : Type} {l : List α} (h : l.length = 5) : ∃ a b c d e, l = [a, b, c, d, e] := by
  match l, h with
  | [a, b, c, d, e], _ => exact ⟨a, b, c, d, e, rfl⟩

theorem wf_I64 {x : Int} (h : (Lit.int .i64 x).wf = true) : I64 x := by
  simp [Lit.wf] at h
  have hm : IntKind.i64.min = -9223372036854775808 := by decide
  rw [hm] at h
  exact h

set_option maxRecDepth 100000 in
theorem open_term {H : Type} {enc : TypeId × Value → H} {w : World} {base : Nat} {sp : Nat → Bool} {hd : Bool} : ∀ (fuel : Nat) (cs : List Value) (x : DataW H × List MemPlace),
    DataW.trod enc Tryd.prog w base sp hd fuel 24 cs = some x → ∃ (t : Tm) (s : Value), cs = [.int .i64 t.k, .int .i64 t.i, .int .i64 t.j, .int .i64 t.n, s] ∧ t.fine ∧ Lies w t.kids s := by
  intro fuel
  induction fuel using Nat.strongRecOn with
  | _ fuel ih =>
    intro cs x h
    obtain ⟨xs, n, rfl, rfl, hl, hlen, hf⟩ := DataW.trod_struct Tryd.underlying24 h
    rw [cells_term] at hl
    obtain ⟨v0, v1, v2, v3, v4, rfl⟩ := list5 hl
    obtain ⟨y0, y1, y2, y3, y4, rfl⟩ := list5 hlen
    have g0 := hf 0 _ rfl
    have g1 := hf 1 _ rfl
    have g2 := hf 2 _ rfl
    have g3 := hf 3 _ rfl
    have g4 := hf 4 _ rfl
    simp [cells_int, cells_kids] at g0 g1 g2 g3 g4
    obtain ⟨k, e0, -, w0⟩ := DataW.trod_int Tryd.underlying3 g0
    obtain ⟨i, e1, -, w1⟩ := DataW.trod_int Tryd.underlying3 g1
    obtain ⟨j, e2, -, w2⟩ := DataW.trod_int Tryd.underlying3 g2
    obtain ⟨m, e3, -, w3⟩ := DataW.trod_int Tryd.underlying3 g3
    simp at e0 e1 e2 e3
    subst e0 e1 e2 e3
    rcases DataW.trod_slice Tryd.underlying22 g4 with ⟨e4, -⟩ | ⟨a, len, cap, elems, rest, n', rfl, e4, -, hb, hlc, hm, hlen', hel, -, -⟩
    · simp at e4
      subst e4
      exact ⟨.mk k i j m [], _, rfl, ⟨wf_I64 w0, wf_I64 w1, wf_I64 w2, wf_I64 w3⟩, .mk [] none 0 (fun _ => .nilIface) (Nat.le_refl _) (by decide) (fun _ h => by cases h) (fun _ h => by cases h) (fun _ h => by cases h)⟩
    · simp at e4
      subst e4
      have key : ∀ i, i < len → ∃ p : Tm × Value, p.1.fine ∧ Lies w p.1.kids p.2 ∧ ∃ b o, a = ⟨b, o, none⟩ ∧ Node w b (o + i * 5) p.1 p.2 := by
        intro i hi
        have h1 := hel i hi
        rw [cells_term, List.getElem?_eq_getElem (by omega)] at h1
        obtain ⟨cs', h2, h3⟩ := Option.bind_eq_some_iff.1 h1
        obtain ⟨t, s, rfl, hfine, hlies⟩ := ih n' (by omega) _ _ h3
        obtain ⟨-, -, hcell⟩ := World.cells?_some h2
        have hs0 : a.spot = none := by
          have h1 := hel 0 (by omega)
          rw [cells_term, List.getElem?_eq_getElem (by omega)] at h1
          obtain ⟨cs0, h2, -⟩ := Option.bind_eq_some_iff.1 h1
          obtain ⟨-, hl0, hc0⟩ := World.cells?_some h2
          have c0 := hc0 0 (by omega)
          rw [List.getElem?_eq_getElem (by omega)] at c0
          simpa [Addr.add] using World.cell?_spot c0
        obtain ⟨b, o, spot⟩ := a
        simp only at hs0
        subst hs0
        refine ⟨(t, s), hfine, hlies, b, o, rfl, ?_⟩
        have hc : ∀ q, q < 5 → w.cell? ⟨b, o + i * 5 + q, none⟩ = [Value.int .i64 t.k, .int .i64 t.i, .int .i64 t.j, .int .i64 t.n, s][q]? := fun q hq => by
          have := hcell q hq
          rwa [add_plain, add_plain] at this
        exact ⟨hc 0 (by omega), hc 1 (by omega), hc 2 (by omega), hc 3 (by omega), hc 4 (by omega)⟩
      obtain ⟨f, hf'⟩ := Go.Deep.choose_lt (α := Tm × Value) (p := fun i p => p.1.fine ∧ Lies w p.1.kids p.2 ∧ ∃ b o, a = ⟨b, o, none⟩ ∧ Node w b (o + i * 5) p.1 p.2) key
      have hl5 : ((List.range len).map fun i => (f i).1).length = len := by simp
      refine ⟨.mk k i j m ((List.range len).map fun i => (f i).1), _, rfl, ⟨wf_I64 w0, wf_I64 w1, wf_I64 w2, wf_I64 w3⟩, ?_⟩
      have := Lies.mk (w := w) ((List.range len).map fun i => (f i).1) (some a) cap (fun i => (f i).2) (by simpa using hlc) hm
        (fun x hx => by
          obtain ⟨i, hi, rfl⟩ := List.mem_map.1 hx
          exact (hf' i (List.mem_range.1 hi)).1)
        (fun i hi => by
          obtain ⟨b, o, ha, hn⟩ := (hf' i (by simpa using hi)).2.2
          exact ⟨b, o, by rw [ha], by simpa using hn⟩)
        (fun i hi => by simpa using (hf' i (by simpa using hi)).2.1)
      rwa [hl5] at this
set_option maxRecDepth 100000 in
/-- The same for an argument. -/
theorem open_arg {H : Type} {enc : TypeId × Value → H} {W : World} {r : Reach} {b0 base : Nat} {sp : Nat → Bool} {hd : Bool} {v : Value} {d : DataW H} {p : List MemPlace} (hv : Value.okWide Tryd.prog W r b0 24 v)
    (h : DataW.Trod enc Tryd.prog W base sp hd 24 v d p) : ∃ (t : Tm) (s : Value), Lies W t.kids s ∧ v = tv t s := by
  obtain ⟨cs, rfl, hsz⟩ := okWide_struct Tryd.underlying24 hv
  obtain ⟨fuel, hf⟩ := h
  obtain ⟨t, s, hcs, -, hl⟩ := open_term fuel _ _ hf
  refine ⟨t, s, hl, ?_⟩
  have : cs.toList = [.int .i64 t.k, .int .i64 t.i, .int .i64 t.j, .int .i64 t.n, s] := by simpa [Value.cells] using hcs
  rw [show cs = #[.int .i64 t.k, .int .i64 t.i, .int .i64 t.j, .int .i64 t.n, s] from by cases cs; simp_all]

end Go.Proofs.YtficmfiekibjgaaDoor

namespace Go.Proofs.YtficmfiekibjgaaDoor
open Go.ChangeShapes Go.WideShapes Go.ChangeAt Go.WideMaps Go.WideElems Go.RowKit

def laidT : List (String × DataW Unit) := Rows.writeUnlikeRow.laid
theorem door_met (os : Os) (args : Array Value) : laidMetH Tryd.prog laidT ((World.doorLaid Tryd.prog 400 os).forCall (fun _ _ => 0) ⟨#[], args, []⟩).memory :=
  laidMetH_of_parts3 (fuel := 8) (laidMet_of_run' 8 (by kernel_rfl) (by kernel_rfl)) (by kernel_rfl) (by kernel_rfl)
/-- A table of texts as a row lists it. -/
def strData {H : Type} (ss : List (List UInt8)) : DataW H := .agg (ss.map fun s => .lit (.string s))
theorem cells_of_strs {H : Type} {enc : TypeId × Value → H} {P : Program} {w : World} {base : Nat} {sp : Nat → Bool} {held : Bool} {fuel : Nat} {t e : TypeId} {n : Nat} {cs : List Value} {zs : List (List UInt8)} {p : List MemPlace}
    (ht : P.underlying t = some (.array n e)) (he : P.underlying e = some .string) (hce : P.cellsOf e = 1) (hct : P.cellsOf t = n)
    (h : DataW.trod enc P w base sp held fuel t cs = some (strData zs, p)) : cs = zs.map fun z => Value.string ⟨z.toArray⟩ := by
  cases fuel with
  | zero => simp [DataW.trod] at h
  | succ fuel =>
    simp only [DataW.trod, ht, hce, hct, Nat.mul_one] at h
    split at h
    · rename_i hl
      obtain ⟨xs, hm, hx⟩ := Option.map_eq_some_iff.1 h
      have hxs : xs.map (·.1) = zs.map fun z => (DataW.lit (.string z) : DataW H) := by
        have := congrArg Prod.fst hx
        simpa [strData] using this
      have hxl : xs.length = n := by simpa using Lib.mapM_length hm
      have hzl : zs.length = n := by
        have := congrArg List.length hxs
        simp at this
        omega
      apply List.ext_getElem?
      intro i
      by_cases hi : i < n
      · obtain ⟨b, hb, hf⟩ := Lib.mapM_at hm i i (by simp [hi])
        obtain ⟨z, hc, rfl, _⟩ := DataW.trod_string he hf
        have h1 : cs[i]? = some (.string z) := by
          have := congrArg (·[0]?) hc
          simpa [List.getElem?_take, List.getElem?_drop] using this
        have h2 : (xs.map (·.1))[i]? = some (DataW.lit (.string z.data.toList) : DataW H) := by simp [hb]
        rw [hxs] at h2
        simp only [List.getElem?_map, Option.map_eq_some_iff, DataW.lit.injEq, Lit.string.injEq] at h2
        obtain ⟨z', hz', e2⟩ := h2
        rw [h1, List.getElem?_map, hz']
        subst e2
        simp
      · rw [List.getElem?_eq_none (by omega), List.getElem?_eq_none (by simp; omega)]
    · cases h
theorem strIs_of_head {W : World} {name : String} {zs : List (List UInt8)} {rest : List (String × DataW Unit)} {g : Nat} {t e : TypeId} {n : Nat}
    (hg : Tryd.prog.globalNamed name = some g) (hty : (Tryd.prog.globals[g]?).map (·.type) = some t) (ht : Tryd.prog.underlying t = some (.array n e)) (he : Tryd.prog.underlying e = some .string) (hce : Tryd.prog.cellsOf e = 1) (hct : Tryd.prog.cellsOf t = n)
    (h : laidMet Tryd.prog ((name, strData zs) :: rest) W) : StrIs W name zs := by
  obtain ⟨ps, ⟨g', t', cs, fuel, p, q, hg', ht', hvar, hd, _, _⟩, _⟩ := h
  obtain rfl := Option.some.inj (hg.symm.trans hg')
  obtain rfl := Option.some.inj (hty.symm.trans ht')
  unfold StrIs
  rw [hvar, ← cells_of_strs ht he hce hct hd]
theorem tab_of_laid {W : World} (h : laidMetH Tryd.prog laidT W) : Lib.TabIs Tryd.prog W "internal/strconv.uint64pow10" .u64 Lib.pow10Tab := by
  have h2 := h.filter fun x => x.1 == "internal/strconv.uint64pow10"
  have e : (laidT.filter fun x => x.1 == "internal/strconv.uint64pow10") = [("internal/strconv.uint64pow10", Lib.tabData .u64 Lib.pow10Tab)] := by kernel_rfl
  rw [e] at h2
  rw [MakeChecks.laidMetH_plain _ _ _ (by kernel_rfl)] at h2
  exact Lib.tabIs_of_head (g := 2) (t := 67) (e := 56) (n := 20) (by kernel_rfl) (by kernel_rfl) Tryd.underlying67 Tryd.underlying56 (by kernel_rfl) (by kernel_rfl) h2
theorem syms_of_laid {W : World} (h : laidMetH Tryd.prog laidT W) : StrIs W "tranship/read.symbols" symsW := by
  have h2 := h.filter fun x => x.1 == "tranship/read.symbols"
  have e : (laidT.filter fun x => x.1 == "tranship/read.symbols") = [("tranship/read.symbols", strData symsW)] := by kernel_rfl
  rw [e] at h2
  rw [MakeChecks.laidMetH_plain _ _ _ (by kernel_rfl)] at h2
  exact strIs_of_head (g := 1) (t := 57) (e := 9) (n := 21) (by kernel_rfl) (by kernel_rfl) Tryd.underlying57 Tryd.underlying9 (by kernel_rfl) (by kernel_rfl) h2
theorem heads_of_laid {W : World} (h : laidMetH Tryd.prog laidT W) : StrIs W "tranship/write.heads" headsW := by
  have h2 := h.filter fun x => x.1 == "tranship/write.heads"
  have e : (laidT.filter fun x => x.1 == "tranship/write.heads") = [("tranship/write.heads", strData headsW)] := by kernel_rfl
  rw [e] at h2
  rw [MakeChecks.laidMetH_plain _ _ _ (by kernel_rfl)] at h2
  exact strIs_of_head (g := 0) (t := 49) (e := 9) (n := 24) (by kernel_rfl) (by kernel_rfl) Tryd.underlying49 Tryd.underlying9 (by kernel_rfl) (by kernel_rfl) h2
theorem wtab_of_laid {W : World} (h : laidMetH Tryd.prog laidT W) : WTab W := ⟨Lib.tabBelow_of_tabIs (tab_of_laid h), syms_of_laid h, heads_of_laid h⟩
end Go.Proofs.YtficmfiekibjgaaDoor

namespace Go.Proofs.YtficmfiekibjgaaDoor
open Go.ChangeShapes Go.WideShapes

def code (l : List Nat) : List Char := l.map Char.ofNat
def joinN : List (List Nat) → List Nat
  | [] => []
  | [a] => a
  | a :: b :: r => a ++ 32 :: joinN (b :: r)

theorem words_one : ∀ a : List Nat, (a.all fun n => Char.ofNat n != Char.ofNat 32) = true → wordsSigns (code a) = [code a]
  | [], _ => rfl
  | n :: a, h => by
    simp only [List.all_cons, Bool.and_eq_true, bne_iff_ne] at h
    have ih := words_one a h.2
    show wordsSigns (Char.ofNat n :: code a) = _
    rw [wordsSigns]
    · rw [ih]; rfl
    · exact h.1
theorem words_more : ∀ (a : List Nat) (r : List Char), (a.all fun n => Char.ofNat n != Char.ofNat 32) = true → wordsSigns (code a ++ Char.ofNat 32 :: r) = code a :: wordsSigns r
  | [], r, _ => by
    show wordsSigns (Char.ofNat 32 :: r) = _
    rw [show Char.ofNat 32 = _ from rfl, wordsSigns]; rfl
  | n :: a, r, h => by
    simp only [List.all_cons, Bool.and_eq_true, bne_iff_ne] at h
    have ih := words_more a r h.2
    show wordsSigns (Char.ofNat n :: (code a ++ Char.ofNat 32 :: r)) = _
    rw [wordsSigns]
    · rw [ih]; rfl
    · exact h.1
theorem words_join : ∀ ws : List (List Nat), ws ≠ [] → (ws.all fun w => w.all fun n => Char.ofNat n != Char.ofNat 32) = true → wordsSigns (code (joinN ws)) = ws.map code
  | [], h, _ => absurd rfl h
  | [a], _, h => by simp only [List.all_cons, List.all_nil, Bool.and_true] at h; exact words_one a h
  | a :: b :: r, _, h => by
    have h' := h
    rw [List.all_cons, Bool.and_eq_true] at h'
    have ih := words_join (b :: r) (by simp) h'.2
    show wordsSigns (code (a ++ 32 :: joinN (b :: r))) = _
    rw [show code (a ++ 32 :: joinN (b :: r)) = code a ++ Char.ofNat 32 :: code (joinN (b :: r)) from by simp [code], words_more a _ h'.1, ih]; rfl

def cutWords : List (List Nat) := [[104, 97, 114, 110, 101, 115, 115],
  [98, 54, 57, 55, 56, 48, 100, 53, 100, 49, 97, 52, 100, 53, 54, 48, 98, 54, 99, 98, 51, 102, 49, 55, 52, 54, 97, 100, 102, 100, 101, 101, 56, 97, 57, 54, 100, 55, 98, 48, 49, 98, 55, 56, 50, 52, 57, 100, 56, 102, 101, 97, 48, 97, 102, 54, 100, 101, 54, 100, 55, 98, 49, 50],
  [99, 117, 116],
  [97, 116],
  [116, 114, 97, 110, 115, 104, 105, 112, 47, 116, 114, 97, 110, 115, 104, 105, 112, 108, 97, 119, 49, 48, 46, 87, 114, 105, 116, 101, 69, 120, 97, 99, 116],
  [116, 114, 97, 110, 115, 104, 105, 112, 47, 116, 114, 97, 110, 115, 104, 105, 112, 108, 97, 119, 49, 48, 46, 87, 114, 105, 116, 101, 85, 110, 108, 105, 107, 101],
  [116, 114, 97, 110, 115, 104, 105, 112, 47, 116, 114, 97, 110, 115, 104, 105, 112, 108, 97, 119, 49, 48, 46, 87, 114, 105, 116, 101, 78, 97, 109, 101, 115]]

set_option maxRecDepth 100000 in
theorem cut_words : wordsSigns Tryd.prog.initOrder.toList = cutWords.map code := by
  have h : Tryd.prog.initOrder.toList = code (joinN cutWords) := by
    show (String.ofList (code (joinN cutWords))).toList = _
    exact String.toList_ofList
  rw [h]
  exact words_join cutWords (by simp [cutWords]) (by decide +kernel)

theorem cut_behind : behindMainWord (cutWords.map code) = code [99, 117, 116] :: cutWords.tail.tail.tail.map code := by kernel_rfl
theorem cut_lifts : stripLifts liftWords (code [99, 117, 116] :: cutWords.tail.tail.tail.map code) = ([], code [99, 117, 116] :: cutWords.tail.tail.tail.map code) := by kernel_rfl
theorem cut1 : (code [99, 117, 116] == "gc".toList) = false := by kernel_rfl
theorem cut2 : (code [99, 117, 116] == "spec".toList) = false := by kernel_rfl
theorem cut3 : (code [99, 117, 116] == "cut".toList) = true := by kernel_rfl
theorem cut_all : behindMainWord (wordsSigns Tryd.prog.initOrder.toList) = code [99, 117, 116] :: cutWords.tail.tail.tail.map code := by rw [cut_words, cut_behind]
theorem make_of (P : Program) {c : List Char} {rest : List (List Char)} (h : behindMainWord (wordsSigns P.initOrder.toList) = c :: rest) (h1 : (c == "gc".toList) = false) (h2 : (c == "spec".toList) = false) (h3 : (c == "cut".toList) = true) : P.make = some .cut := by
  unfold Program.make; rw [h]
  simp only [h1, h2, h3, Bool.or_self, Bool.false_eq_true, if_false, Bool.true_or, if_true]
theorem mayEnter_of (P : Program) {c : List Char} {rest : List (List Char)} (h : behindMainWord (wordsSigns P.initOrder.toList) = c :: rest) (h3 : ((stripLifts liftWords (c :: rest)).2.head? == some "cut".toList) = true)
    (h4 : (stripLifts liftWords (c :: rest)).1 = []) (h5 : P.laysLater = false) (h6 : P.bearsReflect = false) (h7 : P.doorFits [] = true) : P.mayEnter = true := by
  unfold Program.mayEnter; rw [h]
  refine Bool.or_eq_true_iff.2 (Or.inr ?_)
  rw [h3, h4, h5, h6, h7]; rfl
theorem row_make : Tryd.prog.make = some .cut := make_of Tryd.prog cut_all cut1 cut2 cut3
theorem row_mayEnter : Tryd.prog.mayEnter = true := mayEnter_of Tryd.prog cut_all (by rw [cut_lifts]; kernel_rfl) (by rw [cut_lifts]) (by kernel_rfl) (by kernel_rfl) (by kernel_rfl)
theorem row_lifts : Tryd.prog.liftsFinal = false := by unfold Program.liftsFinal Program.headLifts; rw [cut_all, cut_lifts]; kernel_rfl
end Go.Proofs.YtficmfiekibjgaaDoor

namespace Go.Proofs.YtficmfiekibjgaaDoor.lawWriteUnlike
open Go.ChangeShapes Go.WideShapes Go.ChangeAt Go.RowKit Go.ChangeMaps

set_option maxRecDepth 100000 in
theorem lifted (os : Os) (started : os.Started) (H : Type) (enc : TypeId × Value → H) :
    ReturnsInHanded {} Tryd.checked os 4 .any (fun w args => (Rows.writeUnlikeSpec.pre enc Tryd.prog Tryd.f4 [] false w args ∧ laidMetH Tryd.prog laidT w) ∧ sizedMet enc Tryd.prog Tryd.f4 (OpenSpec.ofChange Rows.writeUnlikeSpec) false w args)
      (Rows.writeUnlikeSpec.post enc Tryd.prog Tryd.f4 false true false false) := by
  refine returnsInHanded_of_change_and (C := Tryd.checked) (X := fun w _ => laidMetH Tryd.prog laidT w) (fun _ _ _ hh h => h.of_heap hh) own started (by kernel_rfl) Tryd.func4
    (ChangeSpec.witness_shaped (enc := enc) (C := Tryd.checked) (os := os) (X := fun w _ => laidMetH Tryd.prog laidT w) false (World.doorLaid Tryd.prog 400 os) #[.agg #[.int .i64 0, .int .i64 0, .int .i64 0, .int .i64 0, .slice none 0 0], .agg #[.int .i64 0, .int .i64 0, .int .i64 0, .int .i64 0, .slice none 0 0], .int .i64 0] 8 rfl (World.shaped_of_RefB (by kernel_rfl) (by kernel_rfl)) (by kernel_rfl) (by kernel_rfl) (by kernel_rfl) (door_met os _)) ?_
  intro W base args ds gs before hval0 hW _ _ hL _
  have hval : ∀ (j : Nat) t v, Tryd.f4.params[j]? = some t → args[j]? = some v → Value.okWide Tryd.prog W .any base t v := hval0
  have hW' := hW
  obtain ⟨p, q, hA0, hV, rfl, hfz, hnd⟩ := hW
  have hA : DataW.TrodAll enc Tryd.prog W 0 (fun _ => true) true Tryd.f4.params.toList args.toList ds p := hA0
  rw [Tryd.params4] at hA hval
  obtain ⟨v0, vs0, d0, ds0, p0, q0, hargs0, rfl, rfl, h0, r0⟩ := trodAll_cons hA
  obtain ⟨v1, vs1, d1, ds1, p1, q1, hargs1, rfl, rfl, h1, r1⟩ := trodAll_cons r0
  obtain ⟨v2, vs2, d2, ds2, p2, q2, hargs2, rfl, rfl, h2, r2⟩ := trodAll_cons r1
  obtain ⟨rfl, rfl, rfl⟩ := trodAll_nil r2
  obtain rfl : args = #[v0, v1, v2] := by cases args; simp_all
  obtain ⟨rfl, rfl⟩ := trodVars_none hV
  have h0k := h0
  have hlt0 : ∀ x ∈ p0, x.block < W.heap.size := fun x hx => by have := hW'.lt x (by simp [hx]); simpa using this
  obtain ⟨t0, s0, hl0, hv0⟩ := open_arg (hval 0 24 v0 rfl rfl) h0
  subst hv0
  have h1k := h1
  have hlt1 : ∀ x ∈ p1, x.block < W.heap.size := fun x hx => by have := hW'.lt x (by simp [hx]); simpa using this
  obtain ⟨t1, s1, hl1, hv1⟩ := open_arg (hval 1 24 v1 rfl rfl) h1
  subst hv1
  obtain ⟨a2, rfl, rfl, rfl, w2⟩ := open_int Tryd.underlying3 (hval 2 3 v2 rfl rfl) h2
  clear hA0 hval0
  simp only [List.append_nil] at hW'
  have hT := wtab_of_laid hL
  refine (writeUnlike_any t0 t1 a2 W s0 s1 hl0 hl1 hT).mono fun e W' ⟨he, hb⟩ => ?_
  subst he
  exact ⟨_, rfl, _, _, _, [], _, [], hW', trodAll_cons_mk (shut_bool Tryd.underlying4 _) trodAll_mk0, (trodAll_cons_mk (Below.trod laidOut (by kernel_rfl) (of_decide_eq_true (by kernel_rfl)) h0k hb hlt0) (trodAll_cons_mk (Below.trod laidOut (by kernel_rfl) (of_decide_eq_true (by kernel_rfl)) h1k hb hlt1) (trodAll_cons_mk (shut_int Tryd.underlying3 w2) trodAll_mk0))), rfl, hb.frame _, fun h => by cases h⟩

theorem closed : joinedFacts Tryd.prog 4 Tryd.f4 Rows.writeUnlikeSpec Rows.writeUnlikeRow = true := by
  unfold joinedFacts
  rw [row_mayEnter, row_lifts, row_make]
  kernel_rfl
theorem writeUnlike_holds : Rows.WriteUnlikeSaid :=
  OpenClaim.holds_of_wide 4 Tryd.f4 rfl rfl rfl rfl rfl rfl rfl ⟨rfl, rfl, rfl, rfl, rfl⟩ rfl rfl rfl rfl rfl (by kernel_rfl) Tryd.func4 closed
    (of_decide_eq_true (by kernel_rfl)) (by unfold Func.isWrapper; first | (rw [if_pos (by decide +kernel)]; kernel_rfl) | (rw [if_neg (by decide +kernel)]; exact ⟨rfl, rfl⟩))
    (fun os started H enc _ => lifted os started H enc)
theorem proved : Rows.WriteUnlikeCardSaid :=
  Claim7.holds_tied_plain_at .later [] [.data, .data, .data, .data, .data] true Rows.writeUnlikeCard.stood.harness false
    writeUnlike_holds (fun _ h => by cases h) (by kernel_rfl) (fun _ h => by cases h) writeUnlike_row_tie rfl ⟨rfl, rfl⟩ (by kernel_rfl) rfl
    (fun f fn hf hfn => by
      obtain rfl : f = 4 := Option.some.inj ((show Tryd.prog.funcNamed "tranship/transhiplaw10.WriteUnlike" = some 4 by kernel_rfl).symm.trans hf) |>.symm
      obtain rfl : fn = Tryd.f4 := (Option.some.inj (Tryd.func4.symm.trans hfn)).symm
      exact ⟨by kernel_rfl, fun j t ht => by
        rw [Tryd.params4] at ht
        have hm : t ∈ [24, 24, 3] := by simpa using Array.mem_of_getElem? ht
        have hall : ([24, 24, 3].all fun u => !Tryd.prog.wantsStandIn u) = true := by kernel_rfl
        exact (show Tryd.prog.wantsStandIn t = false by simpa using List.all_eq_true.1 hall t hm)⟩)
    (by kernel_rfl)
#print axioms proved
end Go.Proofs.YtficmfiekibjgaaDoor.lawWriteUnlike
