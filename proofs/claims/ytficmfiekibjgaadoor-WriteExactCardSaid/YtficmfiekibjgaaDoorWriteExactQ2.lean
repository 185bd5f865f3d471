/-
  Facts and contracts that the proof of WriteExact uses.
-/
import Derived.Lib.ItoaNum
import Derived.Lib.ItoaLen
import Derived.Test.YtficmfiekibjgaaDoorRows
import Derived.WalkKit
import Derived.Lib.Hide
import Derived.KernelRfl
import Derived.Deep.RegionWith
import Derived.Deep.RegionHeld3
import Derived.Test.YtficmfiekibjgaaDoorShelf
import Derived.ProofKit
import Derived.Lib.AppendIntMem
import Derived.Lib.LaidTab
import Derived.Below
import Derived.Lib.Builder
import Derived.Lib.AppendStr
import Derived.Lib.UnsafeStr
import Derived.Lib.Strings
import Derived.Laws.Externs
import Derived.Laws.Rows
import Derived.Shelf.RegionOpenPlain
import Derived.OrdersHeld
import Derived.Laws.OwnMore
import Derived.OwnWalk
import Derived.Laws.BytesArg
import Derived.Laws.AppendOwnNone
import Derived.Deep.AppendLies
import Derived.Deep.DeepCutAuto
import Derived.Deep.Cut
import Derived.Lib.QuietBelow
import Derived.BigQuiet
import Derived.OpenShut
import Derived.Carry
import Derived.Deep.Slices
import Derived.LaidMore
import Derived.LaidSub
import Derived.LaidHandle
import Derived.Stop.Joined
import Derived.JoinedOf
import Derived.Test.YtficmfiekibjgaaDoorCards
import Derived.Test.YtficmfiekibjgaaDoorTie
import Derived.SevenTiedAt
import Derived.ChangeMaps5
import Derived.Test.YtficmfiekibjgaaDoorWriteExactQ1
namespace Go.Proofs.YtficmfiekibjgaaDoor
open Go.RowKit

def o19D_0 : Oper := { dst := some 93, op := Go.Op.move (Go.Operand.tmp 0), type := 37, pos := "write.go:60", after := #[], guard := none }
def o19D_1 : Oper := { dst := some 94, op := Go.Op.load 24 (Go.Operand.tmp 9), type := 24, pos := "write.go:60", after := #[], guard := none }
def o19D_2 : Oper := { dst := some 95, op := Go.Op.move (Go.Operand.tmp 2), type := 3, pos := "write.go:60", after := #[], guard := none }
def o19D_3 : Oper := { dst := some 96, op := Go.Op.fieldAddr 24 (Go.Operand.tmp 4) 0, type := 0, pos := "write.go:60", after := #[], guard := none }
def o19D_4 : Oper := { dst := some 97, op := Go.Op.load 3 (Go.Operand.tmp 96), type := 3, pos := "write.go:60", after := #[{ on := 3, ground := Go.Ground.data }], guard := none }
def o19D_5 : Oper := { dst := some 98, op := Go.Op.move (Go.Operand.tmp 8), type := 3, pos := "write.go:60", after := #[], guard := none }
def o19D_6 : Oper := { dst := some 99, op := Go.Op.call { callee := Go.Callee.value (Go.Operand.func 34), args := #[Go.Operand.tmp 97, Go.Operand.tmp 98], argTypes := #[3, 3] }, type := 3, pos := "write.go:60", after := #[{ on := 4, ground := Go.Ground.data }, { on := 5, ground := Go.Ground.data }], guard := none }
def o19D_7 : Oper := { dst := some 100, op := Go.Op.binOp Go.BinOp.add 3 (Go.Operand.tmp 95) (Go.Operand.tmp 99) 3, type := 3, pos := "write.go:60", after := #[{ on := 2, ground := Go.Ground.data }, { on := 6, ground := Go.Ground.data }], guard := none }
def o19D_8 : Oper := { dst := some 101, op := Go.Op.call { callee := Go.Callee.value (Go.Operand.func 19), args := #[Go.Operand.tmp 93, Go.Operand.tmp 94, Go.Operand.tmp 100], argTypes := #[37, 24, 3] }, type := 0, pos := "write.go:60", after := #[{ on := 0, ground := Go.Ground.data }, { on := 1, ground := Go.Ground.data }, { on := 7, ground := Go.Ground.data }, { on := 6, ground := Go.Ground.chain }], guard := none }

set_option maxHeartbeats 4000000 in
set_option maxRecDepth 100000 in
theorem wput_D (w0 : World) (hW : WTab w0) (b : Nat) (t : Tm) (ih : ∀ x ∈ t.kids, WPut w0 b x) (e2 : (t.k == 2) = false) (e22 : (t.k == 22) = false) (e23 : (t.k == 23) = false) (hbd : bindsN t.k 1 = 1) (hlv : levelsN t.k = 0) : WPut w0 b t := by
  intro w s bs m hl hlw hB hr h0 hf hm hbs
  obtain ⟨a, cap, S, rfl, hc, hmx, hfi, hn, hk⟩ := hl.out
  have hkr := t.node_kind (t.right_node hr)
  have hfit := right_fit hr
  obtain ⟨du, hu1, hu2⟩ := under_termW
  have HX := Lib.hid (show t.wr m = 40 :: (headL t.k ++ (frontL t.k t.i t.j t.n m ++ (wrs t.k 0 t.kids m ++ [41]))) by rw [t.wr_eq, if_neg (by simpa using e2)])
  have HS := Lib.hid (wst_start hB hlw (.cells #[.int .i64 t.k, .int .i64 t.i, .int .i64 t.j, .int .i64 t.n, .slice a t.kids.length cap] 24))
  have HBL := Lib.hid hB.lt
  have HW := Lib.hid hW
  have HL := Lib.hid (wr_len t m hr h0 hf hm)
  have HLN := Lib.hid (show bs.length + (1 + (headL t.k).length + (frontL t.k t.i t.j t.n m).length + (wrs t.k 0 t.kids m).length + 1) ≤ 140737488355328 from by
    have := HL.out; rw [HX.out] at this; simp only [List.length_append, List.length_cons, List.length_nil] at this; omega)
  have HN := Lib.hid hn
  have HK := Lib.hid hk
  have HBS := Lib.hid hbs
  have HR := Lib.hid (t.right_kids hr)
  have HF := Lib.hid (by rw [t.freeN_eq, if_neg (by simpa using e2)] at hf; exact hf : frees t.k 0 t.kids ≤ m)
  have IH := Lib.hid ih
  have hh := (HS.out.tab HW.out).heads_cell t.k (by omega) (by omega)
  have HLV := Lib.hid hlv
  have HFR := Lib.hid (show frontL t.k t.i t.j t.n m = ([]) ++ (lvP t.i t.j 0 ++ (32 :: nameW m)) from by
    have hq : ¬ t.k = 23 := by simpa using e23
    unfold frontL lvlL; simp [hlv, hbd, hq, lvP])
  have HRR := Lib.hid hr
  have HBD := Lib.hid hbd
  have HFM := Lib.hid (show Fit m from ⟨by omega, by omega⟩)
  have HFM1 := Lib.hid (show Fit (m + 1) from ⟨by omega, by omega⟩)
  have hsw := hlw.size
  clear hB hlw hr hW hbs hn hk hl hf ih hfi hlv hbd
  have hk0 : 0 ≤ t.k := by omega
  have hk1 : t.k < 24 := by omega
  unfold tv
  unfold maxLen at hmx
  go_enter Tryd.func19, Tryd.ntmps19
  go_wp2_with fail
  · exfalso; have := head_len t.k; omega
  rw [show (⟨#[40]⟩ : ByteArray) = ⟨[(40 : UInt8)].toArray⟩ from rfl, str_add]
  refine (bstr_any _ b _ _ _ HS.out.bld (by have := HLN.out; simp [ByteArray.size]; omega) HS.out.hB).mono ?_
  rintro e w1 ⟨rfl, hb1, hl1, hk1⟩
  have HS1 := Lib.hid (HS.out.put hb1 hl1 hk1)
  rw [Lib.strCells_toArray] at HS1
  obtain ⟨d0, d1, d2, d3, d4⟩ := HS1.out.cells HBL.out
  have hsz : w.heap.size < w1.heap.size := by have := HS1.out.size; rw [World.size_alloc] at this; omega
  clear hb1 hl1 hk1 hh
  go_wp2_with fail
  go_region_held3 (fun w' => Below w1.heap.size w1 w' ∧ w'.cell? ⟨w.heap.size, 0, none⟩ = some (.int .i64 t.k) ∧ w'.cell? ⟨w.heap.size, 1, none⟩ = some (.int .i64 t.i) ∧ w'.cell? ⟨w.heap.size, 2, none⟩ = some (.int .i64 t.j))
    (first | (refine rl_keep hsz d0 d1 d2 ?_; repeat (first | exact Below.refl _ _ | (with_reducible assumption) | exact (by assumption : _ ∧ _).1 | refine Below.drew ?_ | refine Below.alloc ?_ (Nat.le_refl _) _)) | go_keep)
    (first | (go_at_call 32; refine (levels_any _ _).mono ?_; rintro e wn ⟨rfl, rfl⟩; rw [HLV.out]))
  all_goals
    rename_i hHeld
    clear hHeld
    go_wp2_with fail
    obtain ⟨w2, hw2⟩ : ∃ w2, w2 = (w1.alloc (.cells #[.int .i64 t.i, .int .i64 t.j] 3)).drew := ⟨_, rfl⟩
    rw [← hw2]
    have HS2 := Lib.hid (HS1.out.call (wr' := w2) (by rw [hw2]; exact ((Below.refl _ w1).alloc (Nat.le_refl _) _).drew)).again
    have HBX2 := Lib.hid (show w2.heap[w.heap.size]? = some (.cells #[.int .i64 t.k, .int .i64 t.i, .int .i64 t.j, .int .i64 t.n, .slice a t.kids.length cap] 24) from by
      have h := HS1.out.at (alloc_heap_new' w _) (by have := HBL.out; omega) ut_ne
      rw [hw2]; show (w1.alloc _).heap[w.heap.size]? = _; rw [Lib.alloc_old _ _ _ hsz]; exact h)
    have HRW2 := Lib.hid (show w2.heap[w1.heap.size]? = some (.cells #[.int .i64 t.i, .int .i64 t.j] 3) from by rw [hw2]; exact alloc_heap_new _ _)
    have HUP := Lib.hid (show Below w0.heap.size w w2 from by
      rw [hw2]; exact (((Below.refl _ w).alloc hsw _).trans HS1.out.up |>.alloc HS1.out.hB _).drew)
    have HKP := Lib.hid (show Kept b w w2 from by
      rw [hw2]; exact ((Kept.alloc b w _).trans HS1.out.kept).trans (Kept.alloc b w1 _))
    have hs2 : w1.heap.size < w2.heap.size := by rw [hw2]; show _ < (w1.alloc _).heap.size; simp
    clear hw2 d0 d1 d2 d3 d4
    go_loopw [47] (fun i wr => ∃ k : Nat, k ≤ 0 ∧ i = .int .i64 k ∧ WSt w0 b w2 (bs ++ Lib.byteCells ([40] ++ headL t.k) ++ Lib.byteCells (lvP t.i t.j k)) wr) (fun i _ => 0 - (intOf i).toNat)
    case atStart => exact ⟨0, by omega, rfl, by simpa [lvP, Lib.byteCells] using HS2.out⟩
    case round =>
      obtain ⟨k, hk, rfl, hst⟩ := hrel
      have hrow := hst.at HRW2.out (by have := HBL.out; omega) ti_ne
      have r0 : wr.cell? ⟨w1.heap.size, 0, none⟩ = some (.int .i64 t.i) := by rw [Lib.cell_of_heap hrow]; rfl
      have r1 : wr.cell? ⟨w1.heap.size, 1, none⟩ = some (.int .i64 t.j) := by rw [Lib.cell_of_heap hrow]; rfl
      have hbox := hst.at HBX2.out (by have := HBL.out; omega) ut_ne
      have d0 : wr.cell? ⟨w.heap.size, 0, none⟩ = some (.int .i64 t.k) := by rw [Lib.cell_of_heap hbox]; rfl
      have d4 : wr.cell? ⟨w.heap.size, 4, none⟩ = some (.slice a t.kids.length cap) := by rw [Lib.cell_of_heap hbox]; rfl
      have HST := Lib.hid hst
      clear hrow hbox hst
      obtain rfl : k = 0 := by omega
      go_wp2_with fail
      refine (binds_any _ _ _).mono ?_
      rintro e w5 ⟨rfl, rfl⟩
      rw [HBD.out]
      go_wp2_with fail
      refine (name_any m _ HFM.out (HST.out.tab HW.out).pow).mono ?_
      rintro e w5 ⟨rfl, hb5⟩
      have HS5 := Lib.hid (HST.out.call hb5)
      have HNL := Lib.hid (name_len HFM.out)
      clear hb5
      go_wp2_with fail
      · exfalso; have := HNL.out; omega
      rw [show (⟨#[32]⟩ : ByteArray) = ⟨[(32 : UInt8)].toArray⟩ from rfl, str_add]
      refine (bstr_any _ b _ _ _ HS5.out.bld (by have := HLN.out; rw [HFR.out] at this; simp [ByteArray.size, lvP, Lib.byteCells] at this ⊢; omega) HS5.out.hB).mono ?_
      rintro e w5' ⟨rfl, hb5, hl5, hk5⟩
      have HSB := Lib.hid (HS5.out.put hb5 hl5 hk5)
      rw [Lib.strCells_toArray] at HSB
      clear hb5 hl5 hk5 r0 r1 d0 d4
      have hbox5 := HSB.out.at HBX2.out (by have := HBL.out; omega) ut_ne
      have d4 : w5'.cell? ⟨w.heap.size, 4, none⟩ = some (.slice a t.kids.length cap) := by rw [Lib.cell_of_heap hbox5]; rfl
      clear hbox5
      go_wp2_with fail
      clear d4
      go_loopw [69] (fun i wv => ∃ q : Nat, q ≤ t.kids.length ∧ i = .int .i64 q ∧ WSt w0 b w2 (bs ++ Lib.byteCells ([40] ++ headL t.k ++ frontL t.k t.i t.j t.n m ++ wrs t.k 0 (t.kids.take q) m)) wv) (fun i _ => t.kids.length - (intOf i).toNat)
      case atStart => exact ⟨0, Nat.zero_le _, rfl, by have h := HSB.out; rw [HFR.out]; simpa [wrs, lvP, Lib.byteCells] using h⟩
      case round =>
        obtain ⟨q, hq, rfl, hv⟩ := hrel
        have HV := Lib.hid hv
        have HBX3 := Lib.hid (hv.at HBX2.out (by have := HBL.out; omega) ut_ne)
        have hsv : w.heap.size < wr.heap.size := by have := HV.out.size; omega
        have d0 : wr.cell? ⟨w.heap.size, 0, none⟩ = some (.int .i64 t.k) := by rw [Lib.cell_of_heap HBX3.out]; rfl
        clear hv HSB
        by_cases hlt : q < t.kids.length
        · obtain ⟨bn, o, rfl, hx⟩ := HN.out q hlt
          obtain ⟨c0, c1, c2, c3, c4⟩ := hx.below HV.out.low hx.lt
          have hq4 := HK.out q hlt
          obtain ⟨a', cap', S', hS, -⟩ := hq4.out
          rw [hS] at c4 hq4
          have HQ := Lib.hid hq4
          have HM := Lib.hid (List.getElem_mem hlt)
          have HROOM := Lib.hid (put_room HRR.out h0 HF.out hm hlt)
          have HTK := Lib.hid (wrs_take t.k m t.kids 0 q hlt)
          have HKF := Lib.hid (kid_free HF.out hlt)
          have HKS := Lib.hid (kid_size hlt)
          have HV5 := Lib.hid (HV.out.call (wr' := wr.alloc (.cells #[.int .i64 t.kids[q].k, .int .i64 t.kids[q].i, .int .i64 t.kids[q].j, .int .i64 t.kids[q].n, .slice a' t.kids[q].kids.length cap'] 24)) ((Below.refl _ _).alloc (Nat.le_refl _) _)).again
          clear hS hq4 hx
          have hbr := binds_range t.k q
          have HMD := Lib.hid (show midL t.k (0 + q) m = [] from if_neg (fun h => by have := h.1; simp [this] at e22))
          go_wp2_with fail
          refine (bbyte_any _ b _ _ _ HV5.out.bld (by have h1 := HROOM.out; have h2 := HBS.out; simp [Lib.byteCells] ; omega) HV5.out.hB).mono ?_
          rintro e w6 ⟨rfl, hb6, hl6, hk6⟩
          have HS6 := Lib.hid (HV5.out.put hb6 hl6 hk6)
          clear hb6 hl6 hk6
          have hy := HS6.out.at (alloc_heap_new' wr _) (by have := HBL.out; omega) ut_ne
          have hz := HS6.out.at (j := w.heap.size) (by rw [Lib.alloc_old _ _ _ hsv]; exact HBX3.out) (by have := HBL.out; omega) ut_ne
          have HNE := Lib.hid (show wr.heap.size ≠ b ∧ w.heap.size ≠ b by have := HBL.out; omega)
          have HY := Lib.hid hy
          have HZ := Lib.hid hz
          clear hy hz
          have HS6d := Lib.hid (HS6.out.call (wr' := w6.drew) (Below.refl _ w6).drew)
          have hS0 := kid_keep2 HY.out HZ.out HNE.out (Kept.refl b w6)
          have hwr : IntKind.i64.wrap (m + bindsN t.k (q : Int)) = m + bindsN t.k (q : Int) := IntWalk.i64_in _ (by omega)
          go_wp2_with fail
          refine wp_region_held_drew (S := fun w' => Kept b w6 w' ∧ w'.heap[wr.heap.size]? = some (.cells #[.int .i64 t.kids[q].k, .int .i64 t.kids[q].i, .int .i64 t.kids[q].j, .int .i64 t.kids[q].n, .slice a' t.kids[q].kids.length cap'] 24) ∧ w'.cell? ⟨w.heap.size, 0, none⟩ = some (.int .i64 t.k)) (by kernel_rfl) ?_ (fun hHeld => ?_)
          · (try dsimp only)
            (first | exact hS8 | exact hHeld | exact hS0)
          refine take_at 0 93 o19D_0 (v := ?_) (Or.inl ⟨by rfl, ?_⟩) ?_
          rotate_left 1
          · ((intro w hSw; (try dsimp only at hSw); unfold o19D_0; go_simp) <;> with_reducible rfl)
          (try simp only [Act.put, List.setIfInBounds_toArray, List.set_cons_zero, List.set_cons_succ])
          refine take_at 1 94 o19D_1 (yields_row wr.heap.size _ _ _ #[.int .i64 t.kids[q].k, .int .i64 t.kids[q].i, .int .i64 t.kids[q].j, .int .i64 t.kids[q].n, .slice a' t.kids[q].kids.length cap'] _ du (by rfl) rfl (by rfl) (fun w' h => h.2.1) hu1 (by cases du <;> first | rfl | exact hu2) size_termW) ?_
          (try simp only [Act.put, List.setIfInBounds_toArray, List.set_cons_zero, List.set_cons_succ])
          refine take_at 2 95 o19D_2 (v := ?_) (Or.inl ⟨by rfl, ?_⟩) ?_
          rotate_left 1
          · ((intro w hSw; (try dsimp only at hSw); unfold o19D_2; go_simp) <;> with_reducible rfl)
          (try simp only [Act.put, List.setIfInBounds_toArray, List.set_cons_zero, List.set_cons_succ])
          refine take_at 3 96 o19D_3 (v := ?_) (Or.inl ⟨by rfl, ?_⟩) ?_
          rotate_left 1
          · ((intro w hSw; (try dsimp only at hSw); unfold o19D_3; go_simp) <;> with_reducible rfl)
          (try simp only [Act.put, List.setIfInBounds_toArray, List.set_cons_zero, List.set_cons_succ])
          refine take_at 4 97 o19D_4 (v := ?_) (Or.inl ⟨by rfl, ?_⟩) ?_
          rotate_left 1
          · ((intro w hSw; (try dsimp only at hSw); obtain ⟨hSa, hSb, hSc⟩ := hSw; unfold o19D_4; go_simp) <;> with_reducible rfl)
          (try simp only [Act.put, List.setIfInBounds_toArray, List.set_cons_zero, List.set_cons_succ])
          refine take_at 5 98 o19D_5 (v := ?_) (Or.inl ⟨by rfl, ?_⟩) ?_
          rotate_left 1
          · ((intro w hSw; (try dsimp only at hSw); unfold o19D_5; go_simp) <;> with_reducible rfl)
          (try simp only [Act.put, List.setIfInBounds_toArray, List.set_cons_zero, List.set_cons_succ])
          refine wpAnyH_ready (rs := [6]) (by kernel_rfl) (by simp) ?_
          refine AllReadyH.cons (o := o19D_6) rfl (fun K hK => ?_) ?_
          · unfold o19D_6
            go_simp
            (go_at_call 34; refine (binds_any _ _ _).mono ?_; rintro e w7 ⟨rfl, rfl⟩)
            refine hK.out _ _ ?_ (fun hHeld => ?_)
            · (try dsimp only)
              (first | exact hS8 | exact hHeld | exact hS0)
            clear hK K
            (try simp only [Act.put, List.setIfInBounds_toArray, List.set_cons_zero, List.set_cons_succ])
            refine take_at 7 100 o19D_7 (v := ?_) (Or.inl ⟨by rfl, ?_⟩) ?_
            rotate_left 1
            · ((intro w hSw; (try dsimp only at hSw); unfold o19D_7; go_simp) <;> with_reducible rfl)
            (try simp only [Act.put, List.setIfInBounds_toArray, List.set_cons_zero, List.set_cons_succ])
            refine wpAnyH_ready (rs := [8]) (by kernel_rfl) (by simp) ?_
            refine AllReadyH.cons (o := o19D_8) rfl (fun K hK => ?_) ?_
            · unfold o19D_8
              go_simp
              (go_at_call 19; with_reducible refine Calls.mono ((IH.out _ HM.out).use _ _ _ _ HQ.out HS6d.out.low HS6d.out.bld (HR.out _ HM.out) (by omega) HKF.out (by have := HKS.out; omega) (by have h1 := HROOM.out; have h2 := HBS.out; simp [Lib.byteCells] ; omega)) ?_; rintro e w8 ⟨rfl, hb8, hl8, hk8⟩)
              have HS8 := Lib.hid (HV.out.over (HS6d.out.put hb8 hl8 hk8))
              have hS8 := kid_keep2 HY.out HZ.out HNE.out hk8
              clear hb8 hl8 hk8 hHeld
              refine hK.out _ _ ?_ (fun hHeld => ?_)
              · (try dsimp only)
                (first | exact hS8 | exact hHeld | exact hS0)
              clear hK K
              (try simp only [Act.put, List.setIfInBounds_toArray, List.set_cons_zero, List.set_cons_succ])
              refine wpAnyH_done (by kernel_rfl) ?_ _
              go_wp2
              go_roundw
              case rel => exact ⟨q + 1, by omega, by go_num, by have h := HS8.out; rw [HTK.out, HMD.out]; simpa [Lib.byteCells] using h⟩
              case measure => simp [intOf]; omega
            exact AllReadyH.nil
          exact AllReadyH.nil
        · obtain rfl : q = t.kids.length := by omega
          go_wp2_with fail
          refine (bbyte_any _ b _ _ _ HV.out.bld (by have := HLN.out; simp [Lib.byteCells]; omega) HV.out.hB).mono ?_
          rintro e w6 ⟨rfl, hb6, hl6, hk6⟩
          have HS6 := Lib.hid (HV.out.put hb6 hl6 hk6)
          have HB6 := Lib.hid hb6
          clear hb6 hl6 hk6
          go_wp2
          go_end0
          exact ⟨rfl, by have h := HB6.out; rw [HX.out]; rw [List.take_length] at h; simpa [Lib.byteCells] using h, HUP.out.trans HS6.out.up, HKP.out.trans HS6.out.kept⟩
end Go.Proofs.YtficmfiekibjgaaDoor

namespace Go.Proofs.YtficmfiekibjgaaDoor
open Go.RowKit

def o19E_0 : Oper := { dst := some 93, op := Go.Op.move (Go.Operand.tmp 0), type := 37, pos := "write.go:60", after := #[], guard := none }
def o19E_1 : Oper := { dst := some 94, op := Go.Op.load 24 (Go.Operand.tmp 9), type := 24, pos := "write.go:60", after := #[], guard := none }
def o19E_2 : Oper := { dst := some 95, op := Go.Op.move (Go.Operand.tmp 2), type := 3, pos := "write.go:60", after := #[], guard := none }
def o19E_3 : Oper := { dst := some 96, op := Go.Op.fieldAddr 24 (Go.Operand.tmp 4) 0, type := 0, pos := "write.go:60", after := #[], guard := none }
def o19E_4 : Oper := { dst := some 97, op := Go.Op.load 3 (Go.Operand.tmp 96), type := 3, pos := "write.go:60", after := #[{ on := 3, ground := Go.Ground.data }], guard := none }
def o19E_5 : Oper := { dst := some 98, op := Go.Op.move (Go.Operand.tmp 8), type := 3, pos := "write.go:60", after := #[], guard := none }
def o19E_6 : Oper := { dst := some 99, op := Go.Op.call { callee := Go.Callee.value (Go.Operand.func 34), args := #[Go.Operand.tmp 97, Go.Operand.tmp 98], argTypes := #[3, 3] }, type := 3, pos := "write.go:60", after := #[{ on := 4, ground := Go.Ground.data }, { on := 5, ground := Go.Ground.data }], guard := none }
def o19E_7 : Oper := { dst := some 100, op := Go.Op.binOp Go.BinOp.add 3 (Go.Operand.tmp 95) (Go.Operand.tmp 99) 3, type := 3, pos := "write.go:60", after := #[{ on := 2, ground := Go.Ground.data }, { on := 6, ground := Go.Ground.data }], guard := none }
def o19E_8 : Oper := { dst := some 101, op := Go.Op.call { callee := Go.Callee.value (Go.Operand.func 19), args := #[Go.Operand.tmp 93, Go.Operand.tmp 94, Go.Operand.tmp 100], argTypes := #[37, 24, 3] }, type := 0, pos := "write.go:60", after := #[{ on := 0, ground := Go.Ground.data }, { on := 1, ground := Go.Ground.data }, { on := 7, ground := Go.Ground.data }, { on := 6, ground := Go.Ground.chain }], guard := none }

set_option maxHeartbeats 4000000 in
set_option maxRecDepth 100000 in
theorem wput_E (w0 : World) (hW : WTab w0) (b : Nat) (t : Tm) (ih : ∀ x ∈ t.kids, WPut w0 b x) (e2 : (t.k == 2) = false) (e22 : (t.k == 22) = false) (e23 : (t.k == 23) = false) (hbd : bindsN t.k 1 = 0) (hlv : levelsN t.k = 0) : WPut w0 b t := by
  intro w s bs m hl hlw hB hr h0 hf hm hbs
  obtain ⟨a, cap, S, rfl, hc, hmx, hfi, hn, hk⟩ := hl.out
  have hkr := t.node_kind (t.right_node hr)
  have hfit := right_fit hr
  obtain ⟨du, hu1, hu2⟩ := under_termW
  have HX := Lib.hid (show t.wr m = 40 :: (headL t.k ++ (frontL t.k t.i t.j t.n m ++ (wrs t.k 0 t.kids m ++ [41]))) by rw [t.wr_eq, if_neg (by simpa using e2)])
  have HS := Lib.hid (wst_start hB hlw (.cells #[.int .i64 t.k, .int .i64 t.i, .int .i64 t.j, .int .i64 t.n, .slice a t.kids.length cap] 24))
  have HBL := Lib.hid hB.lt
  have HW := Lib.hid hW
  have HL := Lib.hid (wr_len t m hr h0 hf hm)
  have HLN := Lib.hid (show bs.length + (1 + (headL t.k).length + (frontL t.k t.i t.j t.n m).length + (wrs t.k 0 t.kids m).length + 1) ≤ 140737488355328 from by
    have := HL.out; rw [HX.out] at this; simp only [List.length_append, List.length_cons, List.length_nil] at this; omega)
  have HN := Lib.hid hn
  have HK := Lib.hid hk
  have HBS := Lib.hid hbs
  have HR := Lib.hid (t.right_kids hr)
  have HF := Lib.hid (by rw [t.freeN_eq, if_neg (by simpa using e2)] at hf; exact hf : frees t.k 0 t.kids ≤ m)
  have IH := Lib.hid ih
  have hh := (HS.out.tab HW.out).heads_cell t.k (by omega) (by omega)
  have HLV := Lib.hid hlv
  have HFR := Lib.hid (show frontL t.k t.i t.j t.n m = ([]) ++ (lvP t.i t.j 0 ++ ([])) from by
    have hq : ¬ t.k = 23 := by simpa using e23
    unfold frontL lvlL; simp [hlv, hbd, hq, lvP])
  have HRR := Lib.hid hr
  have HBD := Lib.hid hbd
  have HFM := Lib.hid (show Fit m from ⟨by omega, by omega⟩)
  have HFM1 := Lib.hid (show Fit (m + 1) from ⟨by omega, by omega⟩)
  have hsw := hlw.size
  clear hB hlw hr hW hbs hn hk hl hf ih hfi hlv hbd
  have hk0 : 0 ≤ t.k := by omega
  have hk1 : t.k < 24 := by omega
  unfold tv
  unfold maxLen at hmx
  go_enter Tryd.func19, Tryd.ntmps19
  go_wp2_with fail
  · exfalso; have := head_len t.k; omega
  rw [show (⟨#[40]⟩ : ByteArray) = ⟨[(40 : UInt8)].toArray⟩ from rfl, str_add]
  refine (bstr_any _ b _ _ _ HS.out.bld (by have := HLN.out; simp [ByteArray.size]; omega) HS.out.hB).mono ?_
  rintro e w1 ⟨rfl, hb1, hl1, hk1⟩
  have HS1 := Lib.hid (HS.out.put hb1 hl1 hk1)
  rw [Lib.strCells_toArray] at HS1
  obtain ⟨d0, d1, d2, d3, d4⟩ := HS1.out.cells HBL.out
  have hsz : w.heap.size < w1.heap.size := by have := HS1.out.size; rw [World.size_alloc] at this; omega
  clear hb1 hl1 hk1 hh
  go_wp2_with fail
  go_region_held3 (fun w' => Below w1.heap.size w1 w' ∧ w'.cell? ⟨w.heap.size, 0, none⟩ = some (.int .i64 t.k) ∧ w'.cell? ⟨w.heap.size, 1, none⟩ = some (.int .i64 t.i) ∧ w'.cell? ⟨w.heap.size, 2, none⟩ = some (.int .i64 t.j))
    (first | (refine rl_keep hsz d0 d1 d2 ?_; repeat (first | exact Below.refl _ _ | (with_reducible assumption) | exact (by assumption : _ ∧ _).1 | refine Below.drew ?_ | refine Below.alloc ?_ (Nat.le_refl _) _)) | go_keep)
    (first | (go_at_call 32; refine (levels_any _ _).mono ?_; rintro e wn ⟨rfl, rfl⟩; rw [HLV.out]))
  all_goals
    rename_i hHeld
    clear hHeld
    go_wp2_with fail
    obtain ⟨w2, hw2⟩ : ∃ w2, w2 = (w1.alloc (.cells #[.int .i64 t.i, .int .i64 t.j] 3)).drew := ⟨_, rfl⟩
    rw [← hw2]
    have HS2 := Lib.hid (HS1.out.call (wr' := w2) (by rw [hw2]; exact ((Below.refl _ w1).alloc (Nat.le_refl _) _).drew)).again
    have HBX2 := Lib.hid (show w2.heap[w.heap.size]? = some (.cells #[.int .i64 t.k, .int .i64 t.i, .int .i64 t.j, .int .i64 t.n, .slice a t.kids.length cap] 24) from by
      have h := HS1.out.at (alloc_heap_new' w _) (by have := HBL.out; omega) ut_ne
      rw [hw2]; show (w1.alloc _).heap[w.heap.size]? = _; rw [Lib.alloc_old _ _ _ hsz]; exact h)
    have HRW2 := Lib.hid (show w2.heap[w1.heap.size]? = some (.cells #[.int .i64 t.i, .int .i64 t.j] 3) from by rw [hw2]; exact alloc_heap_new _ _)
    have HUP := Lib.hid (show Below w0.heap.size w w2 from by
      rw [hw2]; exact (((Below.refl _ w).alloc hsw _).trans HS1.out.up |>.alloc HS1.out.hB _).drew)
    have HKP := Lib.hid (show Kept b w w2 from by
      rw [hw2]; exact ((Kept.alloc b w _).trans HS1.out.kept).trans (Kept.alloc b w1 _))
    have hs2 : w1.heap.size < w2.heap.size := by rw [hw2]; show _ < (w1.alloc _).heap.size; simp
    clear hw2 d0 d1 d2 d3 d4
    go_loopw [47] (fun i wr => ∃ k : Nat, k ≤ 0 ∧ i = .int .i64 k ∧ WSt w0 b w2 (bs ++ Lib.byteCells ([40] ++ headL t.k) ++ Lib.byteCells (lvP t.i t.j k)) wr) (fun i _ => 0 - (intOf i).toNat)
    case atStart => exact ⟨0, by omega, rfl, by simpa [lvP, Lib.byteCells] using HS2.out⟩
    case round =>
      obtain ⟨k, hk, rfl, hst⟩ := hrel
      have hrow := hst.at HRW2.out (by have := HBL.out; omega) ti_ne
      have r0 : wr.cell? ⟨w1.heap.size, 0, none⟩ = some (.int .i64 t.i) := by rw [Lib.cell_of_heap hrow]; rfl
      have r1 : wr.cell? ⟨w1.heap.size, 1, none⟩ = some (.int .i64 t.j) := by rw [Lib.cell_of_heap hrow]; rfl
      have hbox := hst.at HBX2.out (by have := HBL.out; omega) ut_ne
      have d0 : wr.cell? ⟨w.heap.size, 0, none⟩ = some (.int .i64 t.k) := by rw [Lib.cell_of_heap hbox]; rfl
      have d4 : wr.cell? ⟨w.heap.size, 4, none⟩ = some (.slice a t.kids.length cap) := by rw [Lib.cell_of_heap hbox]; rfl
      have HST := Lib.hid hst
      clear hrow hbox hst
      obtain rfl : k = 0 := by omega
      go_wp2_with fail
      refine (binds_any _ _ _).mono ?_
      rintro e w5 ⟨rfl, rfl⟩
      rw [HBD.out]
      go_wp2_with fail
      clear r0 r1 d0 d4
      go_loopw [69] (fun i wv => ∃ q : Nat, q ≤ t.kids.length ∧ i = .int .i64 q ∧ WSt w0 b w2 (bs ++ Lib.byteCells ([40] ++ headL t.k ++ frontL t.k t.i t.j t.n m ++ wrs t.k 0 (t.kids.take q) m)) wv) (fun i _ => t.kids.length - (intOf i).toNat)
      case atStart => exact ⟨0, Nat.zero_le _, rfl, by have h := HST.out; rw [HFR.out]; simpa [wrs, lvP, Lib.byteCells] using h⟩
      case round =>
        obtain ⟨q, hq, rfl, hv⟩ := hrel
        have HV := Lib.hid hv
        have HBX3 := Lib.hid (hv.at HBX2.out (by have := HBL.out; omega) ut_ne)
        have hsv : w.heap.size < wr.heap.size := by have := HV.out.size; omega
        have d0 : wr.cell? ⟨w.heap.size, 0, none⟩ = some (.int .i64 t.k) := by rw [Lib.cell_of_heap HBX3.out]; rfl
        clear hv HST
        by_cases hlt : q < t.kids.length
        · obtain ⟨bn, o, rfl, hx⟩ := HN.out q hlt
          obtain ⟨c0, c1, c2, c3, c4⟩ := hx.below HV.out.low hx.lt
          have hq4 := HK.out q hlt
          obtain ⟨a', cap', S', hS, -⟩ := hq4.out
          rw [hS] at c4 hq4
          have HQ := Lib.hid hq4
          have HM := Lib.hid (List.getElem_mem hlt)
          have HROOM := Lib.hid (put_room HRR.out h0 HF.out hm hlt)
          have HTK := Lib.hid (wrs_take t.k m t.kids 0 q hlt)
          have HKF := Lib.hid (kid_free HF.out hlt)
          have HKS := Lib.hid (kid_size hlt)
          have HV5 := Lib.hid (HV.out.call (wr' := wr.alloc (.cells #[.int .i64 t.kids[q].k, .int .i64 t.kids[q].i, .int .i64 t.kids[q].j, .int .i64 t.kids[q].n, .slice a' t.kids[q].kids.length cap'] 24)) ((Below.refl _ _).alloc (Nat.le_refl _) _)).again
          clear hS hq4 hx
          have hbr := binds_range t.k q
          have HMD := Lib.hid (show midL t.k (0 + q) m = [] from if_neg (fun h => by have := h.1; simp [this] at e22))
          go_wp2_with fail
          refine (bbyte_any _ b _ _ _ HV5.out.bld (by have h1 := HROOM.out; have h2 := HBS.out; simp [Lib.byteCells] ; omega) HV5.out.hB).mono ?_
          rintro e w6 ⟨rfl, hb6, hl6, hk6⟩
          have HS6 := Lib.hid (HV5.out.put hb6 hl6 hk6)
          clear hb6 hl6 hk6
          have hy := HS6.out.at (alloc_heap_new' wr _) (by have := HBL.out; omega) ut_ne
          have hz := HS6.out.at (j := w.heap.size) (by rw [Lib.alloc_old _ _ _ hsv]; exact HBX3.out) (by have := HBL.out; omega) ut_ne
          have HNE := Lib.hid (show wr.heap.size ≠ b ∧ w.heap.size ≠ b by have := HBL.out; omega)
          have HY := Lib.hid hy
          have HZ := Lib.hid hz
          clear hy hz
          have HS6d := Lib.hid (HS6.out.call (wr' := w6.drew) (Below.refl _ w6).drew)
          have hS0 := kid_keep2 HY.out HZ.out HNE.out (Kept.refl b w6)
          have hwr : IntKind.i64.wrap (m + bindsN t.k (q : Int)) = m + bindsN t.k (q : Int) := IntWalk.i64_in _ (by omega)
          go_wp2_with fail
          refine wp_region_held_drew (S := fun w' => Kept b w6 w' ∧ w'.heap[wr.heap.size]? = some (.cells #[.int .i64 t.kids[q].k, .int .i64 t.kids[q].i, .int .i64 t.kids[q].j, .int .i64 t.kids[q].n, .slice a' t.kids[q].kids.length cap'] 24) ∧ w'.cell? ⟨w.heap.size, 0, none⟩ = some (.int .i64 t.k)) (by kernel_rfl) ?_ (fun hHeld => ?_)
          · (try dsimp only)
            (first | exact hS8 | exact hHeld | exact hS0)
          refine take_at 0 93 o19E_0 (v := ?_) (Or.inl ⟨by rfl, ?_⟩) ?_
          rotate_left 1
          · ((intro w hSw; (try dsimp only at hSw); unfold o19E_0; go_simp) <;> with_reducible rfl)
          (try simp only [Act.put, List.setIfInBounds_toArray, List.set_cons_zero, List.set_cons_succ])
          refine take_at 1 94 o19E_1 (yields_row wr.heap.size _ _ _ #[.int .i64 t.kids[q].k, .int .i64 t.kids[q].i, .int .i64 t.kids[q].j, .int .i64 t.kids[q].n, .slice a' t.kids[q].kids.length cap'] _ du (by rfl) rfl (by rfl) (fun w' h => h.2.1) hu1 (by cases du <;> first | rfl | exact hu2) size_termW) ?_
          (try simp only [Act.put, List.setIfInBounds_toArray, List.set_cons_zero, List.set_cons_succ])
          refine take_at 2 95 o19E_2 (v := ?_) (Or.inl ⟨by rfl, ?_⟩) ?_
          rotate_left 1
          · ((intro w hSw; (try dsimp only at hSw); unfold o19E_2; go_simp) <;> with_reducible rfl)
          (try simp only [Act.put, List.setIfInBounds_toArray, List.set_cons_zero, List.set_cons_succ])
          refine take_at 3 96 o19E_3 (v := ?_) (Or.inl ⟨by rfl, ?_⟩) ?_
          rotate_left 1
          · ((intro w hSw; (try dsimp only at hSw); unfold o19E_3; go_simp) <;> with_reducible rfl)
          (try simp only [Act.put, List.setIfInBounds_toArray, List.set_cons_zero, List.set_cons_succ])
          refine take_at 4 97 o19E_4 (v := ?_) (Or.inl ⟨by rfl, ?_⟩) ?_
          rotate_left 1
          · ((intro w hSw; (try dsimp only at hSw); obtain ⟨hSa, hSb, hSc⟩ := hSw; unfold o19E_4; go_simp) <;> with_reducible rfl)
          (try simp only [Act.put, List.setIfInBounds_toArray, List.set_cons_zero, List.set_cons_succ])
          refine take_at 5 98 o19E_5 (v := ?_) (Or.inl ⟨by rfl, ?_⟩) ?_
          rotate_left 1
          · ((intro w hSw; (try dsimp only at hSw); unfold o19E_5; go_simp) <;> with_reducible rfl)
          (try simp only [Act.put, List.setIfInBounds_toArray, List.set_cons_zero, List.set_cons_succ])
          refine wpAnyH_ready (rs := [6]) (by kernel_rfl) (by simp) ?_
          refine AllReadyH.cons (o := o19E_6) rfl (fun K hK => ?_) ?_
          · unfold o19E_6
            go_simp
            (go_at_call 34; refine (binds_any _ _ _).mono ?_; rintro e w7 ⟨rfl, rfl⟩)
            refine hK.out _ _ ?_ (fun hHeld => ?_)
            · (try dsimp only)
              (first | exact hS8 | exact hHeld | exact hS0)
            clear hK K
            (try simp only [Act.put, List.setIfInBounds_toArray, List.set_cons_zero, List.set_cons_succ])
            refine take_at 7 100 o19E_7 (v := ?_) (Or.inl ⟨by rfl, ?_⟩) ?_
            rotate_left 1
            · ((intro w hSw; (try dsimp only at hSw); unfold o19E_7; go_simp) <;> with_reducible rfl)
            (try simp only [Act.put, List.setIfInBounds_toArray, List.set_cons_zero, List.set_cons_succ])
            refine wpAnyH_ready (rs := [8]) (by kernel_rfl) (by simp) ?_
            refine AllReadyH.cons (o := o19E_8) rfl (fun K hK => ?_) ?_
            · unfold o19E_8
              go_simp
              (go_at_call 19; with_reducible refine Calls.mono ((IH.out _ HM.out).use _ _ _ _ HQ.out HS6d.out.low HS6d.out.bld (HR.out _ HM.out) (by omega) HKF.out (by have := HKS.out; omega) (by have h1 := HROOM.out; have h2 := HBS.out; simp [Lib.byteCells] ; omega)) ?_; rintro e w8 ⟨rfl, hb8, hl8, hk8⟩)
              have HS8 := Lib.hid (HV.out.over (HS6d.out.put hb8 hl8 hk8))
              have hS8 := kid_keep2 HY.out HZ.out HNE.out hk8
              clear hb8 hl8 hk8 hHeld
              refine hK.out _ _ ?_ (fun hHeld => ?_)
              · (try dsimp only)
                (first | exact hS8 | exact hHeld | exact hS0)
              clear hK K
              (try simp only [Act.put, List.setIfInBounds_toArray, List.set_cons_zero, List.set_cons_succ])
              refine wpAnyH_done (by kernel_rfl) ?_ _
              go_wp2
              go_roundw
              case rel => exact ⟨q + 1, by omega, by go_num, by have h := HS8.out; rw [HTK.out, HMD.out]; simpa [Lib.byteCells] using h⟩
              case measure => simp [intOf]; omega
            exact AllReadyH.nil
          exact AllReadyH.nil
        · obtain rfl : q = t.kids.length := by omega
          go_wp2_with fail
          refine (bbyte_any _ b _ _ _ HV.out.bld (by have := HLN.out; simp [Lib.byteCells]; omega) HV.out.hB).mono ?_
          rintro e w6 ⟨rfl, hb6, hl6, hk6⟩
          have HS6 := Lib.hid (HV.out.put hb6 hl6 hk6)
          have HB6 := Lib.hid hb6
          clear hb6 hl6 hk6
          go_wp2
          go_end0
          exact ⟨rfl, by have h := HB6.out; rw [HX.out]; rw [List.take_length] at h; simpa [Lib.byteCells] using h, HUP.out.trans HS6.out.up, HKP.out.trans HS6.out.kept⟩
end Go.Proofs.YtficmfiekibjgaaDoor

namespace Go.Proofs.YtficmfiekibjgaaDoor
open Go.RowKit

def o19F_0 : Oper := { dst := some 93, op := Go.Op.move (Go.Operand.tmp 0), type := 37, pos := "write.go:60", after := #[], guard := none }
def o19F_1 : Oper := { dst := some 94, op := Go.Op.load 24 (Go.Operand.tmp 9), type := 24, pos := "write.go:60", after := #[], guard := none }
def o19F_2 : Oper := { dst := some 95, op := Go.Op.move (Go.Operand.tmp 2), type := 3, pos := "write.go:60", after := #[], guard := none }
def o19F_3 : Oper := { dst := some 96, op := Go.Op.fieldAddr 24 (Go.Operand.tmp 4) 0, type := 0, pos := "write.go:60", after := #[], guard := none }
def o19F_4 : Oper := { dst := some 97, op := Go.Op.load 3 (Go.Operand.tmp 96), type := 3, pos := "write.go:60", after := #[{ on := 3, ground := Go.Ground.data }], guard := none }
def o19F_5 : Oper := { dst := some 98, op := Go.Op.move (Go.Operand.tmp 8), type := 3, pos := "write.go:60", after := #[], guard := none }
def o19F_6 : Oper := { dst := some 99, op := Go.Op.call { callee := Go.Callee.value (Go.Operand.func 34), args := #[Go.Operand.tmp 97, Go.Operand.tmp 98], argTypes := #[3, 3] }, type := 3, pos := "write.go:60", after := #[{ on := 4, ground := Go.Ground.data }, { on := 5, ground := Go.Ground.data }], guard := none }
def o19F_7 : Oper := { dst := some 100, op := Go.Op.binOp Go.BinOp.add 3 (Go.Operand.tmp 95) (Go.Operand.tmp 99) 3, type := 3, pos := "write.go:60", after := #[{ on := 2, ground := Go.Ground.data }, { on := 6, ground := Go.Ground.data }], guard := none }
def o19F_8 : Oper := { dst := some 101, op := Go.Op.call { callee := Go.Callee.value (Go.Operand.func 19), args := #[Go.Operand.tmp 93, Go.Operand.tmp 94, Go.Operand.tmp 100], argTypes := #[37, 24, 3] }, type := 0, pos := "write.go:60", after := #[{ on := 0, ground := Go.Ground.data }, { on := 1, ground := Go.Ground.data }, { on := 7, ground := Go.Ground.data }, { on := 6, ground := Go.Ground.chain }], guard := none }

set_option maxHeartbeats 4000000 in
set_option maxRecDepth 100000 in
theorem wput_F (w0 : World) (hW : WTab w0) (b : Nat) (t : Tm) (ih : ∀ x ∈ t.kids, WPut w0 b x) (e2 : (t.k == 2) = false) (e22 : (t.k == 22) = true) (e23 : (t.k == 23) = false) (hbd : bindsN t.k 1 = 0) (hlv : levelsN t.k = 0) : WPut w0 b t := by
  intro w s bs m hl hlw hB hr h0 hf hm hbs
  obtain ⟨a, cap, S, rfl, hc, hmx, hfi, hn, hk⟩ := hl.out
  have hkr := t.node_kind (t.right_node hr)
  have hfit := right_fit hr
  obtain ⟨du, hu1, hu2⟩ := under_termW
  have HX := Lib.hid (show t.wr m = 40 :: (headL t.k ++ (frontL t.k t.i t.j t.n m ++ (wrs t.k 0 t.kids m ++ [41]))) by rw [t.wr_eq, if_neg (by simpa using e2)])
  have HS := Lib.hid (wst_start hB hlw (.cells #[.int .i64 t.k, .int .i64 t.i, .int .i64 t.j, .int .i64 t.n, .slice a t.kids.length cap] 24))
  have HBL := Lib.hid hB.lt
  have HW := Lib.hid hW
  have HL := Lib.hid (wr_len t m hr h0 hf hm)
  have HLN := Lib.hid (show bs.length + (1 + (headL t.k).length + (frontL t.k t.i t.j t.n m).length + (wrs t.k 0 t.kids m).length + 1) ≤ 140737488355328 from by
    have := HL.out; rw [HX.out] at this; simp only [List.length_append, List.length_cons, List.length_nil] at this; omega)
  have HN := Lib.hid hn
  have HK := Lib.hid hk
  have HBS := Lib.hid hbs
  have HR := Lib.hid (t.right_kids hr)
  have HF := Lib.hid (by rw [t.freeN_eq, if_neg (by simpa using e2)] at hf; exact hf : frees t.k 0 t.kids ≤ m)
  have IH := Lib.hid ih
  have hh := (HS.out.tab HW.out).heads_cell t.k (by omega) (by omega)
  have HLV := Lib.hid hlv
  have HFR := Lib.hid (show frontL t.k t.i t.j t.n m = ([]) ++ (lvP t.i t.j 0 ++ ([])) from by
    have hq : ¬ t.k = 23 := by simpa using e23
    unfold frontL lvlL; simp [hlv, hbd, hq, lvP])
  have HRR := Lib.hid hr
  have HBD := Lib.hid hbd
  have HFM := Lib.hid (show Fit m from ⟨by omega, by omega⟩)
  have HFM1 := Lib.hid (show Fit (m + 1) from ⟨by omega, by omega⟩)
  have hsw := hlw.size
  clear hB hlw hr hW hbs hn hk hl hf ih hfi hlv hbd
  have hk0 : 0 ≤ t.k := by omega
  have hk1 : t.k < 24 := by omega
  unfold tv
  unfold maxLen at hmx
  go_enter Tryd.func19, Tryd.ntmps19
  go_wp2_with fail
  · exfalso; have := head_len t.k; omega
  rw [show (⟨#[40]⟩ : ByteArray) = ⟨[(40 : UInt8)].toArray⟩ from rfl, str_add]
  refine (bstr_any _ b _ _ _ HS.out.bld (by have := HLN.out; simp [ByteArray.size]; omega) HS.out.hB).mono ?_
  rintro e w1 ⟨rfl, hb1, hl1, hk1⟩
  have HS1 := Lib.hid (HS.out.put hb1 hl1 hk1)
  rw [Lib.strCells_toArray] at HS1
  obtain ⟨d0, d1, d2, d3, d4⟩ := HS1.out.cells HBL.out
  have hsz : w.heap.size < w1.heap.size := by have := HS1.out.size; rw [World.size_alloc] at this; omega
  clear hb1 hl1 hk1 hh
  go_wp2_with fail
  go_region_held3 (fun w' => Below w1.heap.size w1 w' ∧ w'.cell? ⟨w.heap.size, 0, none⟩ = some (.int .i64 t.k) ∧ w'.cell? ⟨w.heap.size, 1, none⟩ = some (.int .i64 t.i) ∧ w'.cell? ⟨w.heap.size, 2, none⟩ = some (.int .i64 t.j))
    (first | (refine rl_keep hsz d0 d1 d2 ?_; repeat (first | exact Below.refl _ _ | (with_reducible assumption) | exact (by assumption : _ ∧ _).1 | refine Below.drew ?_ | refine Below.alloc ?_ (Nat.le_refl _) _)) | go_keep)
    (first | (go_at_call 32; refine (levels_any _ _).mono ?_; rintro e wn ⟨rfl, rfl⟩; rw [HLV.out]))
  all_goals
    rename_i hHeld
    clear hHeld
    go_wp2_with fail
    obtain ⟨w2, hw2⟩ : ∃ w2, w2 = (w1.alloc (.cells #[.int .i64 t.i, .int .i64 t.j] 3)).drew := ⟨_, rfl⟩
    rw [← hw2]
    have HS2 := Lib.hid (HS1.out.call (wr' := w2) (by rw [hw2]; exact ((Below.refl _ w1).alloc (Nat.le_refl _) _).drew)).again
    have HBX2 := Lib.hid (show w2.heap[w.heap.size]? = some (.cells #[.int .i64 t.k, .int .i64 t.i, .int .i64 t.j, .int .i64 t.n, .slice a t.kids.length cap] 24) from by
      have h := HS1.out.at (alloc_heap_new' w _) (by have := HBL.out; omega) ut_ne
      rw [hw2]; show (w1.alloc _).heap[w.heap.size]? = _; rw [Lib.alloc_old _ _ _ hsz]; exact h)
    have HRW2 := Lib.hid (show w2.heap[w1.heap.size]? = some (.cells #[.int .i64 t.i, .int .i64 t.j] 3) from by rw [hw2]; exact alloc_heap_new _ _)
    have HUP := Lib.hid (show Below w0.heap.size w w2 from by
      rw [hw2]; exact (((Below.refl _ w).alloc hsw _).trans HS1.out.up |>.alloc HS1.out.hB _).drew)
    have HKP := Lib.hid (show Kept b w w2 from by
      rw [hw2]; exact ((Kept.alloc b w _).trans HS1.out.kept).trans (Kept.alloc b w1 _))
    have hs2 : w1.heap.size < w2.heap.size := by rw [hw2]; show _ < (w1.alloc _).heap.size; simp
    clear hw2 d0 d1 d2 d3 d4
    go_loopw [47] (fun i wr => ∃ k : Nat, k ≤ 0 ∧ i = .int .i64 k ∧ WSt w0 b w2 (bs ++ Lib.byteCells ([40] ++ headL t.k) ++ Lib.byteCells (lvP t.i t.j k)) wr) (fun i _ => 0 - (intOf i).toNat)
    case atStart => exact ⟨0, by omega, rfl, by simpa [lvP, Lib.byteCells] using HS2.out⟩
    case round =>
      obtain ⟨k, hk, rfl, hst⟩ := hrel
      have hrow := hst.at HRW2.out (by have := HBL.out; omega) ti_ne
      have r0 : wr.cell? ⟨w1.heap.size, 0, none⟩ = some (.int .i64 t.i) := by rw [Lib.cell_of_heap hrow]; rfl
      have r1 : wr.cell? ⟨w1.heap.size, 1, none⟩ = some (.int .i64 t.j) := by rw [Lib.cell_of_heap hrow]; rfl
      have hbox := hst.at HBX2.out (by have := HBL.out; omega) ut_ne
      have d0 : wr.cell? ⟨w.heap.size, 0, none⟩ = some (.int .i64 t.k) := by rw [Lib.cell_of_heap hbox]; rfl
      have d4 : wr.cell? ⟨w.heap.size, 4, none⟩ = some (.slice a t.kids.length cap) := by rw [Lib.cell_of_heap hbox]; rfl
      have HST := Lib.hid hst
      clear hrow hbox hst
      obtain rfl : k = 0 := by omega
      go_wp2_with fail
      refine (binds_any _ _ _).mono ?_
      rintro e w5 ⟨rfl, rfl⟩
      rw [HBD.out]
      go_wp2_with fail
      clear r0 r1 d0 d4
      go_loopw [69] (fun i wv => ∃ q : Nat, q ≤ t.kids.length ∧ i = .int .i64 q ∧ WSt w0 b w2 (bs ++ Lib.byteCells ([40] ++ headL t.k ++ frontL t.k t.i t.j t.n m ++ wrs t.k 0 (t.kids.take q) m)) wv) (fun i _ => t.kids.length - (intOf i).toNat)
      case atStart => exact ⟨0, Nat.zero_le _, rfl, by have h := HST.out; rw [HFR.out]; simpa [wrs, lvP, Lib.byteCells] using h⟩
      case round =>
        obtain ⟨q, hq, rfl, hv⟩ := hrel
        have HV := Lib.hid hv
        have HBX3 := Lib.hid (hv.at HBX2.out (by have := HBL.out; omega) ut_ne)
        have hsv : w.heap.size < wr.heap.size := by have := HV.out.size; omega
        have d0 : wr.cell? ⟨w.heap.size, 0, none⟩ = some (.int .i64 t.k) := by rw [Lib.cell_of_heap HBX3.out]; rfl
        clear hv HST
        by_cases hlt : q < t.kids.length
        · obtain ⟨bn, o, rfl, hx⟩ := HN.out q hlt
          obtain ⟨c0, c1, c2, c3, c4⟩ := hx.below HV.out.low hx.lt
          have hq4 := HK.out q hlt
          obtain ⟨a', cap', S', hS, -⟩ := hq4.out
          rw [hS] at c4 hq4
          have HQ := Lib.hid hq4
          have HM := Lib.hid (List.getElem_mem hlt)
          have HROOM := Lib.hid (put_room HRR.out h0 HF.out hm hlt)
          have HTK := Lib.hid (wrs_take t.k m t.kids 0 q hlt)
          have HKF := Lib.hid (kid_free HF.out hlt)
          have HKS := Lib.hid (kid_size hlt)
          have HV5 := Lib.hid (HV.out.call (wr' := wr.alloc (.cells #[.int .i64 t.kids[q].k, .int .i64 t.kids[q].i, .int .i64 t.kids[q].j, .int .i64 t.kids[q].n, .slice a' t.kids[q].kids.length cap'] 24)) ((Below.refl _ _).alloc (Nat.le_refl _) _)).again
          clear hS hq4 hx
          have hbr := binds_range t.k q
          by_cases hq2 : q = 2
          · have HMD := Lib.hid (show midL t.k (0 + q) m = 32 :: (nameW m ++ 32 :: nameW (m + 1)) from by unfold midL; rw [if_pos ⟨by simpa using e22, by omega⟩])
            have HMR := Lib.hid (show midL t.k q m = 32 :: (nameW m ++ 32 :: nameW (m + 1)) from by unfold midL; rw [if_pos ⟨by simpa using e22, by omega⟩])
            have hqn : ((q : Int) == 2) = true := by simp; omega
            clear hq2
            have HROOM := Lib.hid (by have h := HROOM.out; rw [HMR.out] at h; exact h)
            have HNL := Lib.hid (name_len HFM.out)
            have HNL1 := Lib.hid (name_len HFM1.out)
            go_wp2_with fail
            refine (name_any m _ HFM.out (HV5.out.tab HW.out).pow).mono ?_
            rintro e w5 ⟨rfl, hb5⟩
            have HS5 := Lib.hid (HV5.out.call hb5)
            clear hb5
            go_wp2_with fail
            · exfalso; have := HNL.out; omega
            · exfalso; have := HNL.out; omega
            refine (name_any (m + 1) _ HFM1.out (HS5.out.tab HW.out).pow).mono ?_
            rintro e w5' ⟨rfl, hb5⟩
            have HSA := Lib.hid (HS5.out.call hb5)
            clear hb5
            go_wp2_with fail
            · exfalso; have := HNL.out; have := HNL1.out; omega
            rw [show (⟨#[32]⟩ : ByteArray) = ⟨[(32 : UInt8)].toArray⟩ from rfl, str_add, str_add, str_add]
            refine (bstr_any _ b _ _ _ HSA.out.bld (by have h1 := HROOM.out; have h2 := HBS.out; simp [ByteArray.size, Lib.byteCells] at h1 h2 ⊢; omega) HSA.out.hB).mono ?_
            rintro e w5'' ⟨rfl, hb5, hl5, hk5⟩
            have HSB := Lib.hid (HSA.out.put hb5 hl5 hk5)
            rw [Lib.strCells_toArray] at HSB
            clear hb5 hl5 hk5
            go_wp2_with fail
            refine (bbyte_any _ b _ _ _ HSB.out.bld (by have h1 := HROOM.out; have h2 := HBS.out; simp [Lib.byteCells] at h1 h2 ⊢; omega) HSB.out.hB).mono ?_
            rintro e w6 ⟨rfl, hb6, hl6, hk6⟩
            have HS6 := Lib.hid (HSB.out.put hb6 hl6 hk6)
            clear hb6 hl6 hk6
            have hy := HS6.out.at (alloc_heap_new' wr _) (by have := HBL.out; omega) ut_ne
            have hz := HS6.out.at (j := w.heap.size) (by rw [Lib.alloc_old _ _ _ hsv]; exact HBX3.out) (by have := HBL.out; omega) ut_ne
            have HNE := Lib.hid (show wr.heap.size ≠ b ∧ w.heap.size ≠ b by have := HBL.out; omega)
            have HY := Lib.hid hy
            have HZ := Lib.hid hz
            clear hy hz
            have HS6d := Lib.hid (HS6.out.call (wr' := w6.drew) (Below.refl _ w6).drew)
            have hS0 := kid_keep2 HY.out HZ.out HNE.out (Kept.refl b w6)
            have hwr : IntKind.i64.wrap (m + bindsN t.k (q : Int)) = m + bindsN t.k (q : Int) := IntWalk.i64_in _ (by omega)
            go_wp2_with fail
            refine wp_region_held_drew (S := fun w' => Kept b w6 w' ∧ w'.heap[wr.heap.size]? = some (.cells #[.int .i64 t.kids[q].k, .int .i64 t.kids[q].i, .int .i64 t.kids[q].j, .int .i64 t.kids[q].n, .slice a' t.kids[q].kids.length cap'] 24) ∧ w'.cell? ⟨w.heap.size, 0, none⟩ = some (.int .i64 t.k)) (by kernel_rfl) ?_ (fun hHeld => ?_)
            · (try dsimp only)
              (first | exact hS8 | exact hHeld | exact hS0)
            refine take_at 0 93 o19F_0 (v := ?_) (Or.inl ⟨by rfl, ?_⟩) ?_
            rotate_left 1
            · ((intro w hSw; (try dsimp only at hSw); unfold o19F_0; go_simp) <;> with_reducible rfl)
            (try simp only [Act.put, List.setIfInBounds_toArray, List.set_cons_zero, List.set_cons_succ])
            refine take_at 1 94 o19F_1 (yields_row wr.heap.size _ _ _ #[.int .i64 t.kids[q].k, .int .i64 t.kids[q].i, .int .i64 t.kids[q].j, .int .i64 t.kids[q].n, .slice a' t.kids[q].kids.length cap'] _ du (by rfl) rfl (by rfl) (fun w' h => h.2.1) hu1 (by cases du <;> first | rfl | exact hu2) size_termW) ?_
            (try simp only [Act.put, List.setIfInBounds_toArray, List.set_cons_zero, List.set_cons_succ])
            refine take_at 2 95 o19F_2 (v := ?_) (Or.inl ⟨by rfl, ?_⟩) ?_
            rotate_left 1
            · ((intro w hSw; (try dsimp only at hSw); unfold o19F_2; go_simp) <;> with_reducible rfl)
            (try simp only [Act.put, List.setIfInBounds_toArray, List.set_cons_zero, List.set_cons_succ])
            refine take_at 3 96 o19F_3 (v := ?_) (Or.inl ⟨by rfl, ?_⟩) ?_
            rotate_left 1
            · ((intro w hSw; (try dsimp only at hSw); unfold o19F_3; go_simp) <;> with_reducible rfl)
            (try simp only [Act.put, List.setIfInBounds_toArray, List.set_cons_zero, List.set_cons_succ])
            refine take_at 4 97 o19F_4 (v := ?_) (Or.inl ⟨by rfl, ?_⟩) ?_
            rotate_left 1
            · ((intro w hSw; (try dsimp only at hSw); obtain ⟨hSa, hSb, hSc⟩ := hSw; unfold o19F_4; go_simp) <;> with_reducible rfl)
            (try simp only [Act.put, List.setIfInBounds_toArray, List.set_cons_zero, List.set_cons_succ])
            refine take_at 5 98 o19F_5 (v := ?_) (Or.inl ⟨by rfl, ?_⟩) ?_
            rotate_left 1
            · ((intro w hSw; (try dsimp only at hSw); unfold o19F_5; go_simp) <;> with_reducible rfl)
            (try simp only [Act.put, List.setIfInBounds_toArray, List.set_cons_zero, List.set_cons_succ])
            refine wpAnyH_ready (rs := [6]) (by kernel_rfl) (by simp) ?_
            refine AllReadyH.cons (o := o19F_6) rfl (fun K hK => ?_) ?_
            · unfold o19F_6
              go_simp
              (go_at_call 34; refine (binds_any _ _ _).mono ?_; rintro e w7 ⟨rfl, rfl⟩)
              refine hK.out _ _ ?_ (fun hHeld => ?_)
              · (try dsimp only)
                (first | exact hS8 | exact hHeld | exact hS0)
              clear hK K
              (try simp only [Act.put, List.setIfInBounds_toArray, List.set_cons_zero, List.set_cons_succ])
              refine take_at 7 100 o19F_7 (v := ?_) (Or.inl ⟨by rfl, ?_⟩) ?_
              rotate_left 1
              · ((intro w hSw; (try dsimp only at hSw); unfold o19F_7; go_simp) <;> with_reducible rfl)
              (try simp only [Act.put, List.setIfInBounds_toArray, List.set_cons_zero, List.set_cons_succ])
              refine wpAnyH_ready (rs := [8]) (by kernel_rfl) (by simp) ?_
              refine AllReadyH.cons (o := o19F_8) rfl (fun K hK => ?_) ?_
              · unfold o19F_8
                go_simp
                (go_at_call 19; with_reducible refine Calls.mono ((IH.out _ HM.out).use _ _ _ _ HQ.out HS6d.out.low HS6d.out.bld (HR.out _ HM.out) (by omega) HKF.out (by have := HKS.out; omega) (by have h1 := HROOM.out; have h2 := HBS.out; simp [Lib.byteCells] at h1 h2 ⊢; omega)) ?_; rintro e w8 ⟨rfl, hb8, hl8, hk8⟩)
                have HS8 := Lib.hid (HV.out.over (HS6d.out.put hb8 hl8 hk8))
                have hS8 := kid_keep2 HY.out HZ.out HNE.out hk8
                clear hb8 hl8 hk8 hHeld
                refine hK.out _ _ ?_ (fun hHeld => ?_)
                · (try dsimp only)
                  (first | exact hS8 | exact hHeld | exact hS0)
                clear hK K
                (try simp only [Act.put, List.setIfInBounds_toArray, List.set_cons_zero, List.set_cons_succ])
                refine wpAnyH_done (by kernel_rfl) ?_ _
                go_wp2
                go_roundw
                case rel => exact ⟨q + 1, by omega, by go_num, by have h := HS8.out; rw [HTK.out, HMD.out]; simpa [Lib.byteCells] using h⟩
                case measure => simp [intOf]; omega
              exact AllReadyH.nil
            exact AllReadyH.nil
          · have HMD := Lib.hid (show midL t.k (0 + q) m = [] from if_neg (fun h => by have := h.2; omega))
            have hqn : ((q : Int) == 2) = false := by simp; omega
            go_wp2_with fail
            refine (bbyte_any _ b _ _ _ HV5.out.bld (by have h1 := HROOM.out; have h2 := HBS.out; simp [Lib.byteCells] ; omega) HV5.out.hB).mono ?_
            rintro e w6 ⟨rfl, hb6, hl6, hk6⟩
            have HS6 := Lib.hid (HV5.out.put hb6 hl6 hk6)
            clear hb6 hl6 hk6
            have hy := HS6.out.at (alloc_heap_new' wr _) (by have := HBL.out; omega) ut_ne
            have hz := HS6.out.at (j := w.heap.size) (by rw [Lib.alloc_old _ _ _ hsv]; exact HBX3.out) (by have := HBL.out; omega) ut_ne
            have HNE := Lib.hid (show wr.heap.size ≠ b ∧ w.heap.size ≠ b by have := HBL.out; omega)
            have HY := Lib.hid hy
            have HZ := Lib.hid hz
            clear hy hz
            have HS6d := Lib.hid (HS6.out.call (wr' := w6.drew) (Below.refl _ w6).drew)
            have hS0 := kid_keep2 HY.out HZ.out HNE.out (Kept.refl b w6)
            have hwr : IntKind.i64.wrap (m + bindsN t.k (q : Int)) = m + bindsN t.k (q : Int) := IntWalk.i64_in _ (by omega)
            go_wp2_with fail
            refine wp_region_held_drew (S := fun w' => Kept b w6 w' ∧ w'.heap[wr.heap.size]? = some (.cells #[.int .i64 t.kids[q].k, .int .i64 t.kids[q].i, .int .i64 t.kids[q].j, .int .i64 t.kids[q].n, .slice a' t.kids[q].kids.length cap'] 24) ∧ w'.cell? ⟨w.heap.size, 0, none⟩ = some (.int .i64 t.k)) (by kernel_rfl) ?_ (fun hHeld => ?_)
            · (try dsimp only)
              (first | exact hS8 | exact hHeld | exact hS0)
            refine take_at 0 93 o19F_0 (v := ?_) (Or.inl ⟨by rfl, ?_⟩) ?_
            rotate_left 1
            · ((intro w hSw; (try dsimp only at hSw); unfold o19F_0; go_simp) <;> with_reducible rfl)
            (try simp only [Act.put, List.setIfInBounds_toArray, List.set_cons_zero, List.set_cons_succ])
            refine take_at 1 94 o19F_1 (yields_row wr.heap.size _ _ _ #[.int .i64 t.kids[q].k, .int .i64 t.kids[q].i, .int .i64 t.kids[q].j, .int .i64 t.kids[q].n, .slice a' t.kids[q].kids.length cap'] _ du (by rfl) rfl (by rfl) (fun w' h => h.2.1) hu1 (by cases du <;> first | rfl | exact hu2) size_termW) ?_
            (try simp only [Act.put, List.setIfInBounds_toArray, List.set_cons_zero, List.set_cons_succ])
            refine take_at 2 95 o19F_2 (v := ?_) (Or.inl ⟨by rfl, ?_⟩) ?_
            rotate_left 1
            · ((intro w hSw; (try dsimp only at hSw); unfold o19F_2; go_simp) <;> with_reducible rfl)
            (try simp only [Act.put, List.setIfInBounds_toArray, List.set_cons_zero, List.set_cons_succ])
            refine take_at 3 96 o19F_3 (v := ?_) (Or.inl ⟨by rfl, ?_⟩) ?_
            rotate_left 1
            · ((intro w hSw; (try dsimp only at hSw); unfold o19F_3; go_simp) <;> with_reducible rfl)
            (try simp only [Act.put, List.setIfInBounds_toArray, List.set_cons_zero, List.set_cons_succ])
            refine take_at 4 97 o19F_4 (v := ?_) (Or.inl ⟨by rfl, ?_⟩) ?_
            rotate_left 1
            · ((intro w hSw; (try dsimp only at hSw); obtain ⟨hSa, hSb, hSc⟩ := hSw; unfold o19F_4; go_simp) <;> with_reducible rfl)
            (try simp only [Act.put, List.setIfInBounds_toArray, List.set_cons_zero, List.set_cons_succ])
            refine take_at 5 98 o19F_5 (v := ?_) (Or.inl ⟨by rfl, ?_⟩) ?_
            rotate_left 1
            · ((intro w hSw; (try dsimp only at hSw); unfold o19F_5; go_simp) <;> with_reducible rfl)
            (try simp only [Act.put, List.setIfInBounds_toArray, List.set_cons_zero, List.set_cons_succ])
            refine wpAnyH_ready (rs := [6]) (by kernel_rfl) (by simp) ?_
            refine AllReadyH.cons (o := o19F_6) rfl (fun K hK => ?_) ?_
            · unfold o19F_6
              go_simp
              (go_at_call 34; refine (binds_any _ _ _).mono ?_; rintro e w7 ⟨rfl, rfl⟩)
              refine hK.out _ _ ?_ (fun hHeld => ?_)
              · (try dsimp only)
                (first | exact hS8 | exact hHeld | exact hS0)
              clear hK K
              (try simp only [Act.put, List.setIfInBounds_toArray, List.set_cons_zero, List.set_cons_succ])
              refine take_at 7 100 o19F_7 (v := ?_) (Or.inl ⟨by rfl, ?_⟩) ?_
              rotate_left 1
              · ((intro w hSw; (try dsimp only at hSw); unfold o19F_7; go_simp) <;> with_reducible rfl)
              (try simp only [Act.put, List.setIfInBounds_toArray, List.set_cons_zero, List.set_cons_succ])
              refine wpAnyH_ready (rs := [8]) (by kernel_rfl) (by simp) ?_
              refine AllReadyH.cons (o := o19F_8) rfl (fun K hK => ?_) ?_
              · unfold o19F_8
                go_simp
                (go_at_call 19; with_reducible refine Calls.mono ((IH.out _ HM.out).use _ _ _ _ HQ.out HS6d.out.low HS6d.out.bld (HR.out _ HM.out) (by omega) HKF.out (by have := HKS.out; omega) (by have h1 := HROOM.out; have h2 := HBS.out; simp [Lib.byteCells] ; omega)) ?_; rintro e w8 ⟨rfl, hb8, hl8, hk8⟩)
                have HS8 := Lib.hid (HV.out.over (HS6d.out.put hb8 hl8 hk8))
                have hS8 := kid_keep2 HY.out HZ.out HNE.out hk8
                clear hb8 hl8 hk8 hHeld
                refine hK.out _ _ ?_ (fun hHeld => ?_)
                · (try dsimp only)
                  (first | exact hS8 | exact hHeld | exact hS0)
                clear hK K
                (try simp only [Act.put, List.setIfInBounds_toArray, List.set_cons_zero, List.set_cons_succ])
                refine wpAnyH_done (by kernel_rfl) ?_ _
                go_wp2
                go_roundw
                case rel => exact ⟨q + 1, by omega, by go_num, by have h := HS8.out; rw [HTK.out, HMD.out]; simpa [Lib.byteCells] using h⟩
                case measure => simp [intOf]; omega
              exact AllReadyH.nil
            exact AllReadyH.nil
        · obtain rfl : q = t.kids.length := by omega
          go_wp2_with fail
          refine (bbyte_any _ b _ _ _ HV.out.bld (by have := HLN.out; simp [Lib.byteCells]; omega) HV.out.hB).mono ?_
          rintro e w6 ⟨rfl, hb6, hl6, hk6⟩
          have HS6 := Lib.hid (HV.out.put hb6 hl6 hk6)
          have HB6 := Lib.hid hb6
          clear hb6 hl6 hk6
          go_wp2
          go_end0
          exact ⟨rfl, by have h := HB6.out; rw [HX.out]; rw [List.take_length] at h; simpa [Lib.byteCells] using h, HUP.out.trans HS6.out.up, HKP.out.trans HS6.out.kept⟩
end Go.Proofs.YtficmfiekibjgaaDoor

namespace Go.Proofs.YtficmfiekibjgaaDoor
open Go.RowKit

theorem wput_any (w0 : World) (hW : WTab w0) (b : Nat) (t : Tm) : WPut w0 b t := by
  induction t using Tm.ind with
  | h t ih =>
    intro w s bs m hl hlw hB hr h0 hf hm hbs
    have hz := t.size_eq
    have hk := t.node_kind (t.right_node hr)
    by_cases h2 : t.k = 2
    · exact wput_var w0 hW b t w s bs m hlw hB hr h2 h0 hf (by omega) (by omega)
    have e2 : (t.k == 2) = false := by simpa using h2
    have hc : t.k = 1 ∨ t.k = 3 ∨ t.k = 4 ∨ t.k = 5 ∨ t.k = 6 ∨ t.k = 7 ∨ t.k = 8 ∨ t.k = 9 ∨ t.k = 10 ∨ t.k = 11 ∨ t.k = 12 ∨ t.k = 13 ∨ t.k = 14 ∨ t.k = 15 ∨ t.k = 16 ∨ t.k = 17 ∨ t.k = 18 ∨ t.k = 19 ∨ t.k = 20 ∨ t.k = 21 ∨ t.k = 22 ∨ t.k = 23 := by omega
    rcases hc with h | h | h | h | h | h | h | h | h | h | h | h | h | h | h | h | h | h | h | h | h | h
    · exact wput_A w0 hW b t ih e2 (by rw [h]; decide) (by rw [h]; decide) (by rw [h]; decide) (by rw [h]; decide) w s bs m hl hlw hB hr h0 hf hm hbs
    · exact wput_B w0 hW b t ih e2 (by rw [h]; decide) (by rw [h]; decide) (by rw [h]; decide) (by rw [h]; decide) w s bs m hl hlw hB hr h0 hf hm hbs
    · exact wput_B w0 hW b t ih e2 (by rw [h]; decide) (by rw [h]; decide) (by rw [h]; decide) (by rw [h]; decide) w s bs m hl hlw hB hr h0 hf hm hbs
    · exact wput_B w0 hW b t ih e2 (by rw [h]; decide) (by rw [h]; decide) (by rw [h]; decide) (by rw [h]; decide) w s bs m hl hlw hB hr h0 hf hm hbs
    · exact wput_B w0 hW b t ih e2 (by rw [h]; decide) (by rw [h]; decide) (by rw [h]; decide) (by rw [h]; decide) w s bs m hl hlw hB hr h0 hf hm hbs
    · exact wput_B w0 hW b t ih e2 (by rw [h]; decide) (by rw [h]; decide) (by rw [h]; decide) (by rw [h]; decide) w s bs m hl hlw hB hr h0 hf hm hbs
    · exact wput_B w0 hW b t ih e2 (by rw [h]; decide) (by rw [h]; decide) (by rw [h]; decide) (by rw [h]; decide) w s bs m hl hlw hB hr h0 hf hm hbs
    · exact wput_B w0 hW b t ih e2 (by rw [h]; decide) (by rw [h]; decide) (by rw [h]; decide) (by rw [h]; decide) w s bs m hl hlw hB hr h0 hf hm hbs
    · exact wput_A w0 hW b t ih e2 (by rw [h]; decide) (by rw [h]; decide) (by rw [h]; decide) (by rw [h]; decide) w s bs m hl hlw hB hr h0 hf hm hbs
    · exact wput_A w0 hW b t ih e2 (by rw [h]; decide) (by rw [h]; decide) (by rw [h]; decide) (by rw [h]; decide) w s bs m hl hlw hB hr h0 hf hm hbs
    · exact wput_A w0 hW b t ih e2 (by rw [h]; decide) (by rw [h]; decide) (by rw [h]; decide) (by rw [h]; decide) w s bs m hl hlw hB hr h0 hf hm hbs
    · exact wput_D w0 hW b t ih e2 (by rw [h]; decide) (by rw [h]; decide) (by rw [h]; decide) (by rw [h]; decide) w s bs m hl hlw hB hr h0 hf hm hbs
    · exact wput_D w0 hW b t ih e2 (by rw [h]; decide) (by rw [h]; decide) (by rw [h]; decide) (by rw [h]; decide) w s bs m hl hlw hB hr h0 hf hm hbs
    · exact wput_E w0 hW b t ih e2 (by rw [h]; decide) (by rw [h]; decide) (by rw [h]; decide) (by rw [h]; decide) w s bs m hl hlw hB hr h0 hf hm hbs
    · exact wput_D w0 hW b t ih e2 (by rw [h]; decide) (by rw [h]; decide) (by rw [h]; decide) (by rw [h]; decide) w s bs m hl hlw hB hr h0 hf hm hbs
    · exact wput_D w0 hW b t ih e2 (by rw [h]; decide) (by rw [h]; decide) (by rw [h]; decide) (by rw [h]; decide) w s bs m hl hlw hB hr h0 hf hm hbs
    · exact wput_E w0 hW b t ih e2 (by rw [h]; decide) (by rw [h]; decide) (by rw [h]; decide) (by rw [h]; decide) w s bs m hl hlw hB hr h0 hf hm hbs
    · exact wput_E w0 hW b t ih e2 (by rw [h]; decide) (by rw [h]; decide) (by rw [h]; decide) (by rw [h]; decide) w s bs m hl hlw hB hr h0 hf hm hbs
    · exact wput_E w0 hW b t ih e2 (by rw [h]; decide) (by rw [h]; decide) (by rw [h]; decide) (by rw [h]; decide) w s bs m hl hlw hB hr h0 hf hm hbs
    · exact wput_E w0 hW b t ih e2 (by rw [h]; decide) (by rw [h]; decide) (by rw [h]; decide) (by rw [h]; decide) w s bs m hl hlw hB hr h0 hf hm hbs
    · exact wput_F w0 hW b t ih e2 (by rw [h]; decide) (by rw [h]; decide) (by rw [h]; decide) (by rw [h]; decide) w s bs m hl hlw hB hr h0 hf hm hbs
    · exact wput_C w0 hW b t ih e2 (by rw [h]; decide) (by rw [h]; decide) (by rw [h]; decide) (by rw [h]; decide) w s bs m hl hlw hB hr h0 hf hm hbs
end Go.Proofs.YtficmfiekibjgaaDoor

namespace Go.Proofs.YtficmfiekibjgaaDoor
open Go.RowKit

set_option maxHeartbeats 2000000 in
set_option maxRecDepth 100000 in
theorem write_any (t : Tm) (n : Int) (w : World) (s : Value) (hl : Lies w t.kids s) (hW : WTab w) (hz : t.size ≤ 1000000) :
    Calls Tryd.prog 7 #[tv t s, .int .i64 n] w fun e w' => e = .returned (.string ⟨(writeB t n).toArray⟩) ∧ Below w.heap.size w w' := by
  obtain ⟨a, cap, S, hs, -⟩ := hl.out
  subst hs
  have HB := (Below.refl (w.heap.size + 1) (w.alloc (.cells #[.int .i64 t.k, .int .i64 t.i, .int .i64 t.j, .int .i64 t.n, .slice a t.kids.length cap] 24)))
  have HL := Lib.hid (hl.keep (below_of_box HB))
  have HBX := Lib.hid (fun (wr : World) => box_cells (w := w) (wr := wr) (v0 := .int .i64 t.k) (v1 := .int .i64 t.i) (v2 := .int .i64 t.j) (v3 := .int .i64 t.n) (v4 := .slice a t.kids.length cap) (T := 24))
  have HW := Lib.hid hW
  have HB0 := Lib.hid HB
  obtain ⟨d0, d1, d2, d3, d4⟩ := HBX.out _ HB
  clear hl hW HB
  unfold tv
  go_enter Tryd.func7, Tryd.ntmps7
  by_cases h1 : n < 0
  · go_wp2
    go_ret
    exact ⟨by unfold writeB; rw [if_neg (by omega)]; rfl, below_of_box HB0.out⟩
  by_cases h2 : 1000000 < n
  · go_wp2
    go_ret
    exact ⟨by unfold writeB; rw [if_neg (by omega)]; rfl, below_of_box HB0.out⟩
  cases hr : t.rightB
  · go_wp2_with fail
    refine (right_any t _ _ HL.out).mono ?_
    rintro e w1 ⟨rfl, hb1⟩
    rw [hr]
    have HB1 := Lib.hid (below_call HB0.out hb1 (by simp))
    clear hb1
    go_wp2
    go_ret
    exact ⟨by unfold writeB; rw [if_neg (by rw [hr]; simp)]; rfl, below_of_box HB1.out⟩
  go_wp2_with fail
  refine (right_any t _ _ HL.out).mono ?_
  rintro e w1 ⟨rfl, hb1⟩
  rw [hr]
  have HB1 := Lib.hid (below_call HB0.out hb1 (by simp))
  have HL1 := Lib.hid (HL.out.keep hb1)
  clear hb1 d0 d1 d2 d3 d4
  obtain ⟨d0, d1, d2, d3, d4⟩ := HBX.out _ HB1.out
  go_wp2_with fail
  refine (Free_any t _ _ HL1.out).mono ?_
  rintro e w2 ⟨rfl, hb2⟩
  have HB2 := Lib.hid (below_call HB1.out hb2 (by have := HB1.out.size; simpa using this))
  have HL2 := Lib.hid (HL1.out.keep hb2)
  clear hb2 d0 d1 d2 d3 d4
  obtain ⟨d0, d1, d2, d3, d4⟩ := HBX.out _ HB2.out
  have hW2 := Lib.hid (HW.out.later (below_of_box HB2.out))
  by_cases h3 : n < t.freeB
  · go_wp2
    go_ret
    exact ⟨by unfold writeB; rw [if_neg (by omega)]; rfl, below_of_box HB2.out⟩
  have hfn : t.freeN ≤ n := by unfold Tm.freeB at h3; rw [if_pos hr] at h3; omega
  have hlt : w.heap.size < w2.heap.size := by have := HB2.out.size; simp at this; omega
  go_wp2_with fail
  refine ((wput_any w2 hW2.out w2.heap.size t).use _ _ [] n HL2.out ((Below.refl _ w2).alloc (Nat.le_refl _) _) (Lib.fresh_isBuilder _ _ w2) hr (by omega) hfn (by omega) (by simp; omega)).mono ?_
  rintro e w3 ⟨rfl, hb3, hl3, hk3⟩
  have HB3 := Lib.hid hb3
  have HL3 := Lib.hid hl3
  clear hb3 hl3 hk3
  go_wp2_with fail
  refine (btext_any _ _ _ (t.wr n) w3 (by simpa using HB3.out) (wr_some t n)).mono ?_
  rintro e w4 ⟨rfl, hb4⟩
  have HB4 := Lib.hid hb4
  clear hb4
  go_wp2
  go_ret
  exact ⟨by unfold writeB; rw [if_pos ⟨by omega, hr, by omega⟩]; rfl, (below_of_box HB2.out).trans ((((Below.refl _ w2).alloc (Nat.le_refl _) _).trans (HL3.out.trans HB4.out)).mono (by omega))⟩

/-- A row of texts. -/
def sv (x : List UInt8) : Value := .string ⟨x.toArray⟩
def SRow (B : Nat) (w : World) (v : Value) (l : List (List UInt8)) : Prop := w.ownsRow B 9 1 v l.length (l.map sv)
theorem SRow.len {B : Nat} {w : World} {v : Value} {l : List (List UInt8)} (h : SRow B w v l) : ∃ a cap, v = .slice a l.length cap := by
  rcases h.2 with ⟨rfl, h0⟩ | ⟨g, cap, cur, rfl, r⟩
  · exact ⟨none, 0, by rw [h0]⟩
  · exact ⟨_, cap, rfl⟩
theorem SRow.cell {B g : Nat} {w : World} {n cap : Nat} {l : List (List UInt8)} (h : SRow B w (.slice (some ⟨g, 0, none⟩) n cap) l) (i : Nat) (hi : i < l.length) : w.cell? ⟨g, i, none⟩ = some (sv l[i]) := by
  have := h.cells (g := g) rfl i (sv l[i]) (by simp [hi])
  cases i <;> simpa [Addr.add] using this
theorem SRow.keep {B : Nat} {w w' : World} {v : Value} {l : List (List UInt8)} (h : SRow B w v l) (hb : Below w.heap.size w w') : SRow B w' v l := by
  refine ⟨h.1, ?_⟩
  rcases h.2 with h2 | ⟨g, cap, cur, hv, hg, hh, r⟩
  · exact Or.inl h2
  · refine Or.inr ⟨g, cap, cur, hv, hg, ?_, r⟩
    rw [hb.block g ?_]; exact hh
    exact (Array.getElem?_eq_some_iff.1 hh).1
def vnames (n : Nat) : List (List UInt8) := (List.range n).map fun (i : Nat) => nameW (i : Int)
theorem vnames_set (n k : Nat) (h : k < n) : ((vnames k ++ List.replicate (n - k) []).set k (nameW (k : Int))) = vnames (k + 1) ++ List.replicate (n - (k + 1)) [] := by
  have hl : (vnames k).length = k := by simp [vnames]
  rw [List.set_append_right _ _ (by omega), hl, Nat.sub_self, show n - k = (n - (k + 1)) + 1 by omega, List.replicate_succ, List.set_cons_zero]
  unfold vnames
  rw [List.range_succ]; simp
theorem str_info : (Tryd.prog.info? 9).map (fun i => (i.zero, i.size, i.bytes)) = some (some (.string ⟨#[]⟩), 1, 16) := by kernel_rfl

set_option maxHeartbeats 2000000 in
set_option maxRecDepth 100000 in
theorem names_any (n : Int) (w : World) (hW : WTab w) :
    Calls Tryd.prog 13 #[.int .i64 n] w fun e w' => ∃ v, e = .returned v ∧ SRow w.heap.size w' v (if 0 ≤ n ∧ n ≤ 1000000 then vnames n.toNat else []) ∧ Below w.heap.size w w' := by
  have HW := Lib.hid hW
  obtain ⟨i0, hi, hz0, hz1, hz2⟩ := info_parts str_info
  have HI := Lib.hid (And.intro hi (And.intro hz0 (And.intro hz1 hz2)))
  clear hW hi hz0 hz1 hz2
  go_enter Tryd.func13, Tryd.ntmps13
  by_cases h1 : n < 0
  · go_wp2
    go_ret
    exact ⟨_, rfl, by (try rw [if_neg (by omega)]); exact World.ownsRow_nil _ _ _ _, Below.refl _ _⟩
  by_cases h2 : 1000000 < n
  · go_wp2
    go_ret
    exact ⟨_, rfl, by (try rw [if_neg (by omega)]); exact World.ownsRow_nil _ _ _ _, Below.refl _ _⟩
  obtain ⟨m, rfl⟩ : ∃ m : Nat, n = (m : Int) := ⟨n.toNat, by omega⟩
  go_wp2_with (at_make; refine wpList_make_full _ rfl _ _ 32 rfl w.heap.size 9 i0 _ 1 (by kernel_rfl) HI.out.1 HI.out.2.1 HI.out.2.2.1 _ _ _ _ m rfl rfl rfl rfl ?bytes ?max ?base ?next)
  case bytes => rw [HI.out.2.2.2]; omega
  case max => unfold maxLen; omega
  case next =>
  intro w2 hown hgrow
  obtain ⟨g, hg⟩ : ∃ g, w.heap.size = g := ⟨_, rfl⟩
  have HO := Lib.hid (show SRow w.heap.size w2 (.slice (some ⟨g, 0, none⟩) m m) (vnames 0 ++ List.replicate (m - 0) []) from by
    have h := hown
    simp only [toList_madeCells_one] at h
    rw [hg] at h ⊢
    unfold SRow; simpa [vnames, sv] using h)
  have HBG := Lib.hid (show Below w.heap.size w w2 from Below.grown (Below.refl _ w) hgrow (Nat.le_refl _) (by simp))
  rw [hg]
  clear hown hgrow
  go_wp2_with fail
  go_loopw [15] (fun i wr => ∃ k : Nat, k ≤ m ∧ i = .int .i64 k ∧ SRow g wr (.slice (some ⟨g, 0, none⟩) m m) (vnames k ++ List.replicate (m - k) []) ∧ Below g w wr) (fun i _ => m - (intOf i).toNat)
  case atStart => exact ⟨0, Nat.zero_le _, rfl, by rw [← hg]; have h := HO.out; rw [hg]; rw [hg] at h; exact h, by rw [← hg]; exact HBG.out⟩
  case round =>
    obtain ⟨k, hk, rfl, hrow, hbl⟩ := hrel
    have HR := Lib.hid hrow
    have HBL := Lib.hid hbl
    clear hrow hbl
    by_cases hlt : k < m
    · have hlen : (vnames k ++ List.replicate (m - k) []).length = m := by simp [vnames]; omega
      go_wp2_with fail
      refine (name_any (k : Int) _ ⟨by omega, by omega⟩ (HW.out.later (by rw [hg]; exact HBL.out)).pow).mono ?_
      rintro e w3 ⟨rfl, hb3⟩
      have HR3 := Lib.hid (HR.out.keep hb3)
      have HB3 := Lib.hid (HBL.out.trans (hb3.mono (by have := HBL.out.size; omega)))
      have HC := Lib.hid (HR3.out.cell k (by rw [hlen]; exact hlt))
      have hc := HC.out
      have hfz : w3.frozen? ⟨g, k, none⟩ = false := by
        have h := HR3.out; unfold SRow at h; rw [hlen] at h; exact h.frozenAt k
      have HS := Lib.hid (show SRow g (w3.setCell ⟨g, k, none⟩ (.string ⟨(nameW (k : Int)).toArray⟩)) (.slice (some ⟨g, 0, none⟩) m m) (vnames (k + 1) ++ List.replicate (m - (k + 1)) []) from by
        have h := HR3.out; unfold SRow at h; rw [hlen] at h
        have h2 := (h.stored k (sv (nameW (k : Int)))).1
        rw [← List.map_set, vnames_set m k hlt] at h2
        unfold SRow
        rw [show (vnames (k + 1) ++ List.replicate (m - (k + 1)) ([] : List UInt8)).length = m by simp [vnames]; omega]
        exact h2)
      clear hb3
      go_wp2
      go_roundw
      case rel => exact ⟨k + 1, by omega, by go_num, HS.out, HB3.out.setCell (Nat.le_refl _) _⟩
      case measure => simp [intOf]; omega
    · obtain rfl : k = m := by omega
      go_wp2
      go_ret
      exact ⟨_, rfl, by (try rw [if_pos (by omega)]); have h := HR.out; simpa using h, HBL.out⟩
end Go.Proofs.YtficmfiekibjgaaDoor

namespace Go.Proofs.YtficmfiekibjgaaDoor
open Go.RowKit

def markedW : List (List UInt8) := (headsW.drop 1).take 12
def plainW11 : List (List UInt8) := headsW.drop 13

set_option maxRecDepth 20000 in
theorem pmarked_any (w : World) : Calls Tryd.prog 36 #[] w fun e w' => ∃ g, e = .returned (.slice (some ⟨g, 0, none⟩) 12 12) ∧ SRow w.heap.size w' (.slice (some ⟨g, 0, none⟩) 12 12) markedW ∧ Below w.heap.size w w' := by
  go_enter Tryd.func36, Tryd.ntmps36
  go_wp2
  go_ret
  exact ⟨w.heap.size, rfl, World.ownsRow_lit w (markedW.map sv).toArray 12 (Nat.le_refl _) (by decide) (by decide), (Below.refl _ _).alloc (Nat.le_refl _) _⟩

set_option maxRecDepth 20000 in
theorem pplain_any (w : World) : Calls Tryd.prog 37 #[] w fun e w' => ∃ g, e = .returned (.slice (some ⟨g, 0, none⟩) 11 11) ∧ SRow w.heap.size w' (.slice (some ⟨g, 0, none⟩) 11 11) plainW11 ∧ Below w.heap.size w w' := by
  go_enter Tryd.func37, Tryd.ntmps37
  go_wp2
  go_ret
  exact ⟨w.heap.size, rfl, World.ownsRow_lit w (plainW11.map sv).toArray 11 (Nat.le_refl _) (by decide) (by decide), (Below.refl _ _).alloc (Nat.le_refl _) _⟩

set_option maxRecDepth 20000 in
theorem psyms_any (w : World) : Calls Tryd.prog 45 #[] w fun e w' => ∃ g, e = .returned (.slice (some ⟨g, 0, none⟩) 21 21) ∧ SRow w.heap.size w' (.slice (some ⟨g, 0, none⟩) 21 21) symsW ∧ Below w.heap.size w w' := by
  go_enter Tryd.func45, Tryd.ntmps45
  go_wp2
  go_ret
  exact ⟨w.heap.size, rfl, World.ownsRow_lit w (symsW.map sv).toArray 21 (Nat.le_refl _) (by decide) (by decide), (Below.refl _ _).alloc (Nat.le_refl _) _⟩

theorem markedW_at (k : Nat) (h : k < 12) : markedW[k]'h = headL ((k : Int) + 1) := by
  have : ∀ q : Fin 12, markedW[q.1]'q.2 = headL ((q.1 : Int) + 1) := by decide
  exact this ⟨k, h⟩
theorem plainW_at (k : Nat) (h : k < 11) : plainW11[k]'h = headL ((k : Int) + 13) := by
  have : ∀ q : Fin 11, plainW11[q.1]'q.2 = headL ((q.1 : Int) + 13) := by decide
  exact this ⟨k, h⟩
theorem symsW_at (k : Nat) (h : k < 21) : symsW[k]'h = symL ((k : Int) + 1) := by
  have : ∀ q : Fin 21, symsW[q.1]'q.2 = symL ((q.1 : Int) + 1) := by decide
  exact this ⟨k, h⟩
set_option maxHeartbeats 1000000 in
set_option maxRecDepth 20000 in
theorem pname_any (n : Int) (w : World) (hn : 1 ≤ n ∧ n ≤ 21) : Calls Tryd.prog 38 #[.int .i64 n] w fun e w' => e = .returned (.string ⟨(symL n).toArray⟩) ∧ Below w.heap.size w w' := by
  obtain ⟨k, rfl⟩ : ∃ k : Nat, n = (k : Int) + 1 := ⟨(n - 1).toNat, by omega⟩
  have hk : k < 21 := by omega
  have e1 : IntKind.i64.wrap ((k : Int) + 1 - 1) = (k : Int) := by rw [IntWalk.i64_in _ (by omega)]; omega
  have e2 : ¬ (k : Int) + 1 < 1 := by omega
  have e3 : ¬ (21 : Int) < (k : Int) + 1 := by omega
  go_enter Tryd.func38, Tryd.ntmps38
  go_wp2_with fail
  refine (psyms_any _).mono ?_
  rintro e w1 ⟨g, rfl, hrow, hb1⟩
  have c := hrow.cell k hk
  rw [symsW_at k hk] at c
  unfold sv at c
  have HB := Lib.hid hb1
  clear hrow hb1
  go_wp2
  go_ret
  exact ⟨rfl, HB.out⟩
end Go.Proofs.YtficmfiekibjgaaDoor

namespace Go.Proofs.YtficmfiekibjgaaDoor
open Go.RowKit Go.Lib

/-- The bytes' cells. -/
def cells8 (l : List UInt8) : List Value := l.map fun c => .int .u8 (c.toNat : Int)
theorem nums_str (l : List UInt8) : strOfNums (l.map fun c => (c.toNat : Int)) = ⟨l.toArray⟩ := by
  unfold strOfNums
  congr 2
  rw [List.map_map]
  conv => rhs; rw [← List.map_id l]
  apply List.map_congr_left
  intro c _
  simp
theorem str_of_row {w : World} {B : Nat} {g cap : Nat} {l : List UInt8} (h : w.ownsRow B 5 1 (.slice (some ⟨g, 0, none⟩) l.length cap) l.length (cells8 l)) :
    (convert 38 9 (.slice (some ⟨g, 0, none⟩) l.length cap)).run Tryd.prog w = .ok (.string ⟨l.toArray⟩) w := by
  have := run_convert_bytes_arg (P := Tryd.prog) w 38 5 Tryd.underlying38 Tryd.underlying5 g 0 l.length cap (l.map fun c => (c.toNat : Int)) (by simp) (fun i hi => by
    rw [Nat.zero_add, h.cellAt i (by omega)]
    simp [cells8, List.getD, hi]) 9 Tryd.underlying9
  rw [nums_str] at this
  exact this
/-- What the page's loop has written: the digits behind what is left of the number. -/
def DigInv (u0 u : Nat) (l : List UInt8) : Prop := (0 < u ∧ decDigits u0 = decDigits u ++ l) ∨ (u = 0 ∧ decDigits u0 = l)
theorem digInv_step {u0 u : Nat} {l : List UInt8} (h : DigInv u0 u l) (hu : 0 < u) : DigInv u0 (u / 10) (UInt8.ofNat (48 + u % 10) :: l) := by
  rcases h with ⟨-, h⟩ | ⟨h, -⟩
  · by_cases h10 : u < 10
    · refine Or.inr ⟨by omega, ?_⟩
      rw [h, decDigits_one h10, Nat.mod_eq_of_lt h10]; rfl
    · refine Or.inl ⟨by omega, ?_⟩
      rw [h, decDigits, dif_neg h10]; simp
  · omega
theorem digInv_len {u0 u : Nat} {l : List UInt8} (h : DigInv u0 u l) (h64 : u0 < 18446744073709551616) : l.length ≤ 20 := by
  have h1 := nDigits_le20 u0 h64
  rw [← decDigits_length] at h1
  rcases h with ⟨-, h⟩ | ⟨-, h⟩
  · rw [h, List.length_append] at h1; omega
  · rw [h] at h1; exact h1
theorem wrap_u64 (n : Int) : IntKind.u64.wrap n = n % 18446744073709551616 := by
  unfold IntKind.wrap; simp [IntKind.signed, IntKind.bits]
theorem cells8_len (l : List UInt8) : (cells8 l).length = l.length := by simp [cells8]
theorem cells8_one (l : List UInt8) : ∀ u ∈ cells8 l, u.oneCell' = true := by
  intro u hu
  obtain ⟨c, -, rfl⟩ := List.mem_map.1 hu
  rfl
theorem row_base {w : World} {b b' : Nat} {e : TypeId} {size : Nat} {v : Value} {n : Nat} {xs : List Value} (h : w.ownsRow b e size v n xs) (hb : b' ≤ b) : w.ownsRow b' e size v n xs := by
  refine ⟨h.1, ?_⟩
  rcases h.2 with h' | ⟨g, cap, cur, h1, h2, h3⟩
  · exact Or.inl h'
  · exact Or.inr ⟨g, cap, cur, h1, Nat.le_trans hb h2, h3⟩
theorem row_more {w : World} {b b' : Nat} {e : TypeId} {v : Value} {c : UInt8} {l : List UInt8} (h : w.ownsRow b e 1 v (1 + l.length) (.int .u8 (c.toNat : Int) :: cells8 l)) (hb : b' ≤ b) : w.ownsRow b' e 1 v (c :: l).length (cells8 (c :: l)) := by
  rw [List.length_cons, Nat.add_comm]; exact row_base h hb
theorem cat_one (A : List UInt8) : (⟨#[45]⟩ : ByteArray) ++ (⟨A.toArray⟩ : ByteArray) = ⟨(45 :: A).toArray⟩ := by
  apply ByteArray.ext; rw [ByteArray.data_append]; simp
theorem info_u8 : (Tryd.prog.info? 5).map (fun i => (i.zero, i.size, i.bytes)) = some (some (.int .u8 0), 1, 1) := by kernel_rfl

set_option maxHeartbeats 2000000 in
theorem refput_any (n : Int) (w : World) (hn : I64 n) : Calls Tryd.prog 27 #[.int .i64 n] w fun e w' => e = .returned (.string ⟨(itoa n).toArray⟩) ∧ Below w.heap.size w w' := by
  obtain ⟨hn0, hn1⟩ := hn
  by_cases h0 : n = 0
  · subst h0
    go_enter Tryd.func27, Tryd.ntmps27
    go_wp2
    go_ret
    exact ⟨by rw [show itoa 0 = [48] by decide +kernel]; rfl, Below.refl _ _⟩
  have e0 : (n == 0) = false := by simpa using h0
  obtain ⟨i0, hi, hz0, hz1, hz2⟩ := info_parts info_u8
  have HI := Lib.hid (And.intro hi (And.intro hz0 (And.intro hz1 hz2)))
  clear hi hz0 hz1 hz2
  obtain ⟨u0, hu0⟩ : ∃ u0 : Nat, n.natAbs = u0 := ⟨_, rfl⟩
  have hupos : 0 < u0 := by omega
  have HD0 : Hid (DigInv u0 u0 []) := Or.inl ⟨hupos, by simp⟩
  have HU0 : Hid (u0 ≤ 9223372036854775808) := by rw [Hid]; omega
  have H64 : Hid (u0 < 18446744073709551616) := by rw [Hid]; omega
  by_cases hneg : n < 0
  · have HRES := Lib.hid (show itoa n = 45 :: decDigits u0 by unfold itoa; rw [if_pos hneg, hu0])
    have hw : IntKind.u64.wrap (-IntKind.u64.wrap n) = (u0 : Int) := by
      rw [wrap_u64, wrap_u64]; omega
    clear hu0 hupos
    go_enter Tryd.func27, Tryd.ntmps27
    go_wp2
    go_loopw [3, 4] (fun u3 v wr => ∃ (u : Nat) (l : List UInt8), u3 = .int .u64 u ∧ Hid (DigInv u0 u l) ∧ Hid (u ≤ 9223372036854775808) ∧ wr.ownsRow w.heap.size 5 1 v l.length (cells8 l) ∧ Hid ((v = .slice none 0 0 ∧ l = []) ∨ (∃ g cap, v = .slice (some ⟨g, 0, none⟩) l.length cap ∧ 0 < l.length)) ∧ Below w.heap.size w wr) (fun u3 _ _ => (RowKit.intOf u3).toNat)
    case atStart => exact ⟨u0, [], rfl, HD0.out, HU0.out, World.ownsRow_nil _ _ _ _, Or.inl ⟨rfl, rfl⟩, Below.refl _ _⟩
    case round =>
      obtain ⟨u, l, rfl, hd, hub, hown, hvv, hb⟩ := hrel
      have hub0 : (u : Int) ≤ 9223372036854775808 := by have := hub.out; omega
      have hlen := digInv_len hd.out H64.out
      by_cases hu : 0 < u
      · have HN := Lib.hid (digInv_step hd.out hu)
        have hu' : 0 < (u : Int) := by omega
        obtain ⟨c, hc⟩ : ∃ c, UInt8.ofNat (48 + u % 10) = c := ⟨_, rfl⟩
        have hcn : (c.toNat : Int) = 48 + (u : Int) % 10 := by rw [← hc, ofNat_toNat _ (by omega)]; omega
        rw [hc] at HN
        have hcw : IntKind.u8.wrap (48 + (u : Int) % 10) = (c.toNat : Int) := by rw [hcn]; exact IntWalk.u8_in _ (by omega)
        have HUB := Lib.hid (show u / 10 ≤ 9223372036854775808 by omega)
        have hq : ((u / 10 : Nat) : Int) = (u : Int) / 10 := by omega
        have HQ := Lib.hid hq
        clear hc hcn hd hub hq
        have hB1 : w.heap.size ≤ wr.heap.size := hb.size
        have hlit := World.ownsRow_lit (base := wr.heap.size) (e := 5) (size := 1) wr #[.int .u8 (c.toNat : Int)] 1 (Nat.le_refl _) (by unfold maxLen; omega) rfl
        have hbl : Below w.heap.size w (wr.alloc (.cells #[.int .u8 (c.toNat : Int)] 5)) := hb.alloc hB1 _
        have hown1 := hown.alloc (.cells #[.int .u8 (c.toNat : Int)] 5)
        rcases hvv.out with ⟨rfl, rfl⟩ | ⟨g, cap, rfl, hl0⟩
        · clear hvv hown1
          have HLIT := Lib.hid hlit
          have HBL := Lib.hid hbl
          clear hlit hbl hb hown
          go_wp2_with (at_builtin; refine wpList_append_own_none rfl _ _ 38 rfl wr.heap.size 5 i0 1 Tryd.underlying38 HI.out.1 _ 1 _ rfl HLIT.out rfl ?_)
          go_roundw
          case rel => exact ⟨u / 10, [c], by rw [HQ.out], HN.out, HUB.out, row_base HLIT.out hB1, Or.inr ⟨_, _, rfl, by simp⟩, HBL.out⟩
          case measure => simp [RowKit.intOf]; omega
        · have hcl := World.ownsRow.cells (hown.alloc (.cells #[.int .u8 (c.toNat : Int)] 5)) (g := g) rfl
          have HLIT := Lib.hid hlit
          have HBL := Lib.hid hbl
          have HCL := Lib.hid hcl
          have HB1 := Lib.hid hB1
          clear hlit hbl hb hown hown1 hcl hB1 hvv
          go_wp2_with (at_builtin; refine wpList_append_lies _ rfl _ _ 38 rfl wr.heap.size 5 i0 (.int .u8 0) 1 1 Tryd.underlying38 HI.out.1 HI.out.2.1 HI.out.2.2.1 HI.out.2.2.2 rfl (by decide) (.slice (some ⟨wr.heap.size, 0, none⟩) 1 1) 1 _ rfl HLIT.out ⟨g, 0, none⟩ l.length cap (cells8 l) rfl (by rw [cells8_len]; omega) HCL.out (cells8_one l) hl0 (by unfold maxLen; omega) (by omega) (by simp) _ rfl ?_; intro g' cap' w' hown' hgrow hat hlt'; have HO := Lib.hid (row_more (c := c) hown' HB1.out); have HB := Lib.hid (HBL.out.grown hgrow (by simp; have := HB1.out; omega) (fun k hk => by have : k = wr.heap.size := (Option.some.inj hk).symm; have := HB1.out; omega)); clear hown' hgrow hat hlt')
          go_roundw
          case rel => exact ⟨u / 10, c :: l, by rw [HQ.out], HN.out, HUB.out, HO.out, Or.inr ⟨g', cap', by rw [List.length_cons, Nat.add_comm], by simp⟩, HB.out⟩
          case measure => simp [RowKit.intOf]; omega
      · have hu0 : u = 0 := by omega
        subst hu0
        have hdl : decDigits u0 = l := by
          rcases hd.out with ⟨h, -⟩ | ⟨-, h⟩
          · omega
          · exact h
        have hlp : 0 < l.length := by rw [← hdl, decDigits_length]; exact nDigits_pos _
        rcases hvv.out with ⟨-, rfl⟩ | ⟨g, cap, rfl, -⟩
        · simp at hlp
        · have hrun := str_of_row hown
          have HR := Lib.hid (HRES.out.trans (congrArg (fun x => 45 :: x) hdl))
          have HB := Lib.hid hb
          clear hdl hlp hvv hown hb hd hub
          go_wp2
          go_ret
          exact ⟨by rw [HR.out]; exact congrArg (fun x => Ending.returned (.string x)) (cat_one l), HB.out⟩
  · have HRES := Lib.hid (show itoa n = decDigits u0 by unfold itoa; rw [if_neg hneg, show n.toNat = u0 by omega])
    have hw : IntKind.u64.wrap n = (u0 : Int) := by
      rw [wrap_u64]; omega
    clear hu0 hupos
    go_enter Tryd.func27, Tryd.ntmps27
    go_wp2
    go_loopw [3, 4] (fun u3 v wr => ∃ (u : Nat) (l : List UInt8), u3 = .int .u64 u ∧ Hid (DigInv u0 u l) ∧ Hid (u ≤ 9223372036854775808) ∧ wr.ownsRow w.heap.size 5 1 v l.length (cells8 l) ∧ Hid ((v = .slice none 0 0 ∧ l = []) ∨ (∃ g cap, v = .slice (some ⟨g, 0, none⟩) l.length cap ∧ 0 < l.length)) ∧ Below w.heap.size w wr) (fun u3 _ _ => (RowKit.intOf u3).toNat)
    case atStart => exact ⟨u0, [], rfl, HD0.out, HU0.out, World.ownsRow_nil _ _ _ _, Or.inl ⟨rfl, rfl⟩, Below.refl _ _⟩
    case round =>
      obtain ⟨u, l, rfl, hd, hub, hown, hvv, hb⟩ := hrel
      have hub0 : (u : Int) ≤ 9223372036854775808 := by have := hub.out; omega
      have hlen := digInv_len hd.out H64.out
      by_cases hu : 0 < u
      · have HN := Lib.hid (digInv_step hd.out hu)
        have hu' : 0 < (u : Int) := by omega
        obtain ⟨c, hc⟩ : ∃ c, UInt8.ofNat (48 + u % 10) = c := ⟨_, rfl⟩
        have hcn : (c.toNat : Int) = 48 + (u : Int) % 10 := by rw [← hc, ofNat_toNat _ (by omega)]; omega
        rw [hc] at HN
        have hcw : IntKind.u8.wrap (48 + (u : Int) % 10) = (c.toNat : Int) := by rw [hcn]; exact IntWalk.u8_in _ (by omega)
        have HUB := Lib.hid (show u / 10 ≤ 9223372036854775808 by omega)
        have hq : ((u / 10 : Nat) : Int) = (u : Int) / 10 := by omega
        have HQ := Lib.hid hq
        clear hc hcn hd hub hq
        have hB1 : w.heap.size ≤ wr.heap.size := hb.size
        have hlit := World.ownsRow_lit (base := wr.heap.size) (e := 5) (size := 1) wr #[.int .u8 (c.toNat : Int)] 1 (Nat.le_refl _) (by unfold maxLen; omega) rfl
        have hbl : Below w.heap.size w (wr.alloc (.cells #[.int .u8 (c.toNat : Int)] 5)) := hb.alloc hB1 _
        have hown1 := hown.alloc (.cells #[.int .u8 (c.toNat : Int)] 5)
        rcases hvv.out with ⟨rfl, rfl⟩ | ⟨g, cap, rfl, hl0⟩
        · clear hvv hown1
          have HLIT := Lib.hid hlit
          have HBL := Lib.hid hbl
          clear hlit hbl hb hown
          go_wp2_with (at_builtin; refine wpList_append_own_none rfl _ _ 38 rfl wr.heap.size 5 i0 1 Tryd.underlying38 HI.out.1 _ 1 _ rfl HLIT.out rfl ?_)
          go_roundw
          case rel => exact ⟨u / 10, [c], by rw [HQ.out], HN.out, HUB.out, row_base HLIT.out hB1, Or.inr ⟨_, _, rfl, by simp⟩, HBL.out⟩
          case measure => simp [RowKit.intOf]; omega
        · have hcl := World.ownsRow.cells (hown.alloc (.cells #[.int .u8 (c.toNat : Int)] 5)) (g := g) rfl
          have HLIT := Lib.hid hlit
          have HBL := Lib.hid hbl
          have HCL := Lib.hid hcl
          have HB1 := Lib.hid hB1
          clear hlit hbl hb hown hown1 hcl hB1 hvv
          go_wp2_with (at_builtin; refine wpList_append_lies _ rfl _ _ 38 rfl wr.heap.size 5 i0 (.int .u8 0) 1 1 Tryd.underlying38 HI.out.1 HI.out.2.1 HI.out.2.2.1 HI.out.2.2.2 rfl (by decide) (.slice (some ⟨wr.heap.size, 0, none⟩) 1 1) 1 _ rfl HLIT.out ⟨g, 0, none⟩ l.length cap (cells8 l) rfl (by rw [cells8_len]; omega) HCL.out (cells8_one l) hl0 (by unfold maxLen; omega) (by omega) (by simp) _ rfl ?_; intro g' cap' w' hown' hgrow hat hlt'; have HO := Lib.hid (row_more (c := c) hown' HB1.out); have HB := Lib.hid (HBL.out.grown hgrow (by simp; have := HB1.out; omega) (fun k hk => by have : k = wr.heap.size := (Option.some.inj hk).symm; have := HB1.out; omega)); clear hown' hgrow hat hlt')
          go_roundw
          case rel => exact ⟨u / 10, c :: l, by rw [HQ.out], HN.out, HUB.out, HO.out, Or.inr ⟨g', cap', by rw [List.length_cons, Nat.add_comm], by simp⟩, HB.out⟩
          case measure => simp [RowKit.intOf]; omega
      · have hu0 : u = 0 := by omega
        subst hu0
        have hdl : decDigits u0 = l := by
          rcases hd.out with ⟨h, -⟩ | ⟨-, h⟩
          · omega
          · exact h
        have hlp : 0 < l.length := by rw [← hdl, decDigits_length]; exact nDigits_pos _
        rcases hvv.out with ⟨-, rfl⟩ | ⟨g, cap, rfl, -⟩
        · simp at hlp
        · have hrun := str_of_row hown
          have HR := Lib.hid (HRES.out.trans hdl)
          have HB := Lib.hid hb
          clear hdl hlp hvv hown hb hd hub
          go_wp2
          go_ret
          exact ⟨by rw [HR.out]; rfl, HB.out⟩
end Go.Proofs.YtficmfiekibjgaaDoor
