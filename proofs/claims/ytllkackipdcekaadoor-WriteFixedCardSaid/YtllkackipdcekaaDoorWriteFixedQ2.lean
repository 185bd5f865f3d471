/-
  Facts and contracts that the proof of WriteFixed uses.
-/
import Derived.Lib.ItoaNum
import Derived.Lib.ItoaLen
import Derived.Test.YtllkackipdcekaaDoorRows
import Derived.WalkKit
import Derived.Lib.Hide
import Derived.KernelRfl
import Derived.Deep.RegionWith
import Derived.Deep.RegionHeld3
import Derived.Test.YtllkackipdcekaaDoorShelf
import Derived.ProofKit
import Derived.Lib.AppendIntMem
import Derived.Lib.LaidTab
import Derived.Below
import Derived.Lib.Builder
import Derived.Lib.AppendStr
import Derived.Lib.UnsafeStr
import Derived.Lib.Strings
import Derived.Laws.Externs
import Derived.Laws.Rows
import Derived.Shelf.RegionOpenPlain
import Derived.OrdersHeld
import Derived.Laws.OwnMore
import Derived.OwnWalk
import Derived.LoopTactic
import Derived.IntWalk
import Derived.Laws.Strings2
import Derived.Deep.AppendLies
import Derived.WalkSmall
import Derived.Maps.GroupsBeside
import Derived.Maps.StringElems
import Derived.Deep.RegionLaw
import Derived.Maps.AppendAt
import Derived.Deep.Cut
import Derived.Deep.DeepCutAuto
import Derived.Maps.OwnOps
import Derived.Maps.OwnSet
import Derived.Lib.MinMax
import Derived.Laws.IdiomCopy
import Derived.Deep.Slices
import Derived.Lib.QuietBelow
import Derived.StillTailTactics
import Derived.BigQuiet
import Derived.Recover
import Derived.RegionTactic
import Derived.Defers
import Derived.Deep.QuietTactic
import Derived.OpenShut
import Derived.Carry
import Derived.LaidMore
import Derived.LaidSub
import Derived.LaidHandle
import Derived.Stop.Joined
import Derived.JoinedOf
import Derived.Test.YtllkackipdcekaaDoorCards
import Derived.Test.YtllkackipdcekaaDoorTie
import Derived.SevenTiedAt
import Derived.ChangeMaps5
import Derived.Test.YtllkackipdcekaaDoorWriteFixedQ1
namespace Go.Proofs.YtllkackipdcekaaDoor
open Go.RowKit

def o19D_0 : Oper := { dst := some 93, op := Go.Op.move (Go.Operand.tmp 0), type := 58, pos := "write.go:60", after := #[], guard := none }
def o19D_1 : Oper := { dst := some 94, op := Go.Op.load 26 (Go.Operand.tmp 9), type := 26, pos := "write.go:60", after := #[], guard := none }
def o19D_2 : Oper := { dst := some 95, op := Go.Op.move (Go.Operand.tmp 2), type := 3, pos := "write.go:60", after := #[], guard := none }
def o19D_3 : Oper := { dst := some 96, op := Go.Op.fieldAddr 26 (Go.Operand.tmp 4) 0, type := 0, pos := "write.go:60", after := #[], guard := none }
def o19D_4 : Oper := { dst := some 97, op := Go.Op.load 3 (Go.Operand.tmp 96), type := 3, pos := "write.go:60", after := #[{ on := 3, ground := Go.Ground.data }], guard := none }
def o19D_5 : Oper := { dst := some 98, op := Go.Op.move (Go.Operand.tmp 8), type := 3, pos := "write.go:60", after := #[], guard := none }
def o19D_6 : Oper := { dst := some 99, op := Go.Op.call { callee := Go.Callee.value (Go.Operand.func 61), args := #[Go.Operand.tmp 97, Go.Operand.tmp 98], argTypes := #[3, 3] }, type := 3, pos := "write.go:60", after := #[{ on := 4, ground := Go.Ground.data }, { on := 5, ground := Go.Ground.data }], guard := none }
def o19D_7 : Oper := { dst := some 100, op := Go.Op.binOp Go.BinOp.add 3 (Go.Operand.tmp 95) (Go.Operand.tmp 99) 3, type := 3, pos := "write.go:60", after := #[{ on := 2, ground := Go.Ground.data }, { on := 6, ground := Go.Ground.data }], guard := none }
def o19D_8 : Oper := { dst := some 101, op := Go.Op.call { callee := Go.Callee.value (Go.Operand.func 38), args := #[Go.Operand.tmp 93, Go.Operand.tmp 94, Go.Operand.tmp 100], argTypes := #[58, 26, 3] }, type := 0, pos := "write.go:60", after := #[{ on := 0, ground := Go.Ground.data }, { on := 1, ground := Go.Ground.data }, { on := 7, ground := Go.Ground.data }, { on := 6, ground := Go.Ground.chain }], guard := none }

set_option maxHeartbeats 4000000 in
set_option maxRecDepth 100000 in
theorem wput_D (w0 : World) (hW : WTab w0) (b : Nat) (t : Tm) (ih : ∀ x ∈ t.kids, WPut w0 b x) (e2 : (t.k == 2) = false) (e22 : (t.k == 22) = false) (e23 : (t.k == 23) = false) (hbd : bindsN t.k 1 = 1) (hlv : levelsN t.k = 0) : WPut w0 b t := by
  intro w s bs m hl hlw hB hr h0 hf hm hbs
  obtain ⟨a, cap, S, rfl, hc, hmx, hfi, hn, hk⟩ := hl.out
  have hkr := t.node_kind (t.right_node hr)
  have hfit := right_fit hr
  obtain ⟨du, hu1, hu2⟩ := under_termW
  have HX := Lib.hid (show t.wr m = 40 :: (headL t.k ++ (frontL t.k t.i t.j t.n m ++ (wrs t.k 0 t.kids m ++ [41]))) by rw [t.wr_eq, if_neg (by simpa using e2)])
  have HS := Lib.hid (wst_start hB hlw (.cells #[.int .i64 t.k, .int .i64 t.i, .int .i64 t.j, .int .i64 t.n, .slice a t.kids.length cap] 26))
  have HBL := Lib.hid hB.lt
  have HW := Lib.hid hW
  have HL := Lib.hid (wr_len t m hr h0 hf hm)
  have HLN := Lib.hid (show bs.length + (1 + (headL t.k).length + (frontL t.k t.i t.j t.n m).length + (wrs t.k 0 t.kids m).length + 1) ≤ 140737488355328 from by
    have := HL.out; rw [HX.out] at this; simp only [List.length_append, List.length_cons, List.length_nil] at this; omega)
  have HN := Lib.hid hn
  have HK := Lib.hid hk
  have HBS := Lib.hid hbs
  have HR := Lib.hid (t.right_kids hr)
  have HF := Lib.hid (by rw [t.freeN_eq, if_neg (by simpa using e2)] at hf; exact hf : frees t.k 0 t.kids ≤ m)
  have IH := Lib.hid ih
  have hh := (HS.out.tab HW.out).heads_cell t.k (by omega) (by omega)
  have HLV := Lib.hid hlv
  have HFR := Lib.hid (show frontL t.k t.i t.j t.n m = ([]) ++ (lvP t.i t.j 0 ++ (32 :: nameW m)) from by
    have hq : ¬ t.k = 23 := by simpa using e23
    unfold frontL lvlL; simp [hlv, hbd, hq, lvP])
  have HRR := Lib.hid hr
  have HBD := Lib.hid hbd
  have HFM := Lib.hid (show Fit m from ⟨by omega, by omega⟩)
  have HFM1 := Lib.hid (show Fit (m + 1) from ⟨by omega, by omega⟩)
  have hsw := hlw.size
  clear hB hlw hr hW hbs hn hk hl hf ih hfi hlv hbd
  have hk0 : 0 ≤ t.k := by omega
  have hk1 : t.k < 24 := by omega
  unfold tv
  unfold maxLen at hmx
  go_enter Tryd.func38, Tryd.ntmps38
  go_wp2_with fail
  · exfalso; have := head_len t.k; omega
  rw [show (⟨#[40]⟩ : ByteArray) = ⟨[(40 : UInt8)].toArray⟩ from rfl, str_add]
  refine (bstr_any _ b _ _ _ HS.out.bld (by have := HLN.out; simp [ByteArray.size]; omega) HS.out.hB).mono ?_
  rintro e w1 ⟨rfl, hb1, hl1, hk1⟩
  have HS1 := Lib.hid (HS.out.put hb1 hl1 hk1)
  rw [Lib.strCells_toArray] at HS1
  obtain ⟨d0, d1, d2, d3, d4⟩ := HS1.out.cells HBL.out
  have hsz : w.heap.size < w1.heap.size := by have := HS1.out.size; rw [World.size_alloc] at this; omega
  clear hb1 hl1 hk1 hh
  go_wp2_with fail
  go_region_held3 (fun w' => Below w1.heap.size w1 w' ∧ w'.cell? ⟨w.heap.size, 0, none⟩ = some (.int .i64 t.k) ∧ w'.cell? ⟨w.heap.size, 1, none⟩ = some (.int .i64 t.i) ∧ w'.cell? ⟨w.heap.size, 2, none⟩ = some (.int .i64 t.j))
    (first | (refine rl_keep hsz d0 d1 d2 ?_; repeat (first | exact Below.refl _ _ | (with_reducible assumption) | exact (by assumption : _ ∧ _).1 | refine Below.drew ?_ | refine Below.alloc ?_ (Nat.le_refl _) _)) | go_keep)
    (first | (go_at_call 59; refine (levels_any _ _).mono ?_; rintro e wn ⟨rfl, rfl⟩; rw [HLV.out]))
  all_goals
    rename_i hHeld
    clear hHeld
    go_wp2_with fail
    obtain ⟨w2, hw2⟩ : ∃ w2, w2 = (w1.alloc (.cells #[.int .i64 t.i, .int .i64 t.j] 3)).drew := ⟨_, rfl⟩
    rw [← hw2]
    have HS2 := Lib.hid (HS1.out.call (wr' := w2) (by rw [hw2]; exact ((Below.refl _ w1).alloc (Nat.le_refl _) _).drew)).again
    have HBX2 := Lib.hid (show w2.heap[w.heap.size]? = some (.cells #[.int .i64 t.k, .int .i64 t.i, .int .i64 t.j, .int .i64 t.n, .slice a t.kids.length cap] 26) from by
      have h := HS1.out.at (alloc_heap_new' w _) (by have := HBL.out; omega) ut_ne
      rw [hw2]; show (w1.alloc _).heap[w.heap.size]? = _; rw [Lib.alloc_old _ _ _ hsz]; exact h)
    have HRW2 := Lib.hid (show w2.heap[w1.heap.size]? = some (.cells #[.int .i64 t.i, .int .i64 t.j] 3) from by rw [hw2]; exact alloc_heap_new _ _)
    have HUP := Lib.hid (show Below w0.heap.size w w2 from by
      rw [hw2]; exact (((Below.refl _ w).alloc hsw _).trans HS1.out.up |>.alloc HS1.out.hB _).drew)
    have HKP := Lib.hid (show Kept b w w2 from by
      rw [hw2]; exact ((Kept.alloc b w _).trans HS1.out.kept).trans (Kept.alloc b w1 _))
    have hs2 : w1.heap.size < w2.heap.size := by rw [hw2]; show _ < (w1.alloc _).heap.size; simp
    clear hw2 d0 d1 d2 d3 d4
    go_loopw [47] (fun i wr => ∃ k : Nat, k ≤ 0 ∧ i = .int .i64 k ∧ WSt w0 b w2 (bs ++ Lib.byteCells ([40] ++ headL t.k) ++ Lib.byteCells (lvP t.i t.j k)) wr) (fun i _ => 0 - (intOf i).toNat)
    case atStart => exact ⟨0, by omega, rfl, by simpa [lvP, Lib.byteCells] using HS2.out⟩
    case round =>
      obtain ⟨k, hk, rfl, hst⟩ := hrel
      have hrow := hst.at HRW2.out (by have := HBL.out; omega) ti_ne
      have r0 : wr.cell? ⟨w1.heap.size, 0, none⟩ = some (.int .i64 t.i) := by rw [Lib.cell_of_heap hrow]; rfl
      have r1 : wr.cell? ⟨w1.heap.size, 1, none⟩ = some (.int .i64 t.j) := by rw [Lib.cell_of_heap hrow]; rfl
      have hbox := hst.at HBX2.out (by have := HBL.out; omega) ut_ne
      have d0 : wr.cell? ⟨w.heap.size, 0, none⟩ = some (.int .i64 t.k) := by rw [Lib.cell_of_heap hbox]; rfl
      have d4 : wr.cell? ⟨w.heap.size, 4, none⟩ = some (.slice a t.kids.length cap) := by rw [Lib.cell_of_heap hbox]; rfl
      have HST := Lib.hid hst
      clear hrow hbox hst
      obtain rfl : k = 0 := by omega
      go_wp2_with fail
      refine (binds_any _ _ _).mono ?_
      rintro e w5 ⟨rfl, rfl⟩
      rw [HBD.out]
      go_wp2_with fail
      refine (name_any m _ HFM.out (HST.out.tab HW.out).pow).mono ?_
      rintro e w5 ⟨rfl, hb5⟩
      have HS5 := Lib.hid (HST.out.call hb5)
      have HNL := Lib.hid (name_len HFM.out)
      clear hb5
      go_wp2_with fail
      · exfalso; have := HNL.out; omega
      rw [show (⟨#[32]⟩ : ByteArray) = ⟨[(32 : UInt8)].toArray⟩ from rfl, str_add]
      refine (bstr_any _ b _ _ _ HS5.out.bld (by have := HLN.out; rw [HFR.out] at this; simp [ByteArray.size, lvP, Lib.byteCells] at this ⊢; omega) HS5.out.hB).mono ?_
      rintro e w5' ⟨rfl, hb5, hl5, hk5⟩
      have HSB := Lib.hid (HS5.out.put hb5 hl5 hk5)
      rw [Lib.strCells_toArray] at HSB
      clear hb5 hl5 hk5 r0 r1 d0 d4
      have hbox5 := HSB.out.at HBX2.out (by have := HBL.out; omega) ut_ne
      have d4 : w5'.cell? ⟨w.heap.size, 4, none⟩ = some (.slice a t.kids.length cap) := by rw [Lib.cell_of_heap hbox5]; rfl
      clear hbox5
      go_wp2_with fail
      clear d4
      go_loopw [69] (fun i wv => ∃ q : Nat, q ≤ t.kids.length ∧ i = .int .i64 q ∧ WSt w0 b w2 (bs ++ Lib.byteCells ([40] ++ headL t.k ++ frontL t.k t.i t.j t.n m ++ wrs t.k 0 (t.kids.take q) m)) wv) (fun i _ => t.kids.length - (intOf i).toNat)
      case atStart => exact ⟨0, Nat.zero_le _, rfl, by have h := HSB.out; rw [HFR.out]; simpa [wrs, lvP, Lib.byteCells] using h⟩
      case round =>
        obtain ⟨q, hq, rfl, hv⟩ := hrel
        have HV := Lib.hid hv
        have HBX3 := Lib.hid (hv.at HBX2.out (by have := HBL.out; omega) ut_ne)
        have hsv : w.heap.size < wr.heap.size := by have := HV.out.size; omega
        have d0 : wr.cell? ⟨w.heap.size, 0, none⟩ = some (.int .i64 t.k) := by rw [Lib.cell_of_heap HBX3.out]; rfl
        clear hv HSB
        by_cases hlt : q < t.kids.length
        · obtain ⟨bn, o, rfl, hx⟩ := HN.out q hlt
          obtain ⟨c0, c1, c2, c3, c4⟩ := hx.below HV.out.low hx.lt
          have hq4 := HK.out q hlt
          obtain ⟨a', cap', S', hS, -⟩ := hq4.out
          rw [hS] at c4 hq4
          have HQ := Lib.hid hq4
          have HM := Lib.hid (List.getElem_mem hlt)
          have HROOM := Lib.hid (put_room HRR.out h0 HF.out hm hlt)
          have HTK := Lib.hid (wrs_take t.k m t.kids 0 q hlt)
          have HKF := Lib.hid (kid_free HF.out hlt)
          have HKS := Lib.hid (kid_size hlt)
          have HV5 := Lib.hid (HV.out.call (wr' := wr.alloc (.cells #[.int .i64 t.kids[q].k, .int .i64 t.kids[q].i, .int .i64 t.kids[q].j, .int .i64 t.kids[q].n, .slice a' t.kids[q].kids.length cap'] 26)) ((Below.refl _ _).alloc (Nat.le_refl _) _)).again
          clear hS hq4 hx
          have hbr := binds_range t.k q
          have HMD := Lib.hid (show midL t.k (0 + q) m = [] from if_neg (fun h => by have := h.1; simp [this] at e22))
          go_wp2_with fail
          refine (bbyte_any _ b _ _ _ HV5.out.bld (by have h1 := HROOM.out; have h2 := HBS.out; simp [Lib.byteCells] ; omega) HV5.out.hB).mono ?_
          rintro e w6 ⟨rfl, hb6, hl6, hk6⟩
          have HS6 := Lib.hid (HV5.out.put hb6 hl6 hk6)
          clear hb6 hl6 hk6
          have hy := HS6.out.at (alloc_heap_new' wr _) (by have := HBL.out; omega) ut_ne
          have hz := HS6.out.at (j := w.heap.size) (by rw [Lib.alloc_old _ _ _ hsv]; exact HBX3.out) (by have := HBL.out; omega) ut_ne
          have HNE := Lib.hid (show wr.heap.size ≠ b ∧ w.heap.size ≠ b by have := HBL.out; omega)
          have HY := Lib.hid hy
          have HZ := Lib.hid hz
          clear hy hz
          have HS6d := Lib.hid (HS6.out.call (wr' := w6.drew) (Below.refl _ w6).drew)
          have hS0 := kid_keep2 HY.out HZ.out HNE.out (Kept.refl b w6)
          have hwr : IntKind.i64.wrap (m + bindsN t.k (q : Int)) = m + bindsN t.k (q : Int) := IntWalk.i64_in _ (by omega)
          go_wp2_with fail
          refine wp_region_held_drew (S := fun w' => Kept b w6 w' ∧ w'.heap[wr.heap.size]? = some (.cells #[.int .i64 t.kids[q].k, .int .i64 t.kids[q].i, .int .i64 t.kids[q].j, .int .i64 t.kids[q].n, .slice a' t.kids[q].kids.length cap'] 26) ∧ w'.cell? ⟨w.heap.size, 0, none⟩ = some (.int .i64 t.k)) (by kernel_rfl) ?_ (fun hHeld => ?_)
          · (try dsimp only)
            (first | exact hS8 | exact hHeld | exact hS0)
          refine take_at 0 93 o19D_0 (v := ?_) (Or.inl ⟨by rfl, ?_⟩) ?_
          rotate_left 1
          · ((intro w hSw; (try dsimp only at hSw); unfold o19D_0; go_simp) <;> with_reducible rfl)
          (try simp only [Act.put, List.setIfInBounds_toArray, List.set_cons_zero, List.set_cons_succ])
          refine take_at 1 94 o19D_1 (yields_row wr.heap.size _ _ _ #[.int .i64 t.kids[q].k, .int .i64 t.kids[q].i, .int .i64 t.kids[q].j, .int .i64 t.kids[q].n, .slice a' t.kids[q].kids.length cap'] _ du (by rfl) rfl (by rfl) (fun w' h => h.2.1) hu1 (by cases du <;> first | rfl | exact hu2) size_termW) ?_
          (try simp only [Act.put, List.setIfInBounds_toArray, List.set_cons_zero, List.set_cons_succ])
          refine take_at 2 95 o19D_2 (v := ?_) (Or.inl ⟨by rfl, ?_⟩) ?_
          rotate_left 1
          · ((intro w hSw; (try dsimp only at hSw); unfold o19D_2; go_simp) <;> with_reducible rfl)
          (try simp only [Act.put, List.setIfInBounds_toArray, List.set_cons_zero, List.set_cons_succ])
          refine take_at 3 96 o19D_3 (v := ?_) (Or.inl ⟨by rfl, ?_⟩) ?_
          rotate_left 1
          · ((intro w hSw; (try dsimp only at hSw); unfold o19D_3; go_simp) <;> with_reducible rfl)
          (try simp only [Act.put, List.setIfInBounds_toArray, List.set_cons_zero, List.set_cons_succ])
          refine take_at 4 97 o19D_4 (v := ?_) (Or.inl ⟨by rfl, ?_⟩) ?_
          rotate_left 1
          · ((intro w hSw; (try dsimp only at hSw); obtain ⟨hSa, hSb, hSc⟩ := hSw; unfold o19D_4; go_simp) <;> with_reducible rfl)
          (try simp only [Act.put, List.setIfInBounds_toArray, List.set_cons_zero, List.set_cons_succ])
          refine take_at 5 98 o19D_5 (v := ?_) (Or.inl ⟨by rfl, ?_⟩) ?_
          rotate_left 1
          · ((intro w hSw; (try dsimp only at hSw); unfold o19D_5; go_simp) <;> with_reducible rfl)
          (try simp only [Act.put, List.setIfInBounds_toArray, List.set_cons_zero, List.set_cons_succ])
          refine wpAnyH_ready (rs := [6]) (by kernel_rfl) (by simp) ?_
          refine AllReadyH.cons (o := o19D_6) rfl (fun K hK => ?_) ?_
          · unfold o19D_6
            go_simp
            (go_at_call 61; refine (binds_any _ _ _).mono ?_; rintro e w7 ⟨rfl, rfl⟩)
            refine hK.out _ _ ?_ (fun hHeld => ?_)
            · (try dsimp only)
              (first | exact hS8 | exact hHeld | exact hS0)
            clear hK K
            (try simp only [Act.put, List.setIfInBounds_toArray, List.set_cons_zero, List.set_cons_succ])
            refine take_at 7 100 o19D_7 (v := ?_) (Or.inl ⟨by rfl, ?_⟩) ?_
            rotate_left 1
            · ((intro w hSw; (try dsimp only at hSw); unfold o19D_7; go_simp) <;> with_reducible rfl)
            (try simp only [Act.put, List.setIfInBounds_toArray, List.set_cons_zero, List.set_cons_succ])
            refine wpAnyH_ready (rs := [8]) (by kernel_rfl) (by simp) ?_
            refine AllReadyH.cons (o := o19D_8) rfl (fun K hK => ?_) ?_
            · unfold o19D_8
              go_simp
              (go_at_call 38; with_reducible refine Calls.mono ((IH.out _ HM.out).use _ _ _ _ HQ.out HS6d.out.low HS6d.out.bld (HR.out _ HM.out) (by omega) HKF.out (by have := HKS.out; omega) (by have h1 := HROOM.out; have h2 := HBS.out; simp [Lib.byteCells] ; omega)) ?_; rintro e w8 ⟨rfl, hb8, hl8, hk8⟩)
              have HS8 := Lib.hid (HV.out.over (HS6d.out.put hb8 hl8 hk8))
              have hS8 := kid_keep2 HY.out HZ.out HNE.out hk8
              clear hb8 hl8 hk8 hHeld
              refine hK.out _ _ ?_ (fun hHeld => ?_)
              · (try dsimp only)
                (first | exact hS8 | exact hHeld | exact hS0)
              clear hK K
              (try simp only [Act.put, List.setIfInBounds_toArray, List.set_cons_zero, List.set_cons_succ])
              refine wpAnyH_done (by kernel_rfl) ?_ _
              go_wp2
              go_roundw
              case rel => exact ⟨q + 1, by omega, by go_num, by have h := HS8.out; rw [HTK.out, HMD.out]; simpa [Lib.byteCells] using h⟩
              case measure => simp [intOf]; omega
            exact AllReadyH.nil
          exact AllReadyH.nil
        · obtain rfl : q = t.kids.length := by omega
          go_wp2_with fail
          refine (bbyte_any _ b _ _ _ HV.out.bld (by have := HLN.out; simp [Lib.byteCells]; omega) HV.out.hB).mono ?_
          rintro e w6 ⟨rfl, hb6, hl6, hk6⟩
          have HS6 := Lib.hid (HV.out.put hb6 hl6 hk6)
          have HB6 := Lib.hid hb6
          clear hb6 hl6 hk6
          go_wp2
          go_end0
          exact ⟨rfl, by have h := HB6.out; rw [HX.out]; rw [List.take_length] at h; simpa [Lib.byteCells] using h, HUP.out.trans HS6.out.up, HKP.out.trans HS6.out.kept⟩
end Go.Proofs.YtllkackipdcekaaDoor

namespace Go.Proofs.YtllkackipdcekaaDoor
open Go.RowKit

def o19E_0 : Oper := { dst := some 93, op := Go.Op.move (Go.Operand.tmp 0), type := 58, pos := "write.go:60", after := #[], guard := none }
def o19E_1 : Oper := { dst := some 94, op := Go.Op.load 26 (Go.Operand.tmp 9), type := 26, pos := "write.go:60", after := #[], guard := none }
def o19E_2 : Oper := { dst := some 95, op := Go.Op.move (Go.Operand.tmp 2), type := 3, pos := "write.go:60", after := #[], guard := none }
def o19E_3 : Oper := { dst := some 96, op := Go.Op.fieldAddr 26 (Go.Operand.tmp 4) 0, type := 0, pos := "write.go:60", after := #[], guard := none }
def o19E_4 : Oper := { dst := some 97, op := Go.Op.load 3 (Go.Operand.tmp 96), type := 3, pos := "write.go:60", after := #[{ on := 3, ground := Go.Ground.data }], guard := none }
def o19E_5 : Oper := { dst := some 98, op := Go.Op.move (Go.Operand.tmp 8), type := 3, pos := "write.go:60", after := #[], guard := none }
def o19E_6 : Oper := { dst := some 99, op := Go.Op.call { callee := Go.Callee.value (Go.Operand.func 61), args := #[Go.Operand.tmp 97, Go.Operand.tmp 98], argTypes := #[3, 3] }, type := 3, pos := "write.go:60", after := #[{ on := 4, ground := Go.Ground.data }, { on := 5, ground := Go.Ground.data }], guard := none }
def o19E_7 : Oper := { dst := some 100, op := Go.Op.binOp Go.BinOp.add 3 (Go.Operand.tmp 95) (Go.Operand.tmp 99) 3, type := 3, pos := "write.go:60", after := #[{ on := 2, ground := Go.Ground.data }, { on := 6, ground := Go.Ground.data }], guard := none }
def o19E_8 : Oper := { dst := some 101, op := Go.Op.call { callee := Go.Callee.value (Go.Operand.func 38), args := #[Go.Operand.tmp 93, Go.Operand.tmp 94, Go.Operand.tmp 100], argTypes := #[58, 26, 3] }, type := 0, pos := "write.go:60", after := #[{ on := 0, ground := Go.Ground.data }, { on := 1, ground := Go.Ground.data }, { on := 7, ground := Go.Ground.data }, { on := 6, ground := Go.Ground.chain }], guard := none }

set_option maxHeartbeats 4000000 in
set_option maxRecDepth 100000 in
theorem wput_E (w0 : World) (hW : WTab w0) (b : Nat) (t : Tm) (ih : ∀ x ∈ t.kids, WPut w0 b x) (e2 : (t.k == 2) = false) (e22 : (t.k == 22) = false) (e23 : (t.k == 23) = false) (hbd : bindsN t.k 1 = 0) (hlv : levelsN t.k = 0) : WPut w0 b t := by
  intro w s bs m hl hlw hB hr h0 hf hm hbs
  obtain ⟨a, cap, S, rfl, hc, hmx, hfi, hn, hk⟩ := hl.out
  have hkr := t.node_kind (t.right_node hr)
  have hfit := right_fit hr
  obtain ⟨du, hu1, hu2⟩ := under_termW
  have HX := Lib.hid (show t.wr m = 40 :: (headL t.k ++ (frontL t.k t.i t.j t.n m ++ (wrs t.k 0 t.kids m ++ [41]))) by rw [t.wr_eq, if_neg (by simpa using e2)])
  have HS := Lib.hid (wst_start hB hlw (.cells #[.int .i64 t.k, .int .i64 t.i, .int .i64 t.j, .int .i64 t.n, .slice a t.kids.length cap] 26))
  have HBL := Lib.hid hB.lt
  have HW := Lib.hid hW
  have HL := Lib.hid (wr_len t m hr h0 hf hm)
  have HLN := Lib.hid (show bs.length + (1 + (headL t.k).length + (frontL t.k t.i t.j t.n m).length + (wrs t.k 0 t.kids m).length + 1) ≤ 140737488355328 from by
    have := HL.out; rw [HX.out] at this; simp only [List.length_append, List.length_cons, List.length_nil] at this; omega)
  have HN := Lib.hid hn
  have HK := Lib.hid hk
  have HBS := Lib.hid hbs
  have HR := Lib.hid (t.right_kids hr)
  have HF := Lib.hid (by rw [t.freeN_eq, if_neg (by simpa using e2)] at hf; exact hf : frees t.k 0 t.kids ≤ m)
  have IH := Lib.hid ih
  have hh := (HS.out.tab HW.out).heads_cell t.k (by omega) (by omega)
  have HLV := Lib.hid hlv
  have HFR := Lib.hid (show frontL t.k t.i t.j t.n m = ([]) ++ (lvP t.i t.j 0 ++ ([])) from by
    have hq : ¬ t.k = 23 := by simpa using e23
    unfold frontL lvlL; simp [hlv, hbd, hq, lvP])
  have HRR := Lib.hid hr
  have HBD := Lib.hid hbd
  have HFM := Lib.hid (show Fit m from ⟨by omega, by omega⟩)
  have HFM1 := Lib.hid (show Fit (m + 1) from ⟨by omega, by omega⟩)
  have hsw := hlw.size
  clear hB hlw hr hW hbs hn hk hl hf ih hfi hlv hbd
  have hk0 : 0 ≤ t.k := by omega
  have hk1 : t.k < 24 := by omega
  unfold tv
  unfold maxLen at hmx
  go_enter Tryd.func38, Tryd.ntmps38
  go_wp2_with fail
  · exfalso; have := head_len t.k; omega
  rw [show (⟨#[40]⟩ : ByteArray) = ⟨[(40 : UInt8)].toArray⟩ from rfl, str_add]
  refine (bstr_any _ b _ _ _ HS.out.bld (by have := HLN.out; simp [ByteArray.size]; omega) HS.out.hB).mono ?_
  rintro e w1 ⟨rfl, hb1, hl1, hk1⟩
  have HS1 := Lib.hid (HS.out.put hb1 hl1 hk1)
  rw [Lib.strCells_toArray] at HS1
  obtain ⟨d0, d1, d2, d3, d4⟩ := HS1.out.cells HBL.out
  have hsz : w.heap.size < w1.heap.size := by have := HS1.out.size; rw [World.size_alloc] at this; omega
  clear hb1 hl1 hk1 hh
  go_wp2_with fail
  go_region_held3 (fun w' => Below w1.heap.size w1 w' ∧ w'.cell? ⟨w.heap.size, 0, none⟩ = some (.int .i64 t.k) ∧ w'.cell? ⟨w.heap.size, 1, none⟩ = some (.int .i64 t.i) ∧ w'.cell? ⟨w.heap.size, 2, none⟩ = some (.int .i64 t.j))
    (first | (refine rl_keep hsz d0 d1 d2 ?_; repeat (first | exact Below.refl _ _ | (with_reducible assumption) | exact (by assumption : _ ∧ _).1 | refine Below.drew ?_ | refine Below.alloc ?_ (Nat.le_refl _) _)) | go_keep)
    (first | (go_at_call 59; refine (levels_any _ _).mono ?_; rintro e wn ⟨rfl, rfl⟩; rw [HLV.out]))
  all_goals
    rename_i hHeld
    clear hHeld
    go_wp2_with fail
    obtain ⟨w2, hw2⟩ : ∃ w2, w2 = (w1.alloc (.cells #[.int .i64 t.i, .int .i64 t.j] 3)).drew := ⟨_, rfl⟩
    rw [← hw2]
    have HS2 := Lib.hid (HS1.out.call (wr' := w2) (by rw [hw2]; exact ((Below.refl _ w1).alloc (Nat.le_refl _) _).drew)).again
    have HBX2 := Lib.hid (show w2.heap[w.heap.size]? = some (.cells #[.int .i64 t.k, .int .i64 t.i, .int .i64 t.j, .int .i64 t.n, .slice a t.kids.length cap] 26) from by
      have h := HS1.out.at (alloc_heap_new' w _) (by have := HBL.out; omega) ut_ne
      rw [hw2]; show (w1.alloc _).heap[w.heap.size]? = _; rw [Lib.alloc_old _ _ _ hsz]; exact h)
    have HRW2 := Lib.hid (show w2.heap[w1.heap.size]? = some (.cells #[.int .i64 t.i, .int .i64 t.j] 3) from by rw [hw2]; exact alloc_heap_new _ _)
    have HUP := Lib.hid (show Below w0.heap.size w w2 from by
      rw [hw2]; exact (((Below.refl _ w).alloc hsw _).trans HS1.out.up |>.alloc HS1.out.hB _).drew)
    have HKP := Lib.hid (show Kept b w w2 from by
      rw [hw2]; exact ((Kept.alloc b w _).trans HS1.out.kept).trans (Kept.alloc b w1 _))
    have hs2 : w1.heap.size < w2.heap.size := by rw [hw2]; show _ < (w1.alloc _).heap.size; simp
    clear hw2 d0 d1 d2 d3 d4
    go_loopw [47] (fun i wr => ∃ k : Nat, k ≤ 0 ∧ i = .int .i64 k ∧ WSt w0 b w2 (bs ++ Lib.byteCells ([40] ++ headL t.k) ++ Lib.byteCells (lvP t.i t.j k)) wr) (fun i _ => 0 - (intOf i).toNat)
    case atStart => exact ⟨0, by omega, rfl, by simpa [lvP, Lib.byteCells] using HS2.out⟩
    case round =>
      obtain ⟨k, hk, rfl, hst⟩ := hrel
      have hrow := hst.at HRW2.out (by have := HBL.out; omega) ti_ne
      have r0 : wr.cell? ⟨w1.heap.size, 0, none⟩ = some (.int .i64 t.i) := by rw [Lib.cell_of_heap hrow]; rfl
      have r1 : wr.cell? ⟨w1.heap.size, 1, none⟩ = some (.int .i64 t.j) := by rw [Lib.cell_of_heap hrow]; rfl
      have hbox := hst.at HBX2.out (by have := HBL.out; omega) ut_ne
      have d0 : wr.cell? ⟨w.heap.size, 0, none⟩ = some (.int .i64 t.k) := by rw [Lib.cell_of_heap hbox]; rfl
      have d4 : wr.cell? ⟨w.heap.size, 4, none⟩ = some (.slice a t.kids.length cap) := by rw [Lib.cell_of_heap hbox]; rfl
      have HST := Lib.hid hst
      clear hrow hbox hst
      obtain rfl : k = 0 := by omega
      go_wp2_with fail
      refine (binds_any _ _ _).mono ?_
      rintro e w5 ⟨rfl, rfl⟩
      rw [HBD.out]
      go_wp2_with fail
      clear r0 r1 d0 d4
      go_loopw [69] (fun i wv => ∃ q : Nat, q ≤ t.kids.length ∧ i = .int .i64 q ∧ WSt w0 b w2 (bs ++ Lib.byteCells ([40] ++ headL t.k ++ frontL t.k t.i t.j t.n m ++ wrs t.k 0 (t.kids.take q) m)) wv) (fun i _ => t.kids.length - (intOf i).toNat)
      case atStart => exact ⟨0, Nat.zero_le _, rfl, by have h := HST.out; rw [HFR.out]; simpa [wrs, lvP, Lib.byteCells] using h⟩
      case round =>
        obtain ⟨q, hq, rfl, hv⟩ := hrel
        have HV := Lib.hid hv
        have HBX3 := Lib.hid (hv.at HBX2.out (by have := HBL.out; omega) ut_ne)
        have hsv : w.heap.size < wr.heap.size := by have := HV.out.size; omega
        have d0 : wr.cell? ⟨w.heap.size, 0, none⟩ = some (.int .i64 t.k) := by rw [Lib.cell_of_heap HBX3.out]; rfl
        clear hv HST
        by_cases hlt : q < t.kids.length
        · obtain ⟨bn, o, rfl, hx⟩ := HN.out q hlt
          obtain ⟨c0, c1, c2, c3, c4⟩ := hx.below HV.out.low hx.lt
          have hq4 := HK.out q hlt
          obtain ⟨a', cap', S', hS, -⟩ := hq4.out
          rw [hS] at c4 hq4
          have HQ := Lib.hid hq4
          have HM := Lib.hid (List.getElem_mem hlt)
          have HROOM := Lib.hid (put_room HRR.out h0 HF.out hm hlt)
          have HTK := Lib.hid (wrs_take t.k m t.kids 0 q hlt)
          have HKF := Lib.hid (kid_free HF.out hlt)
          have HKS := Lib.hid (kid_size hlt)
          have HV5 := Lib.hid (HV.out.call (wr' := wr.alloc (.cells #[.int .i64 t.kids[q].k, .int .i64 t.kids[q].i, .int .i64 t.kids[q].j, .int .i64 t.kids[q].n, .slice a' t.kids[q].kids.length cap'] 26)) ((Below.refl _ _).alloc (Nat.le_refl _) _)).again
          clear hS hq4 hx
          have hbr := binds_range t.k q
          have HMD := Lib.hid (show midL t.k (0 + q) m = [] from if_neg (fun h => by have := h.1; simp [this] at e22))
          go_wp2_with fail
          refine (bbyte_any _ b _ _ _ HV5.out.bld (by have h1 := HROOM.out; have h2 := HBS.out; simp [Lib.byteCells] ; omega) HV5.out.hB).mono ?_
          rintro e w6 ⟨rfl, hb6, hl6, hk6⟩
          have HS6 := Lib.hid (HV5.out.put hb6 hl6 hk6)
          clear hb6 hl6 hk6
          have hy := HS6.out.at (alloc_heap_new' wr _) (by have := HBL.out; omega) ut_ne
          have hz := HS6.out.at (j := w.heap.size) (by rw [Lib.alloc_old _ _ _ hsv]; exact HBX3.out) (by have := HBL.out; omega) ut_ne
          have HNE := Lib.hid (show wr.heap.size ≠ b ∧ w.heap.size ≠ b by have := HBL.out; omega)
          have HY := Lib.hid hy
          have HZ := Lib.hid hz
          clear hy hz
          have HS6d := Lib.hid (HS6.out.call (wr' := w6.drew) (Below.refl _ w6).drew)
          have hS0 := kid_keep2 HY.out HZ.out HNE.out (Kept.refl b w6)
          have hwr : IntKind.i64.wrap (m + bindsN t.k (q : Int)) = m + bindsN t.k (q : Int) := IntWalk.i64_in _ (by omega)
          go_wp2_with fail
          refine wp_region_held_drew (S := fun w' => Kept b w6 w' ∧ w'.heap[wr.heap.size]? = some (.cells #[.int .i64 t.kids[q].k, .int .i64 t.kids[q].i, .int .i64 t.kids[q].j, .int .i64 t.kids[q].n, .slice a' t.kids[q].kids.length cap'] 26) ∧ w'.cell? ⟨w.heap.size, 0, none⟩ = some (.int .i64 t.k)) (by kernel_rfl) ?_ (fun hHeld => ?_)
          · (try dsimp only)
            (first | exact hS8 | exact hHeld | exact hS0)
          refine take_at 0 93 o19E_0 (v := ?_) (Or.inl ⟨by rfl, ?_⟩) ?_
          rotate_left 1
          · ((intro w hSw; (try dsimp only at hSw); unfold o19E_0; go_simp) <;> with_reducible rfl)
          (try simp only [Act.put, List.setIfInBounds_toArray, List.set_cons_zero, List.set_cons_succ])
          refine take_at 1 94 o19E_1 (yields_row wr.heap.size _ _ _ #[.int .i64 t.kids[q].k, .int .i64 t.kids[q].i, .int .i64 t.kids[q].j, .int .i64 t.kids[q].n, .slice a' t.kids[q].kids.length cap'] _ du (by rfl) rfl (by rfl) (fun w' h => h.2.1) hu1 (by cases du <;> first | rfl | exact hu2) size_termW) ?_
          (try simp only [Act.put, List.setIfInBounds_toArray, List.set_cons_zero, List.set_cons_succ])
          refine take_at 2 95 o19E_2 (v := ?_) (Or.inl ⟨by rfl, ?_⟩) ?_
          rotate_left 1
          · ((intro w hSw; (try dsimp only at hSw); unfold o19E_2; go_simp) <;> with_reducible rfl)
          (try simp only [Act.put, List.setIfInBounds_toArray, List.set_cons_zero, List.set_cons_succ])
          refine take_at 3 96 o19E_3 (v := ?_) (Or.inl ⟨by rfl, ?_⟩) ?_
          rotate_left 1
          · ((intro w hSw; (try dsimp only at hSw); unfold o19E_3; go_simp) <;> with_reducible rfl)
          (try simp only [Act.put, List.setIfInBounds_toArray, List.set_cons_zero, List.set_cons_succ])
          refine take_at 4 97 o19E_4 (v := ?_) (Or.inl ⟨by rfl, ?_⟩) ?_
          rotate_left 1
          · ((intro w hSw; (try dsimp only at hSw); obtain ⟨hSa, hSb, hSc⟩ := hSw; unfold o19E_4; go_simp) <;> with_reducible rfl)
          (try simp only [Act.put, List.setIfInBounds_toArray, List.set_cons_zero, List.set_cons_succ])
          refine take_at 5 98 o19E_5 (v := ?_) (Or.inl ⟨by rfl, ?_⟩) ?_
          rotate_left 1
          · ((intro w hSw; (try dsimp only at hSw); unfold o19E_5; go_simp) <;> with_reducible rfl)
          (try simp only [Act.put, List.setIfInBounds_toArray, List.set_cons_zero, List.set_cons_succ])
          refine wpAnyH_ready (rs := [6]) (by kernel_rfl) (by simp) ?_
          refine AllReadyH.cons (o := o19E_6) rfl (fun K hK => ?_) ?_
          · unfold o19E_6
            go_simp
            (go_at_call 61; refine (binds_any _ _ _).mono ?_; rintro e w7 ⟨rfl, rfl⟩)
            refine hK.out _ _ ?_ (fun hHeld => ?_)
            · (try dsimp only)
              (first | exact hS8 | exact hHeld | exact hS0)
            clear hK K
            (try simp only [Act.put, List.setIfInBounds_toArray, List.set_cons_zero, List.set_cons_succ])
            refine take_at 7 100 o19E_7 (v := ?_) (Or.inl ⟨by rfl, ?_⟩) ?_
            rotate_left 1
            · ((intro w hSw; (try dsimp only at hSw); unfold o19E_7; go_simp) <;> with_reducible rfl)
            (try simp only [Act.put, List.setIfInBounds_toArray, List.set_cons_zero, List.set_cons_succ])
            refine wpAnyH_ready (rs := [8]) (by kernel_rfl) (by simp) ?_
            refine AllReadyH.cons (o := o19E_8) rfl (fun K hK => ?_) ?_
            · unfold o19E_8
              go_simp
              (go_at_call 38; with_reducible refine Calls.mono ((IH.out _ HM.out).use _ _ _ _ HQ.out HS6d.out.low HS6d.out.bld (HR.out _ HM.out) (by omega) HKF.out (by have := HKS.out; omega) (by have h1 := HROOM.out; have h2 := HBS.out; simp [Lib.byteCells] ; omega)) ?_; rintro e w8 ⟨rfl, hb8, hl8, hk8⟩)
              have HS8 := Lib.hid (HV.out.over (HS6d.out.put hb8 hl8 hk8))
              have hS8 := kid_keep2 HY.out HZ.out HNE.out hk8
              clear hb8 hl8 hk8 hHeld
              refine hK.out _ _ ?_ (fun hHeld => ?_)
              · (try dsimp only)
                (first | exact hS8 | exact hHeld | exact hS0)
              clear hK K
              (try simp only [Act.put, List.setIfInBounds_toArray, List.set_cons_zero, List.set_cons_succ])
              refine wpAnyH_done (by kernel_rfl) ?_ _
              go_wp2
              go_roundw
              case rel => exact ⟨q + 1, by omega, by go_num, by have h := HS8.out; rw [HTK.out, HMD.out]; simpa [Lib.byteCells] using h⟩
              case measure => simp [intOf]; omega
            exact AllReadyH.nil
          exact AllReadyH.nil
        · obtain rfl : q = t.kids.length := by omega
          go_wp2_with fail
          refine (bbyte_any _ b _ _ _ HV.out.bld (by have := HLN.out; simp [Lib.byteCells]; omega) HV.out.hB).mono ?_
          rintro e w6 ⟨rfl, hb6, hl6, hk6⟩
          have HS6 := Lib.hid (HV.out.put hb6 hl6 hk6)
          have HB6 := Lib.hid hb6
          clear hb6 hl6 hk6
          go_wp2
          go_end0
          exact ⟨rfl, by have h := HB6.out; rw [HX.out]; rw [List.take_length] at h; simpa [Lib.byteCells] using h, HUP.out.trans HS6.out.up, HKP.out.trans HS6.out.kept⟩
end Go.Proofs.YtllkackipdcekaaDoor

namespace Go.Proofs.YtllkackipdcekaaDoor
open Go.RowKit

def o19F_0 : Oper := { dst := some 93, op := Go.Op.move (Go.Operand.tmp 0), type := 58, pos := "write.go:60", after := #[], guard := none }
def o19F_1 : Oper := { dst := some 94, op := Go.Op.load 26 (Go.Operand.tmp 9), type := 26, pos := "write.go:60", after := #[], guard := none }
def o19F_2 : Oper := { dst := some 95, op := Go.Op.move (Go.Operand.tmp 2), type := 3, pos := "write.go:60", after := #[], guard := none }
def o19F_3 : Oper := { dst := some 96, op := Go.Op.fieldAddr 26 (Go.Operand.tmp 4) 0, type := 0, pos := "write.go:60", after := #[], guard := none }
def o19F_4 : Oper := { dst := some 97, op := Go.Op.load 3 (Go.Operand.tmp 96), type := 3, pos := "write.go:60", after := #[{ on := 3, ground := Go.Ground.data }], guard := none }
def o19F_5 : Oper := { dst := some 98, op := Go.Op.move (Go.Operand.tmp 8), type := 3, pos := "write.go:60", after := #[], guard := none }
def o19F_6 : Oper := { dst := some 99, op := Go.Op.call { callee := Go.Callee.value (Go.Operand.func 61), args := #[Go.Operand.tmp 97, Go.Operand.tmp 98], argTypes := #[3, 3] }, type := 3, pos := "write.go:60", after := #[{ on := 4, ground := Go.Ground.data }, { on := 5, ground := Go.Ground.data }], guard := none }
def o19F_7 : Oper := { dst := some 100, op := Go.Op.binOp Go.BinOp.add 3 (Go.Operand.tmp 95) (Go.Operand.tmp 99) 3, type := 3, pos := "write.go:60", after := #[{ on := 2, ground := Go.Ground.data }, { on := 6, ground := Go.Ground.data }], guard := none }
def o19F_8 : Oper := { dst := some 101, op := Go.Op.call { callee := Go.Callee.value (Go.Operand.func 38), args := #[Go.Operand.tmp 93, Go.Operand.tmp 94, Go.Operand.tmp 100], argTypes := #[58, 26, 3] }, type := 0, pos := "write.go:60", after := #[{ on := 0, ground := Go.Ground.data }, { on := 1, ground := Go.Ground.data }, { on := 7, ground := Go.Ground.data }, { on := 6, ground := Go.Ground.chain }], guard := none }

set_option maxHeartbeats 4000000 in
set_option maxRecDepth 100000 in
theorem wput_F (w0 : World) (hW : WTab w0) (b : Nat) (t : Tm) (ih : ∀ x ∈ t.kids, WPut w0 b x) (e2 : (t.k == 2) = false) (e22 : (t.k == 22) = true) (e23 : (t.k == 23) = false) (hbd : bindsN t.k 1 = 0) (hlv : levelsN t.k = 0) : WPut w0 b t := by
  intro w s bs m hl hlw hB hr h0 hf hm hbs
  obtain ⟨a, cap, S, rfl, hc, hmx, hfi, hn, hk⟩ := hl.out
  have hkr := t.node_kind (t.right_node hr)
  have hfit := right_fit hr
  obtain ⟨du, hu1, hu2⟩ := under_termW
  have HX := Lib.hid (show t.wr m = 40 :: (headL t.k ++ (frontL t.k t.i t.j t.n m ++ (wrs t.k 0 t.kids m ++ [41]))) by rw [t.wr_eq, if_neg (by simpa using e2)])
  have HS := Lib.hid (wst_start hB hlw (.cells #[.int .i64 t.k, .int .i64 t.i, .int .i64 t.j, .int .i64 t.n, .slice a t.kids.length cap] 26))
  have HBL := Lib.hid hB.lt
  have HW := Lib.hid hW
  have HL := Lib.hid (wr_len t m hr h0 hf hm)
  have HLN := Lib.hid (show bs.length + (1 + (headL t.k).length + (frontL t.k t.i t.j t.n m).length + (wrs t.k 0 t.kids m).length + 1) ≤ 140737488355328 from by
    have := HL.out; rw [HX.out] at this; simp only [List.length_append, List.length_cons, List.length_nil] at this; omega)
  have HN := Lib.hid hn
  have HK := Lib.hid hk
  have HBS := Lib.hid hbs
  have HR := Lib.hid (t.right_kids hr)
  have HF := Lib.hid (by rw [t.freeN_eq, if_neg (by simpa using e2)] at hf; exact hf : frees t.k 0 t.kids ≤ m)
  have IH := Lib.hid ih
  have hh := (HS.out.tab HW.out).heads_cell t.k (by omega) (by omega)
  have HLV := Lib.hid hlv
  have HFR := Lib.hid (show frontL t.k t.i t.j t.n m = ([]) ++ (lvP t.i t.j 0 ++ ([])) from by
    have hq : ¬ t.k = 23 := by simpa using e23
    unfold frontL lvlL; simp [hlv, hbd, hq, lvP])
  have HRR := Lib.hid hr
  have HBD := Lib.hid hbd
  have HFM := Lib.hid (show Fit m from ⟨by omega, by omega⟩)
  have HFM1 := Lib.hid (show Fit (m + 1) from ⟨by omega, by omega⟩)
  have hsw := hlw.size
  clear hB hlw hr hW hbs hn hk hl hf ih hfi hlv hbd
  have hk0 : 0 ≤ t.k := by omega
  have hk1 : t.k < 24 := by omega
  unfold tv
  unfold maxLen at hmx
  go_enter Tryd.func38, Tryd.ntmps38
  go_wp2_with fail
  · exfalso; have := head_len t.k; omega
  rw [show (⟨#[40]⟩ : ByteArray) = ⟨[(40 : UInt8)].toArray⟩ from rfl, str_add]
  refine (bstr_any _ b _ _ _ HS.out.bld (by have := HLN.out; simp [ByteArray.size]; omega) HS.out.hB).mono ?_
  rintro e w1 ⟨rfl, hb1, hl1, hk1⟩
  have HS1 := Lib.hid (HS.out.put hb1 hl1 hk1)
  rw [Lib.strCells_toArray] at HS1
  obtain ⟨d0, d1, d2, d3, d4⟩ := HS1.out.cells HBL.out
  have hsz : w.heap.size < w1.heap.size := by have := HS1.out.size; rw [World.size_alloc] at this; omega
  clear hb1 hl1 hk1 hh
  go_wp2_with fail
  go_region_held3 (fun w' => Below w1.heap.size w1 w' ∧ w'.cell? ⟨w.heap.size, 0, none⟩ = some (.int .i64 t.k) ∧ w'.cell? ⟨w.heap.size, 1, none⟩ = some (.int .i64 t.i) ∧ w'.cell? ⟨w.heap.size, 2, none⟩ = some (.int .i64 t.j))
    (first | (refine rl_keep hsz d0 d1 d2 ?_; repeat (first | exact Below.refl _ _ | (with_reducible assumption) | exact (by assumption : _ ∧ _).1 | refine Below.drew ?_ | refine Below.alloc ?_ (Nat.le_refl _) _)) | go_keep)
    (first | (go_at_call 59; refine (levels_any _ _).mono ?_; rintro e wn ⟨rfl, rfl⟩; rw [HLV.out]))
  all_goals
    rename_i hHeld
    clear hHeld
    go_wp2_with fail
    obtain ⟨w2, hw2⟩ : ∃ w2, w2 = (w1.alloc (.cells #[.int .i64 t.i, .int .i64 t.j] 3)).drew := ⟨_, rfl⟩
    rw [← hw2]
    have HS2 := Lib.hid (HS1.out.call (wr' := w2) (by rw [hw2]; exact ((Below.refl _ w1).alloc (Nat.le_refl _) _).drew)).again
    have HBX2 := Lib.hid (show w2.heap[w.heap.size]? = some (.cells #[.int .i64 t.k, .int .i64 t.i, .int .i64 t.j, .int .i64 t.n, .slice a t.kids.length cap] 26) from by
      have h := HS1.out.at (alloc_heap_new' w _) (by have := HBL.out; omega) ut_ne
      rw [hw2]; show (w1.alloc _).heap[w.heap.size]? = _; rw [Lib.alloc_old _ _ _ hsz]; exact h)
    have HRW2 := Lib.hid (show w2.heap[w1.heap.size]? = some (.cells #[.int .i64 t.i, .int .i64 t.j] 3) from by rw [hw2]; exact alloc_heap_new _ _)
    have HUP := Lib.hid (show Below w0.heap.size w w2 from by
      rw [hw2]; exact (((Below.refl _ w).alloc hsw _).trans HS1.out.up |>.alloc HS1.out.hB _).drew)
    have HKP := Lib.hid (show Kept b w w2 from by
      rw [hw2]; exact ((Kept.alloc b w _).trans HS1.out.kept).trans (Kept.alloc b w1 _))
    have hs2 : w1.heap.size < w2.heap.size := by rw [hw2]; show _ < (w1.alloc _).heap.size; simp
    clear hw2 d0 d1 d2 d3 d4
    go_loopw [47] (fun i wr => ∃ k : Nat, k ≤ 0 ∧ i = .int .i64 k ∧ WSt w0 b w2 (bs ++ Lib.byteCells ([40] ++ headL t.k) ++ Lib.byteCells (lvP t.i t.j k)) wr) (fun i _ => 0 - (intOf i).toNat)
    case atStart => exact ⟨0, by omega, rfl, by simpa [lvP, Lib.byteCells] using HS2.out⟩
    case round =>
      obtain ⟨k, hk, rfl, hst⟩ := hrel
      have hrow := hst.at HRW2.out (by have := HBL.out; omega) ti_ne
      have r0 : wr.cell? ⟨w1.heap.size, 0, none⟩ = some (.int .i64 t.i) := by rw [Lib.cell_of_heap hrow]; rfl
      have r1 : wr.cell? ⟨w1.heap.size, 1, none⟩ = some (.int .i64 t.j) := by rw [Lib.cell_of_heap hrow]; rfl
      have hbox := hst.at HBX2.out (by have := HBL.out; omega) ut_ne
      have d0 : wr.cell? ⟨w.heap.size, 0, none⟩ = some (.int .i64 t.k) := by rw [Lib.cell_of_heap hbox]; rfl
      have d4 : wr.cell? ⟨w.heap.size, 4, none⟩ = some (.slice a t.kids.length cap) := by rw [Lib.cell_of_heap hbox]; rfl
      have HST := Lib.hid hst
      clear hrow hbox hst
      obtain rfl : k = 0 := by omega
      go_wp2_with fail
      refine (binds_any _ _ _).mono ?_
      rintro e w5 ⟨rfl, rfl⟩
      rw [HBD.out]
      go_wp2_with fail
      clear r0 r1 d0 d4
      go_loopw [69] (fun i wv => ∃ q : Nat, q ≤ t.kids.length ∧ i = .int .i64 q ∧ WSt w0 b w2 (bs ++ Lib.byteCells ([40] ++ headL t.k ++ frontL t.k t.i t.j t.n m ++ wrs t.k 0 (t.kids.take q) m)) wv) (fun i _ => t.kids.length - (intOf i).toNat)
      case atStart => exact ⟨0, Nat.zero_le _, rfl, by have h := HST.out; rw [HFR.out]; simpa [wrs, lvP, Lib.byteCells] using h⟩
      case round =>
        obtain ⟨q, hq, rfl, hv⟩ := hrel
        have HV := Lib.hid hv
        have HBX3 := Lib.hid (hv.at HBX2.out (by have := HBL.out; omega) ut_ne)
        have hsv : w.heap.size < wr.heap.size := by have := HV.out.size; omega
        have d0 : wr.cell? ⟨w.heap.size, 0, none⟩ = some (.int .i64 t.k) := by rw [Lib.cell_of_heap HBX3.out]; rfl
        clear hv HST
        by_cases hlt : q < t.kids.length
        · obtain ⟨bn, o, rfl, hx⟩ := HN.out q hlt
          obtain ⟨c0, c1, c2, c3, c4⟩ := hx.below HV.out.low hx.lt
          have hq4 := HK.out q hlt
          obtain ⟨a', cap', S', hS, -⟩ := hq4.out
          rw [hS] at c4 hq4
          have HQ := Lib.hid hq4
          have HM := Lib.hid (List.getElem_mem hlt)
          have HROOM := Lib.hid (put_room HRR.out h0 HF.out hm hlt)
          have HTK := Lib.hid (wrs_take t.k m t.kids 0 q hlt)
          have HKF := Lib.hid (kid_free HF.out hlt)
          have HKS := Lib.hid (kid_size hlt)
          have HV5 := Lib.hid (HV.out.call (wr' := wr.alloc (.cells #[.int .i64 t.kids[q].k, .int .i64 t.kids[q].i, .int .i64 t.kids[q].j, .int .i64 t.kids[q].n, .slice a' t.kids[q].kids.length cap'] 26)) ((Below.refl _ _).alloc (Nat.le_refl _) _)).again
          clear hS hq4 hx
          have hbr := binds_range t.k q
          by_cases hq2 : q = 2
          · have HMD := Lib.hid (show midL t.k (0 + q) m = 32 :: (nameW m ++ 32 :: nameW (m + 1)) from by unfold midL; rw [if_pos ⟨by simpa using e22, by omega⟩])
            have HMR := Lib.hid (show midL t.k q m = 32 :: (nameW m ++ 32 :: nameW (m + 1)) from by unfold midL; rw [if_pos ⟨by simpa using e22, by omega⟩])
            have hqn : ((q : Int) == 2) = true := by simp; omega
            clear hq2
            have HROOM := Lib.hid (by have h := HROOM.out; rw [HMR.out] at h; exact h)
            have HNL := Lib.hid (name_len HFM.out)
            have HNL1 := Lib.hid (name_len HFM1.out)
            go_wp2_with fail
            refine (name_any m _ HFM.out (HV5.out.tab HW.out).pow).mono ?_
            rintro e w5 ⟨rfl, hb5⟩
            have HS5 := Lib.hid (HV5.out.call hb5)
            clear hb5
            go_wp2_with fail
            · exfalso; have := HNL.out; omega
            · exfalso; have := HNL.out; omega
            refine (name_any (m + 1) _ HFM1.out (HS5.out.tab HW.out).pow).mono ?_
            rintro e w5' ⟨rfl, hb5⟩
            have HSA := Lib.hid (HS5.out.call hb5)
            clear hb5
            go_wp2_with fail
            · exfalso; have := HNL.out; have := HNL1.out; omega
            rw [show (⟨#[32]⟩ : ByteArray) = ⟨[(32 : UInt8)].toArray⟩ from rfl, str_add, str_add, str_add]
            refine (bstr_any _ b _ _ _ HSA.out.bld (by have h1 := HROOM.out; have h2 := HBS.out; simp [ByteArray.size, Lib.byteCells] at h1 h2 ⊢; omega) HSA.out.hB).mono ?_
            rintro e w5'' ⟨rfl, hb5, hl5, hk5⟩
            have HSB := Lib.hid (HSA.out.put hb5 hl5 hk5)
            rw [Lib.strCells_toArray] at HSB
            clear hb5 hl5 hk5
            go_wp2_with fail
            refine (bbyte_any _ b _ _ _ HSB.out.bld (by have h1 := HROOM.out; have h2 := HBS.out; simp [Lib.byteCells] at h1 h2 ⊢; omega) HSB.out.hB).mono ?_
            rintro e w6 ⟨rfl, hb6, hl6, hk6⟩
            have HS6 := Lib.hid (HSB.out.put hb6 hl6 hk6)
            clear hb6 hl6 hk6
            have hy := HS6.out.at (alloc_heap_new' wr _) (by have := HBL.out; omega) ut_ne
            have hz := HS6.out.at (j := w.heap.size) (by rw [Lib.alloc_old _ _ _ hsv]; exact HBX3.out) (by have := HBL.out; omega) ut_ne
            have HNE := Lib.hid (show wr.heap.size ≠ b ∧ w.heap.size ≠ b by have := HBL.out; omega)
            have HY := Lib.hid hy
            have HZ := Lib.hid hz
            clear hy hz
            have HS6d := Lib.hid (HS6.out.call (wr' := w6.drew) (Below.refl _ w6).drew)
            have hS0 := kid_keep2 HY.out HZ.out HNE.out (Kept.refl b w6)
            have hwr : IntKind.i64.wrap (m + bindsN t.k (q : Int)) = m + bindsN t.k (q : Int) := IntWalk.i64_in _ (by omega)
            go_wp2_with fail
            refine wp_region_held_drew (S := fun w' => Kept b w6 w' ∧ w'.heap[wr.heap.size]? = some (.cells #[.int .i64 t.kids[q].k, .int .i64 t.kids[q].i, .int .i64 t.kids[q].j, .int .i64 t.kids[q].n, .slice a' t.kids[q].kids.length cap'] 26) ∧ w'.cell? ⟨w.heap.size, 0, none⟩ = some (.int .i64 t.k)) (by kernel_rfl) ?_ (fun hHeld => ?_)
            · (try dsimp only)
              (first | exact hS8 | exact hHeld | exact hS0)
            refine take_at 0 93 o19F_0 (v := ?_) (Or.inl ⟨by rfl, ?_⟩) ?_
            rotate_left 1
            · ((intro w hSw; (try dsimp only at hSw); unfold o19F_0; go_simp) <;> with_reducible rfl)
            (try simp only [Act.put, List.setIfInBounds_toArray, List.set_cons_zero, List.set_cons_succ])
            refine take_at 1 94 o19F_1 (yields_row wr.heap.size _ _ _ #[.int .i64 t.kids[q].k, .int .i64 t.kids[q].i, .int .i64 t.kids[q].j, .int .i64 t.kids[q].n, .slice a' t.kids[q].kids.length cap'] _ du (by rfl) rfl (by rfl) (fun w' h => h.2.1) hu1 (by cases du <;> first | rfl | exact hu2) size_termW) ?_
            (try simp only [Act.put, List.setIfInBounds_toArray, List.set_cons_zero, List.set_cons_succ])
            refine take_at 2 95 o19F_2 (v := ?_) (Or.inl ⟨by rfl, ?_⟩) ?_
            rotate_left 1
            · ((intro w hSw; (try dsimp only at hSw); unfold o19F_2; go_simp) <;> with_reducible rfl)
            (try simp only [Act.put, List.setIfInBounds_toArray, List.set_cons_zero, List.set_cons_succ])
            refine take_at 3 96 o19F_3 (v := ?_) (Or.inl ⟨by rfl, ?_⟩) ?_
            rotate_left 1
            · ((intro w hSw; (try dsimp only at hSw); unfold o19F_3; go_simp) <;> with_reducible rfl)
            (try simp only [Act.put, List.setIfInBounds_toArray, List.set_cons_zero, List.set_cons_succ])
            refine take_at 4 97 o19F_4 (v := ?_) (Or.inl ⟨by rfl, ?_⟩) ?_
            rotate_left 1
            · ((intro w hSw; (try dsimp only at hSw); obtain ⟨hSa, hSb, hSc⟩ := hSw; unfold o19F_4; go_simp) <;> with_reducible rfl)
            (try simp only [Act.put, List.setIfInBounds_toArray, List.set_cons_zero, List.set_cons_succ])
            refine take_at 5 98 o19F_5 (v := ?_) (Or.inl ⟨by rfl, ?_⟩) ?_
            rotate_left 1
            · ((intro w hSw; (try dsimp only at hSw); unfold o19F_5; go_simp) <;> with_reducible rfl)
            (try simp only [Act.put, List.setIfInBounds_toArray, List.set_cons_zero, List.set_cons_succ])
            refine wpAnyH_ready (rs := [6]) (by kernel_rfl) (by simp) ?_
            refine AllReadyH.cons (o := o19F_6) rfl (fun K hK => ?_) ?_
            · unfold o19F_6
              go_simp
              (go_at_call 61; refine (binds_any _ _ _).mono ?_; rintro e w7 ⟨rfl, rfl⟩)
              refine hK.out _ _ ?_ (fun hHeld => ?_)
              · (try dsimp only)
                (first | exact hS8 | exact hHeld | exact hS0)
              clear hK K
              (try simp only [Act.put, List.setIfInBounds_toArray, List.set_cons_zero, List.set_cons_succ])
              refine take_at 7 100 o19F_7 (v := ?_) (Or.inl ⟨by rfl, ?_⟩) ?_
              rotate_left 1
              · ((intro w hSw; (try dsimp only at hSw); unfold o19F_7; go_simp) <;> with_reducible rfl)
              (try simp only [Act.put, List.setIfInBounds_toArray, List.set_cons_zero, List.set_cons_succ])
              refine wpAnyH_ready (rs := [8]) (by kernel_rfl) (by simp) ?_
              refine AllReadyH.cons (o := o19F_8) rfl (fun K hK => ?_) ?_
              · unfold o19F_8
                go_simp
                (go_at_call 38; with_reducible refine Calls.mono ((IH.out _ HM.out).use _ _ _ _ HQ.out HS6d.out.low HS6d.out.bld (HR.out _ HM.out) (by omega) HKF.out (by have := HKS.out; omega) (by have h1 := HROOM.out; have h2 := HBS.out; simp [Lib.byteCells] at h1 h2 ⊢; omega)) ?_; rintro e w8 ⟨rfl, hb8, hl8, hk8⟩)
                have HS8 := Lib.hid (HV.out.over (HS6d.out.put hb8 hl8 hk8))
                have hS8 := kid_keep2 HY.out HZ.out HNE.out hk8
                clear hb8 hl8 hk8 hHeld
                refine hK.out _ _ ?_ (fun hHeld => ?_)
                · (try dsimp only)
                  (first | exact hS8 | exact hHeld | exact hS0)
                clear hK K
                (try simp only [Act.put, List.setIfInBounds_toArray, List.set_cons_zero, List.set_cons_succ])
                refine wpAnyH_done (by kernel_rfl) ?_ _
                go_wp2
                go_roundw
                case rel => exact ⟨q + 1, by omega, by go_num, by have h := HS8.out; rw [HTK.out, HMD.out]; simpa [Lib.byteCells] using h⟩
                case measure => simp [intOf]; omega
              exact AllReadyH.nil
            exact AllReadyH.nil
          · have HMD := Lib.hid (show midL t.k (0 + q) m = [] from if_neg (fun h => by have := h.2; omega))
            have hqn : ((q : Int) == 2) = false := by simp; omega
            go_wp2_with fail
            refine (bbyte_any _ b _ _ _ HV5.out.bld (by have h1 := HROOM.out; have h2 := HBS.out; simp [Lib.byteCells] ; omega) HV5.out.hB).mono ?_
            rintro e w6 ⟨rfl, hb6, hl6, hk6⟩
            have HS6 := Lib.hid (HV5.out.put hb6 hl6 hk6)
            clear hb6 hl6 hk6
            have hy := HS6.out.at (alloc_heap_new' wr _) (by have := HBL.out; omega) ut_ne
            have hz := HS6.out.at (j := w.heap.size) (by rw [Lib.alloc_old _ _ _ hsv]; exact HBX3.out) (by have := HBL.out; omega) ut_ne
            have HNE := Lib.hid (show wr.heap.size ≠ b ∧ w.heap.size ≠ b by have := HBL.out; omega)
            have HY := Lib.hid hy
            have HZ := Lib.hid hz
            clear hy hz
            have HS6d := Lib.hid (HS6.out.call (wr' := w6.drew) (Below.refl _ w6).drew)
            have hS0 := kid_keep2 HY.out HZ.out HNE.out (Kept.refl b w6)
            have hwr : IntKind.i64.wrap (m + bindsN t.k (q : Int)) = m + bindsN t.k (q : Int) := IntWalk.i64_in _ (by omega)
            go_wp2_with fail
            refine wp_region_held_drew (S := fun w' => Kept b w6 w' ∧ w'.heap[wr.heap.size]? = some (.cells #[.int .i64 t.kids[q].k, .int .i64 t.kids[q].i, .int .i64 t.kids[q].j, .int .i64 t.kids[q].n, .slice a' t.kids[q].kids.length cap'] 26) ∧ w'.cell? ⟨w.heap.size, 0, none⟩ = some (.int .i64 t.k)) (by kernel_rfl) ?_ (fun hHeld => ?_)
            · (try dsimp only)
              (first | exact hS8 | exact hHeld | exact hS0)
            refine take_at 0 93 o19F_0 (v := ?_) (Or.inl ⟨by rfl, ?_⟩) ?_
            rotate_left 1
            · ((intro w hSw; (try dsimp only at hSw); unfold o19F_0; go_simp) <;> with_reducible rfl)
            (try simp only [Act.put, List.setIfInBounds_toArray, List.set_cons_zero, List.set_cons_succ])
            refine take_at 1 94 o19F_1 (yields_row wr.heap.size _ _ _ #[.int .i64 t.kids[q].k, .int .i64 t.kids[q].i, .int .i64 t.kids[q].j, .int .i64 t.kids[q].n, .slice a' t.kids[q].kids.length cap'] _ du (by rfl) rfl (by rfl) (fun w' h => h.2.1) hu1 (by cases du <;> first | rfl | exact hu2) size_termW) ?_
            (try simp only [Act.put, List.setIfInBounds_toArray, List.set_cons_zero, List.set_cons_succ])
            refine take_at 2 95 o19F_2 (v := ?_) (Or.inl ⟨by rfl, ?_⟩) ?_
            rotate_left 1
            · ((intro w hSw; (try dsimp only at hSw); unfold o19F_2; go_simp) <;> with_reducible rfl)
            (try simp only [Act.put, List.setIfInBounds_toArray, List.set_cons_zero, List.set_cons_succ])
            refine take_at 3 96 o19F_3 (v := ?_) (Or.inl ⟨by rfl, ?_⟩) ?_
            rotate_left 1
            · ((intro w hSw; (try dsimp only at hSw); unfold o19F_3; go_simp) <;> with_reducible rfl)
            (try simp only [Act.put, List.setIfInBounds_toArray, List.set_cons_zero, List.set_cons_succ])
            refine take_at 4 97 o19F_4 (v := ?_) (Or.inl ⟨by rfl, ?_⟩) ?_
            rotate_left 1
            · ((intro w hSw; (try dsimp only at hSw); obtain ⟨hSa, hSb, hSc⟩ := hSw; unfold o19F_4; go_simp) <;> with_reducible rfl)
            (try simp only [Act.put, List.setIfInBounds_toArray, List.set_cons_zero, List.set_cons_succ])
            refine take_at 5 98 o19F_5 (v := ?_) (Or.inl ⟨by rfl, ?_⟩) ?_
            rotate_left 1
            · ((intro w hSw; (try dsimp only at hSw); unfold o19F_5; go_simp) <;> with_reducible rfl)
            (try simp only [Act.put, List.setIfInBounds_toArray, List.set_cons_zero, List.set_cons_succ])
            refine wpAnyH_ready (rs := [6]) (by kernel_rfl) (by simp) ?_
            refine AllReadyH.cons (o := o19F_6) rfl (fun K hK => ?_) ?_
            · unfold o19F_6
              go_simp
              (go_at_call 61; refine (binds_any _ _ _).mono ?_; rintro e w7 ⟨rfl, rfl⟩)
              refine hK.out _ _ ?_ (fun hHeld => ?_)
              · (try dsimp only)
                (first | exact hS8 | exact hHeld | exact hS0)
              clear hK K
              (try simp only [Act.put, List.setIfInBounds_toArray, List.set_cons_zero, List.set_cons_succ])
              refine take_at 7 100 o19F_7 (v := ?_) (Or.inl ⟨by rfl, ?_⟩) ?_
              rotate_left 1
              · ((intro w hSw; (try dsimp only at hSw); unfold o19F_7; go_simp) <;> with_reducible rfl)
              (try simp only [Act.put, List.setIfInBounds_toArray, List.set_cons_zero, List.set_cons_succ])
              refine wpAnyH_ready (rs := [8]) (by kernel_rfl) (by simp) ?_
              refine AllReadyH.cons (o := o19F_8) rfl (fun K hK => ?_) ?_
              · unfold o19F_8
                go_simp
                (go_at_call 38; with_reducible refine Calls.mono ((IH.out _ HM.out).use _ _ _ _ HQ.out HS6d.out.low HS6d.out.bld (HR.out _ HM.out) (by omega) HKF.out (by have := HKS.out; omega) (by have h1 := HROOM.out; have h2 := HBS.out; simp [Lib.byteCells] ; omega)) ?_; rintro e w8 ⟨rfl, hb8, hl8, hk8⟩)
                have HS8 := Lib.hid (HV.out.over (HS6d.out.put hb8 hl8 hk8))
                have hS8 := kid_keep2 HY.out HZ.out HNE.out hk8
                clear hb8 hl8 hk8 hHeld
                refine hK.out _ _ ?_ (fun hHeld => ?_)
                · (try dsimp only)
                  (first | exact hS8 | exact hHeld | exact hS0)
                clear hK K
                (try simp only [Act.put, List.setIfInBounds_toArray, List.set_cons_zero, List.set_cons_succ])
                refine wpAnyH_done (by kernel_rfl) ?_ _
                go_wp2
                go_roundw
                case rel => exact ⟨q + 1, by omega, by go_num, by have h := HS8.out; rw [HTK.out, HMD.out]; simpa [Lib.byteCells] using h⟩
                case measure => simp [intOf]; omega
              exact AllReadyH.nil
            exact AllReadyH.nil
        · obtain rfl : q = t.kids.length := by omega
          go_wp2_with fail
          refine (bbyte_any _ b _ _ _ HV.out.bld (by have := HLN.out; simp [Lib.byteCells]; omega) HV.out.hB).mono ?_
          rintro e w6 ⟨rfl, hb6, hl6, hk6⟩
          have HS6 := Lib.hid (HV.out.put hb6 hl6 hk6)
          have HB6 := Lib.hid hb6
          clear hb6 hl6 hk6
          go_wp2
          go_end0
          exact ⟨rfl, by have h := HB6.out; rw [HX.out]; rw [List.take_length] at h; simpa [Lib.byteCells] using h, HUP.out.trans HS6.out.up, HKP.out.trans HS6.out.kept⟩
end Go.Proofs.YtllkackipdcekaaDoor

namespace Go.Proofs.YtllkackipdcekaaDoor
open Go.RowKit

theorem wput_any (w0 : World) (hW : WTab w0) (b : Nat) (t : Tm) : WPut w0 b t := by
  induction t using Tm.ind with
  | h t ih =>
    intro w s bs m hl hlw hB hr h0 hf hm hbs
    have hz := t.size_eq
    have hk := t.node_kind (t.right_node hr)
    by_cases h2 : t.k = 2
    · exact wput_var w0 hW b t w s bs m hlw hB hr h2 h0 hf (by omega) (by omega)
    have e2 : (t.k == 2) = false := by simpa using h2
    have hc : t.k = 1 ∨ t.k = 3 ∨ t.k = 4 ∨ t.k = 5 ∨ t.k = 6 ∨ t.k = 7 ∨ t.k = 8 ∨ t.k = 9 ∨ t.k = 10 ∨ t.k = 11 ∨ t.k = 12 ∨ t.k = 13 ∨ t.k = 14 ∨ t.k = 15 ∨ t.k = 16 ∨ t.k = 17 ∨ t.k = 18 ∨ t.k = 19 ∨ t.k = 20 ∨ t.k = 21 ∨ t.k = 22 ∨ t.k = 23 := by omega
    rcases hc with h | h | h | h | h | h | h | h | h | h | h | h | h | h | h | h | h | h | h | h | h | h
    · exact wput_A w0 hW b t ih e2 (by rw [h]; decide) (by rw [h]; decide) (by rw [h]; decide) (by rw [h]; decide) w s bs m hl hlw hB hr h0 hf hm hbs
    · exact wput_B w0 hW b t ih e2 (by rw [h]; decide) (by rw [h]; decide) (by rw [h]; decide) (by rw [h]; decide) w s bs m hl hlw hB hr h0 hf hm hbs
    · exact wput_B w0 hW b t ih e2 (by rw [h]; decide) (by rw [h]; decide) (by rw [h]; decide) (by rw [h]; decide) w s bs m hl hlw hB hr h0 hf hm hbs
    · exact wput_B w0 hW b t ih e2 (by rw [h]; decide) (by rw [h]; decide) (by rw [h]; decide) (by rw [h]; decide) w s bs m hl hlw hB hr h0 hf hm hbs
    · exact wput_B w0 hW b t ih e2 (by rw [h]; decide) (by rw [h]; decide) (by rw [h]; decide) (by rw [h]; decide) w s bs m hl hlw hB hr h0 hf hm hbs
    · exact wput_B w0 hW b t ih e2 (by rw [h]; decide) (by rw [h]; decide) (by rw [h]; decide) (by rw [h]; decide) w s bs m hl hlw hB hr h0 hf hm hbs
    · exact wput_B w0 hW b t ih e2 (by rw [h]; decide) (by rw [h]; decide) (by rw [h]; decide) (by rw [h]; decide) w s bs m hl hlw hB hr h0 hf hm hbs
    · exact wput_B w0 hW b t ih e2 (by rw [h]; decide) (by rw [h]; decide) (by rw [h]; decide) (by rw [h]; decide) w s bs m hl hlw hB hr h0 hf hm hbs
    · exact wput_A w0 hW b t ih e2 (by rw [h]; decide) (by rw [h]; decide) (by rw [h]; decide) (by rw [h]; decide) w s bs m hl hlw hB hr h0 hf hm hbs
    · exact wput_A w0 hW b t ih e2 (by rw [h]; decide) (by rw [h]; decide) (by rw [h]; decide) (by rw [h]; decide) w s bs m hl hlw hB hr h0 hf hm hbs
    · exact wput_A w0 hW b t ih e2 (by rw [h]; decide) (by rw [h]; decide) (by rw [h]; decide) (by rw [h]; decide) w s bs m hl hlw hB hr h0 hf hm hbs
    · exact wput_D w0 hW b t ih e2 (by rw [h]; decide) (by rw [h]; decide) (by rw [h]; decide) (by rw [h]; decide) w s bs m hl hlw hB hr h0 hf hm hbs
    · exact wput_D w0 hW b t ih e2 (by rw [h]; decide) (by rw [h]; decide) (by rw [h]; decide) (by rw [h]; decide) w s bs m hl hlw hB hr h0 hf hm hbs
    · exact wput_E w0 hW b t ih e2 (by rw [h]; decide) (by rw [h]; decide) (by rw [h]; decide) (by rw [h]; decide) w s bs m hl hlw hB hr h0 hf hm hbs
    · exact wput_D w0 hW b t ih e2 (by rw [h]; decide) (by rw [h]; decide) (by rw [h]; decide) (by rw [h]; decide) w s bs m hl hlw hB hr h0 hf hm hbs
    · exact wput_D w0 hW b t ih e2 (by rw [h]; decide) (by rw [h]; decide) (by rw [h]; decide) (by rw [h]; decide) w s bs m hl hlw hB hr h0 hf hm hbs
    · exact wput_E w0 hW b t ih e2 (by rw [h]; decide) (by rw [h]; decide) (by rw [h]; decide) (by rw [h]; decide) w s bs m hl hlw hB hr h0 hf hm hbs
    · exact wput_E w0 hW b t ih e2 (by rw [h]; decide) (by rw [h]; decide) (by rw [h]; decide) (by rw [h]; decide) w s bs m hl hlw hB hr h0 hf hm hbs
    · exact wput_E w0 hW b t ih e2 (by rw [h]; decide) (by rw [h]; decide) (by rw [h]; decide) (by rw [h]; decide) w s bs m hl hlw hB hr h0 hf hm hbs
    · exact wput_E w0 hW b t ih e2 (by rw [h]; decide) (by rw [h]; decide) (by rw [h]; decide) (by rw [h]; decide) w s bs m hl hlw hB hr h0 hf hm hbs
    · exact wput_F w0 hW b t ih e2 (by rw [h]; decide) (by rw [h]; decide) (by rw [h]; decide) (by rw [h]; decide) w s bs m hl hlw hB hr h0 hf hm hbs
    · exact wput_C w0 hW b t ih e2 (by rw [h]; decide) (by rw [h]; decide) (by rw [h]; decide) (by rw [h]; decide) w s bs m hl hlw hB hr h0 hf hm hbs
end Go.Proofs.YtllkackipdcekaaDoor

namespace Go.Proofs.YtllkackipdcekaaDoor
open Go.RowKit

set_option maxHeartbeats 2000000 in
set_option maxRecDepth 100000 in
theorem write_any (t : Tm) (n : Int) (w : World) (s : Value) (hl : Lies w t.kids s) (hW : WTab w) (hz : t.size ≤ 1000000) :
    Calls Tryd.prog 23 #[tv t s, .int .i64 n] w fun e w' => e = .returned (.string ⟨(writeB t n).toArray⟩) ∧ Below w.heap.size w w' := by
  obtain ⟨a, cap, S, hs, -⟩ := hl.out
  subst hs
  have HB := (Below.refl (w.heap.size + 1) (w.alloc (.cells #[.int .i64 t.k, .int .i64 t.i, .int .i64 t.j, .int .i64 t.n, .slice a t.kids.length cap] 26)))
  have HL := Lib.hid (hl.keep (below_of_box HB))
  have HBX := Lib.hid (fun (wr : World) => box_cells (w := w) (wr := wr) (v0 := .int .i64 t.k) (v1 := .int .i64 t.i) (v2 := .int .i64 t.j) (v3 := .int .i64 t.n) (v4 := .slice a t.kids.length cap) (T := 26))
  have HW := Lib.hid hW
  have HB0 := Lib.hid HB
  obtain ⟨d0, d1, d2, d3, d4⟩ := HBX.out _ HB
  clear hl hW HB
  unfold tv
  go_enter Tryd.func23, Tryd.ntmps23
  by_cases h1 : n < 0
  · go_wp2
    go_ret
    exact ⟨by unfold writeB; rw [if_neg (by omega)]; rfl, below_of_box HB0.out⟩
  by_cases h2 : 1000000 < n
  · go_wp2
    go_ret
    exact ⟨by unfold writeB; rw [if_neg (by omega)]; rfl, below_of_box HB0.out⟩
  cases hr : t.rightB
  · go_wp2_with fail
    refine (right_any t _ _ HL.out).mono ?_
    rintro e w1 ⟨rfl, hb1⟩
    rw [hr]
    have HB1 := Lib.hid (below_call HB0.out hb1 (by simp))
    clear hb1
    go_wp2
    go_ret
    exact ⟨by unfold writeB; rw [if_neg (by rw [hr]; simp)]; rfl, below_of_box HB1.out⟩
  go_wp2_with fail
  refine (right_any t _ _ HL.out).mono ?_
  rintro e w1 ⟨rfl, hb1⟩
  rw [hr]
  have HB1 := Lib.hid (below_call HB0.out hb1 (by simp))
  have HL1 := Lib.hid (HL.out.keep hb1)
  clear hb1 d0 d1 d2 d3 d4
  obtain ⟨d0, d1, d2, d3, d4⟩ := HBX.out _ HB1.out
  go_wp2_with fail
  refine (Free_any t _ _ HL1.out).mono ?_
  rintro e w2 ⟨rfl, hb2⟩
  have HB2 := Lib.hid (below_call HB1.out hb2 (by have := HB1.out.size; simpa using this))
  have HL2 := Lib.hid (HL1.out.keep hb2)
  clear hb2 d0 d1 d2 d3 d4
  obtain ⟨d0, d1, d2, d3, d4⟩ := HBX.out _ HB2.out
  have hW2 := Lib.hid (HW.out.later (below_of_box HB2.out))
  by_cases h3 : n < t.freeB
  · go_wp2
    go_ret
    exact ⟨by unfold writeB; rw [if_neg (by omega)]; rfl, below_of_box HB2.out⟩
  have hfn : t.freeN ≤ n := by unfold Tm.freeB at h3; rw [if_pos hr] at h3; omega
  have hlt : w.heap.size < w2.heap.size := by have := HB2.out.size; simp at this; omega
  go_wp2_with fail
  refine ((wput_any w2 hW2.out w2.heap.size t).use _ _ [] n HL2.out ((Below.refl _ w2).alloc (Nat.le_refl _) _) (Lib.fresh_isBuilder _ _ w2) hr (by omega) hfn (by omega) (by simp; omega)).mono ?_
  rintro e w3 ⟨rfl, hb3, hl3, hk3⟩
  have HB3 := Lib.hid hb3
  have HL3 := Lib.hid hl3
  clear hb3 hl3 hk3
  go_wp2_with fail
  refine (btext_any _ _ _ (t.wr n) w3 (by simpa using HB3.out) (wr_some t n)).mono ?_
  rintro e w4 ⟨rfl, hb4⟩
  have HB4 := Lib.hid hb4
  clear hb4
  go_wp2
  go_ret
  exact ⟨by unfold writeB; rw [if_pos ⟨by omega, hr, by omega⟩]; rfl, (below_of_box HB2.out).trans ((((Below.refl _ w2).alloc (Nat.le_refl _) _).trans (HL3.out.trans HB4.out)).mono (by omega))⟩

/-- A row of texts. -/
def sv (x : List UInt8) : Value := .string ⟨x.toArray⟩
def SRow (B : Nat) (w : World) (v : Value) (l : List (List UInt8)) : Prop := w.ownsRow B 9 1 v l.length (l.map sv)
theorem SRow.len {B : Nat} {w : World} {v : Value} {l : List (List UInt8)} (h : SRow B w v l) : ∃ a cap, v = .slice a l.length cap := by
  rcases h.2 with ⟨rfl, h0⟩ | ⟨g, cap, cur, rfl, r⟩
  · exact ⟨none, 0, by rw [h0]⟩
  · exact ⟨_, cap, rfl⟩
theorem SRow.cell {B g : Nat} {w : World} {n cap : Nat} {l : List (List UInt8)} (h : SRow B w (.slice (some ⟨g, 0, none⟩) n cap) l) (i : Nat) (hi : i < l.length) : w.cell? ⟨g, i, none⟩ = some (sv l[i]) := by
  have := h.cells (g := g) rfl i (sv l[i]) (by simp [hi])
  cases i <;> simpa [Addr.add] using this
theorem SRow.keep {B : Nat} {w w' : World} {v : Value} {l : List (List UInt8)} (h : SRow B w v l) (hb : Below w.heap.size w w') : SRow B w' v l := by
  refine ⟨h.1, ?_⟩
  rcases h.2 with h2 | ⟨g, cap, cur, hv, hg, hh, r⟩
  · exact Or.inl h2
  · refine Or.inr ⟨g, cap, cur, hv, hg, ?_, r⟩
    rw [hb.block g ?_]; exact hh
    exact (Array.getElem?_eq_some_iff.1 hh).1
def vnames (n : Nat) : List (List UInt8) := (List.range n).map fun (i : Nat) => nameW (i : Int)
theorem vnames_set (n k : Nat) (h : k < n) : ((vnames k ++ List.replicate (n - k) []).set k (nameW (k : Int))) = vnames (k + 1) ++ List.replicate (n - (k + 1)) [] := by
  have hl : (vnames k).length = k := by simp [vnames]
  rw [List.set_append_right _ _ (by omega), hl, Nat.sub_self, show n - k = (n - (k + 1)) + 1 by omega, List.replicate_succ, List.set_cons_zero]
  unfold vnames
  rw [List.range_succ]; simp
theorem str_info : (Tryd.prog.info? 9).map (fun i => (i.zero, i.size, i.bytes)) = some (some (.string ⟨#[]⟩), 1, 16) := by kernel_rfl

set_option maxHeartbeats 2000000 in
set_option maxRecDepth 100000 in
theorem names_any (n : Int) (w : World) (hW : WTab w) :
    Calls Tryd.prog 24 #[.int .i64 n] w fun e w' => ∃ v, e = .returned v ∧ SRow w.heap.size w' v (if 0 ≤ n ∧ n ≤ 1000000 then vnames n.toNat else []) ∧ Below w.heap.size w w' := by
  have HW := Lib.hid hW
  obtain ⟨i0, hi, hz0, hz1, hz2⟩ := info_parts str_info
  have HI := Lib.hid (And.intro hi (And.intro hz0 (And.intro hz1 hz2)))
  clear hW hi hz0 hz1 hz2
  go_enter Tryd.func24, Tryd.ntmps24
  by_cases h1 : n < 0
  · go_wp2
    go_ret
    exact ⟨_, rfl, by (try rw [if_neg (by omega)]); exact World.ownsRow_nil _ _ _ _, Below.refl _ _⟩
  by_cases h2 : 1000000 < n
  · go_wp2
    go_ret
    exact ⟨_, rfl, by (try rw [if_neg (by omega)]); exact World.ownsRow_nil _ _ _ _, Below.refl _ _⟩
  obtain ⟨m, rfl⟩ : ∃ m : Nat, n = (m : Int) := ⟨n.toNat, by omega⟩
  go_wp2_with (at_make; refine wpList_make_full _ rfl _ _ 22 rfl w.heap.size 9 i0 _ 1 (by kernel_rfl) HI.out.1 HI.out.2.1 HI.out.2.2.1 _ _ _ _ m rfl rfl rfl rfl ?bytes ?max ?base ?next)
  case bytes => rw [HI.out.2.2.2]; omega
  case max => unfold maxLen; omega
  case next =>
  intro w2 hown hgrow
  obtain ⟨g, hg⟩ : ∃ g, w.heap.size = g := ⟨_, rfl⟩
  have HO := Lib.hid (show SRow w.heap.size w2 (.slice (some ⟨g, 0, none⟩) m m) (vnames 0 ++ List.replicate (m - 0) []) from by
    have h := hown
    simp only [toList_madeCells_one] at h
    rw [hg] at h ⊢
    unfold SRow; simpa [vnames, sv] using h)
  have HBG := Lib.hid (show Below w.heap.size w w2 from Below.grown (Below.refl _ w) hgrow (Nat.le_refl _) (by simp))
  rw [hg]
  clear hown hgrow
  go_wp2_with fail
  go_loopw [15] (fun i wr => ∃ k : Nat, k ≤ m ∧ i = .int .i64 k ∧ SRow g wr (.slice (some ⟨g, 0, none⟩) m m) (vnames k ++ List.replicate (m - k) []) ∧ Below g w wr) (fun i _ => m - (intOf i).toNat)
  case atStart => exact ⟨0, Nat.zero_le _, rfl, by rw [← hg]; have h := HO.out; rw [hg]; rw [hg] at h; exact h, by rw [← hg]; exact HBG.out⟩
  case round =>
    obtain ⟨k, hk, rfl, hrow, hbl⟩ := hrel
    have HR := Lib.hid hrow
    have HBL := Lib.hid hbl
    clear hrow hbl
    by_cases hlt : k < m
    · have hlen : (vnames k ++ List.replicate (m - k) []).length = m := by simp [vnames]; omega
      go_wp2_with fail
      refine (name_any (k : Int) _ ⟨by omega, by omega⟩ (HW.out.later (by rw [hg]; exact HBL.out)).pow).mono ?_
      rintro e w3 ⟨rfl, hb3⟩
      have HR3 := Lib.hid (HR.out.keep hb3)
      have HB3 := Lib.hid (HBL.out.trans (hb3.mono (by have := HBL.out.size; omega)))
      have HC := Lib.hid (HR3.out.cell k (by rw [hlen]; exact hlt))
      have hc := HC.out
      have hfz : w3.frozen? ⟨g, k, none⟩ = false := by
        have h := HR3.out; unfold SRow at h; rw [hlen] at h; exact h.frozenAt k
      have HS := Lib.hid (show SRow g (w3.setCell ⟨g, k, none⟩ (.string ⟨(nameW (k : Int)).toArray⟩)) (.slice (some ⟨g, 0, none⟩) m m) (vnames (k + 1) ++ List.replicate (m - (k + 1)) []) from by
        have h := HR3.out; unfold SRow at h; rw [hlen] at h
        have h2 := (h.stored k (sv (nameW (k : Int)))).1
        rw [← List.map_set, vnames_set m k hlt] at h2
        unfold SRow
        rw [show (vnames (k + 1) ++ List.replicate (m - (k + 1)) ([] : List UInt8)).length = m by simp [vnames]; omega]
        exact h2)
      clear hb3
      go_wp2
      go_roundw
      case rel => exact ⟨k + 1, by omega, by go_num, HS.out, HB3.out.setCell (Nat.le_refl _) _⟩
      case measure => simp [intOf]; omega
    · obtain rfl : k = m := by omega
      go_wp2
      go_ret
      exact ⟨_, rfl, by (try rw [if_pos (by omega)]); have h := HR.out; simpa using h, HBL.out⟩
end Go.Proofs.YtllkackipdcekaaDoor

namespace Go.Proofs.YtllkackipdcekaaDoor

def blankC (c : UInt8) : Bool := c.toNat == 32 || c.toNat == 9 || c.toNat == 10
def lineC (c : UInt8) : Bool := !(c.toNat == 10)
def letterC (c : UInt8) : Bool := (decide (97 ≤ c.toNat) && decide (c.toNat ≤ 122)) || (decide (65 ≤ c.toNat) && decide (c.toNat ≤ 90))
def wordC (c : UInt8) : Bool := letterC c || isd c
/-- How many of the first bytes are of a sort. -/
def runL (p : UInt8 → Bool) : List UInt8 → Nat
  | [] => 0
  | c :: r => if p c = true then runL p r + 1 else 0
theorem runL_le (p : UInt8 → Bool) : ∀ l, runL p l ≤ l.length
  | [] => Nat.le_refl _
  | c :: r => by unfold runL; split <;> simp <;> have := runL_le p r <;> omega
theorem runL_yes {p : UInt8 → Bool} {c : UInt8} {r : List UInt8} (h : p c = true) : runL p (c :: r) = runL p r + 1 := by rw [runL, if_pos h]
theorem runL_no {p : UInt8 → Bool} {c : UInt8} {r : List UInt8} (h : p c = false) : runL p (c :: r) = 0 := by rw [runL, if_neg (by rw [h]; decide)]
/-- How many bytes of blanks and remarks stand first. -/
def skipL (l : List UInt8) : Nat :=
  match l with
  | [] => 0
  | c :: r => if blankC c = true then skipL r + 1
    else if c.toNat = 59 then runL lineC r + 1 + skipL (r.drop (runL lineC r))
    else 0
termination_by l.length
decreasing_by
  · simp
  · simp; omega
theorem skipL_nil : skipL [] = 0 := by rw [skipL]
theorem skipL_blank {c : UInt8} {r : List UInt8} (h : blankC c = true) : skipL (c :: r) = skipL r + 1 := by rw [skipL, if_pos h]
theorem skipL_note {c : UInt8} {r : List UInt8} (h : blankC c = false) (h2 : c.toNat = 59) : skipL (c :: r) = runL lineC r + 1 + skipL (r.drop (runL lineC r)) := by rw [skipL, if_neg (by rw [h]; decide), if_pos h2]
theorem skipL_stop {c : UInt8} {r : List UInt8} (h : blankC c = false) (h2 : ¬ c.toNat = 59) : skipL (c :: r) = 0 := by rw [skipL, if_neg (by rw [h]; decide), if_neg h2]
theorem skipL_le : ∀ n (l : List UInt8), l.length ≤ n → skipL l ≤ l.length := by
  intro n
  induction n with
  | zero => intro l h; have : l = [] := List.eq_nil_of_length_eq_zero (by omega); subst this; rw [skipL_nil]; exact Nat.le_refl _
  | succ n ih =>
    intro l h
    match l with
    | [] => rw [skipL_nil]; exact Nat.le_refl _
    | c :: r =>
      simp only [List.length_cons] at h ⊢
      cases hb : blankC c with
      | true => rw [skipL_blank hb]; have := ih r (by omega); omega
      | false =>
        by_cases h2 : c.toNat = 59
        · rw [skipL_note hb h2]
          have h3 := ih (r.drop (runL lineC r)) (by rw [List.length_drop]; omega)
          rw [List.length_drop] at h3
          have := runL_le lineC r
          omega
        · rw [skipL_stop hb h2]; omega
/-- The kind and the length of the token that stands first. -/
def nextL (l : List UInt8) : Option (Nat × Nat) :=
  match l with
  | [] => none
  | c :: r =>
    if c.toNat = 40 then some (1, 1)
    else if c.toNat = 41 then some (2, 1)
    else if letterC c = true then (if 20 < runL wordC (c :: r) then none else some (3, runL wordC (c :: r)))
    else if isd c = true then (if getB ((c :: r).take (runL isd (c :: r))) = none ∨ ((((c :: r).drop (runL isd (c :: r))).head?.map letterC).getD false) = true then none else some (4, runL isd (c :: r)))
    else none
theorem nextL_range {l : List UInt8} {k n : Nat} (h : nextL l = some (k, n)) : 1 ≤ n ∧ n ≤ l.length ∧ 1 ≤ k ∧ k ≤ 4 := by
  match l with
  | [] => cases h
  | c :: r =>
    have hw := runL_le wordC (c :: r)
    have hd := runL_le isd (c :: r)
    rw [nextL] at h
    by_cases c1 : c.toNat = 40
    · rw [if_pos c1] at h; cases h; simp
    rw [if_neg c1] at h
    by_cases c2 : c.toNat = 41
    · rw [if_pos c2] at h; cases h; simp
    rw [if_neg c2] at h
    by_cases c3 : letterC c = true
    · rw [if_pos c3] at h
      by_cases c4 : 20 < runL wordC (c :: r)
      · rw [if_pos c4] at h; cases h
      · rw [if_neg c4] at h
        cases h
        have : runL wordC (c :: r) = runL wordC r + 1 := runL_yes (by unfold wordC; rw [c3]; rfl)
        omega
    rw [if_neg c3] at h
    by_cases c5 : isd c = true
    · rw [if_pos c5] at h
      by_cases c6 : getB ((c :: r).take (runL isd (c :: r))) = none ∨ ((((c :: r).drop (runL isd (c :: r))).head?.map letterC).getD false) = true
      · rw [if_pos c6] at h; cases h
      · rw [if_neg c6] at h
        cases h
        have : runL isd (c :: r) = runL isd r + 1 := runL_yes c5
        omega
    · rw [if_neg c5] at h; cases h
structure Tok where
  k : Nat
  s : List UInt8
  at_ : Nat
/-- The tokens from a place on, and the place of the first fault. -/
def lexL (l : List UInt8) (p : Nat) : List Tok × Option Nat :=
  if _h : p + skipL (l.drop p) < l.length then
    match _hn : nextL (l.drop (p + skipL (l.drop p))) with
    | none => ([], some (p + skipL (l.drop p)))
    | some (k, n) =>
      let r := lexL l (p + skipL (l.drop p) + n)
      (⟨k, (l.drop (p + skipL (l.drop p))).take n, p + skipL (l.drop p)⟩ :: r.1, r.2)
  else ([], none)
termination_by l.length - p
decreasing_by
  have := nextL_range _hn
  omega
theorem lexL_end {l : List UInt8} {p : Nat} (h : ¬ p + skipL (l.drop p) < l.length) : lexL l p = ([], none) := by rw [lexL, dif_neg h]
theorem lexL_fault {l : List UInt8} {p q : Nat} (hq : p + skipL (l.drop p) = q) (h : q < l.length) (hn : nextL (l.drop q) = none) : lexL l p = ([], some q) := by
  subst hq
  rw [lexL, dif_pos h]
  split
  · rfl
  · rename_i e; rw [hn] at e; cases e
theorem lexL_next {l : List UInt8} {p q k n : Nat} (hq : p + skipL (l.drop p) = q) (h : q < l.length) (hn : nextL (l.drop q) = some (k, n)) : lexL l p = (⟨k, (l.drop q).take n, q⟩ :: (lexL l (q + n)).1, (lexL l (q + n)).2) := by
  subst hq
  rw [lexL, dif_pos h]
  split
  · rename_i e; rw [hn] at e; cases e
  · rename_i e; rw [hn] at e; cases e; rfl
/-- Two places with the same token behind them. -/
theorem lexL_same {l : List UInt8} {p q : Nat} (h : p + skipL (l.drop p) = q + skipL (l.drop q)) : lexL l p = lexL l q := by
  by_cases h1 : q + skipL (l.drop q) < l.length
  · cases hn : nextL (l.drop (q + skipL (l.drop q))) with
    | none => rw [lexL_fault h h1 hn, lexL_fault rfl h1 hn]
    | some x => obtain ⟨k, n⟩ := x; rw [lexL_next h h1 hn, lexL_next rfl h1 hn]
  · rw [lexL_end h1, lexL_end (by rw [h]; exact h1)]
/-- The tokens ahead, and what is still to be read. -/
def lexTo (acc : List Tok) (r : List Tok × Option Nat) : List Tok × Option Nat := (acc ++ r.1, r.2)
end Go.Proofs.YtllkackipdcekaaDoor

namespace Go.Proofs.YtllkackipdcekaaDoor
open Go.RowKit Go.Lib

/-- What Get hands back. -/
def getV (l : List UInt8) : Value := match getB l with
  | some n => .tuple #[.int .i64 n, .bool true]
  | none => .tuple #[.int .i64 0, .bool false]
theorem getV_some {l : List UInt8} {n : Nat} (h : getB l = some n) : getV l = .tuple #[.int .i64 n, .bool true] := by unfold getV; rw [h]
theorem getV_none {l : List UInt8} (h : getB l = none) : getV l = .tuple #[.int .i64 0, .bool false] := by unfold getV; rw [h]
theorem take_snoc (s : ByteArray) (k : Nat) (h : k < s.size) : s.data.toList.take (k + 1) = s.data.toList.take k ++ [s[k]] := by
  rw [List.take_succ_eq_append_getElem (by simpa using h)]; rfl

theorem getB_of {l : List UInt8} (h1 : l ≠ []) (h2 : ¬ (1 < l.length ∧ l.head? = some 48)) (h3 : digs l = true) (h4 : val l ≤ 1000000) : getB l = some (val l) := by
  unfold getB; rw [if_neg (by rintro (h | h); exact h1 h; exact h2 h), if_pos ⟨h3, h4⟩]
theorem getB_digs {l : List UInt8} (h3 : digs l = false) : getB l = none := by
  unfold getB; split; rfl; rw [if_neg (by rw [h3]; simp)]
theorem getB_great {l : List UInt8} (h3 : 1000000 < val l) : getB l = none := by
  unfold getB; split; rfl; rw [if_neg (by omega)]
theorem isd_at (s : ByteArray) (k : Nat) (h : k < s.size) (hd : isd s[k] = false) : digs s.data.toList = false := by
  have : s[k] ∈ s.data.toList := by
    have h' : k < s.data.toList.length := by simpa using h
    exact (List.getElem_mem (n := k) h' : s.data.toList[k] ∈ _)
  unfold digs
  rw [List.all_eq_false]
  exact ⟨_, this, by rw [hd]; decide⟩
theorem val_at (s : ByteArray) (k : Nat) : val (s.data.toList.take k) ≤ val s.data.toList := by
  have := val_append (s.data.toList.take k) (s.data.toList.drop k)
  rwa [List.take_append_drop] at this
theorem head_at (s : ByteArray) (h : 0 < s.size) : s.data.toList.head? = some s[0] := by
  have h' : 0 < s.data.toList.length := by simpa using h
  rw [List.head?_eq_getElem?, List.getElem?_eq_getElem h']; rfl

set_option maxHeartbeats 1000000 in
theorem get_any (s : ByteArray) (w : World) (hs : s.size ≤ maxLen) : Calls Tryd.prog 100 #[.string s] w fun e w' => e = .returned (getV s.data.toList) ∧ w' = w := by
  unfold maxLen at hs
  have hsl : s.data.toList.length = s.size := by simp
  by_cases h0 : s.size = 0
  · have hl : s.data.toList = [] := List.eq_nil_of_length_eq_zero (by omega)
    have hl2 : s.toList = [] := by rw [ByteArray.toList_eq]; exact hl
    have HV := Lib.hid (getV_none (l := s.data.toList) (by rw [hl]; rfl))
    clear hl hsl
    go_enter Tryd.func100, Tryd.ntmps100
    go_wp2
    go_ret2
    rw [HV.out]
    exact ⟨rfl, rfl⟩
  have hne : s.data.toList ≠ [] := fun h => by rw [h] at hsl; simp at hsl; omega
  have hne2 : (!s.toList.isEmpty) = true := by rw [ByteArray.toList_eq]; simpa using hne
  have hne3 : ¬ s.toList = [] := by rw [ByteArray.toList_eq]; exact hne
  have hne4 : s.toList.isEmpty = false := by simpa using hne2
  have h0' : 0 < s.size := by omega
  by_cases h1 : 1 < s.size ∧ ((s[0].toNat : Int) = 48)
  · obtain ⟨h1, h2⟩ := h1
    have HV := Lib.hid (getV_none (l := s.data.toList) (by
      unfold getB; rw [if_pos (Or.inr ⟨by omega, by rw [head_at s h0']; congr 1; apply UInt8.toNat_inj.1; simp; omega⟩)]))
    have e2 : ((s[0].toNat : Int) == 48) = true := by simpa using h2
    clear hne hsl h2
    go_enter Tryd.func100, Tryd.ntmps100
    go_wp2
    go_ret2
    rw [HV.out]
    exact ⟨rfl, rfl⟩
  have HN2 : Hid (¬ (1 < s.data.toList.length ∧ s.data.toList.head? = some 48)) := by
    rintro ⟨h, h'⟩
    rw [head_at s h0'] at h'
    simp only [Option.some.injEq] at h'
    exact h1 ⟨by omega, by rw [h']; rfl⟩
  by_cases hA : 1 < s.size
  · have e2 : ((s[0].toNat : Int) == 48) = false := by
      have : ¬ (s[0].toNat : Int) = 48 := fun h => h1 ⟨hA, h⟩
      simpa using this
    clear h1 h0
    have HHN := Lib.hid hne
    have HHS := Lib.hid hsl
    clear hne hsl
    go_enter Tryd.func100, Tryd.ntmps100
    go_wp2
    go_loop [4, 5] (fun n i => ∃ k : Nat, k ≤ s.size ∧ i = .int .i64 k ∧ n = .int .i64 (val (s.data.toList.take k) : Nat) ∧ Hid (digs (s.data.toList.take k) = true) ∧ Hid (val (s.data.toList.take k) ≤ 1000000)) (fun _ i => s.size - (RowKit.intOf i).toNat)
    case atStart => exact ⟨0, Nat.zero_le _, rfl, rfl, rfl, Nat.zero_le _⟩
    case round =>
      obtain ⟨k, hk, rfl, rfl, hd, hv⟩ := hrel
      by_cases hlt : k < s.size
      · have hts := take_snoc s k hlt
        have hsn := val_snoc (s.data.toList.take k) s[k]
        have hdn := digs_snoc (s.data.toList.take k) s[k]
        rw [← hts] at hsn hdn
        rw [hd.out, Bool.true_and] at hdn
        have hc0 := s[k].toNat_lt
        by_cases l1 : (s[k].toNat : Int) < 48
        · have HF := Lib.hid (getV_none (getB_digs (isd_at s k hlt (by unfold isd; simp; omega))))
          clear hts hsn hdn hc0 hd hv
          go_wp2
          go_ret2
          rw [HF.out]
          exact ⟨rfl, rfl⟩
        by_cases l2 : 57 < (s[k].toNat : Int)
        · have HF := Lib.hid (getV_none (getB_digs (isd_at s k hlt (by unfold isd; simp; omega))))
          clear hts hsn hdn hc0 hd hv
          go_wp2
          go_ret2
          rw [HF.out]
          exact ⟨rfl, rfl⟩
        have hv0 := hv.out
        obtain ⟨v, hve⟩ : ∃ v : Nat, val (s.data.toList.take k) = v := ⟨_, rfl⟩
        rw [hve] at hsn hv0 ⊢
        have l3 : 48 ≤ (s[k].toNat : Int) := by omega
        have l4 : (s[k].toNat : Int) ≤ 57 := by omega
        have HDN : Hid (digs (s.data.toList.take (k + 1)) = true) := by rw [Hid, hdn]; unfold isd; simp; omega
        have HSN := Lib.hid (show ((val (s.data.toList.take (k + 1)) : Nat) : Int) = 10 * (v : Int) + ((s[k].toNat : Int) - 48) by rw [hsn]; omega)
        have hvs := val_at s (k + 1)
        have hw1 : IntKind.u8.wrap ((s[k].toNat : Int) - 48) = (s[k].toNat : Int) - 48 := IntWalk.u8_in _ (by omega)
        by_cases l5 : 1000000 < 10 * (v : Int) + ((s[k].toNat : Int) - 48)
        · have HF := Lib.hid (getV_none (getB_great (l := s.data.toList) (by have := HSN.out; omega)))
          clear hts hsn hdn hc0 hd hv hvs hve l1 l2
          go_wp2
          go_ret2
          rw [HF.out]
          exact ⟨rfl, rfl⟩
        · have HV5 : Hid (val (s.data.toList.take (k + 1)) ≤ 1000000) := by have := HSN.out; rw [Hid]; omega
          clear hts hsn hdn hc0 hd hv hvs hve l1 l2
          go_wp2
          go_round
          case rel => exact ⟨k + 1, hlt, by go_num, by rw [HSN.out], HDN, HV5⟩
          case measure => simp [RowKit.intOf]; omega
      · have hte : s.data.toList.take k = s.data.toList := List.take_of_length_le (by rw [HHS.out]; omega)
        rw [hte] at hd hv ⊢
        have HG := Lib.hid (getV_some (getB_of HHN.out HN2.out hd.out hv.out))
        clear hte hd hv
        go_wp2
        go_ret2
        rw [HG.out]
        exact ⟨rfl, rfl⟩
  · clear h1 h0
    have HHN := Lib.hid hne
    have HHS := Lib.hid hsl
    clear hne hsl
    go_enter Tryd.func100, Tryd.ntmps100
    go_wp2
    go_loop [4, 5] (fun n i => ∃ k : Nat, k ≤ s.size ∧ i = .int .i64 k ∧ n = .int .i64 (val (s.data.toList.take k) : Nat) ∧ Hid (digs (s.data.toList.take k) = true) ∧ Hid (val (s.data.toList.take k) ≤ 1000000)) (fun _ i => s.size - (RowKit.intOf i).toNat)
    case atStart => exact ⟨0, Nat.zero_le _, rfl, rfl, rfl, Nat.zero_le _⟩
    case round =>
      obtain ⟨k, hk, rfl, rfl, hd, hv⟩ := hrel
      by_cases hlt : k < s.size
      · have hts := take_snoc s k hlt
        have hsn := val_snoc (s.data.toList.take k) s[k]
        have hdn := digs_snoc (s.data.toList.take k) s[k]
        rw [← hts] at hsn hdn
        rw [hd.out, Bool.true_and] at hdn
        have hc0 := s[k].toNat_lt
        by_cases l1 : (s[k].toNat : Int) < 48
        · have HF := Lib.hid (getV_none (getB_digs (isd_at s k hlt (by unfold isd; simp; omega))))
          clear hts hsn hdn hc0 hd hv
          go_wp2
          go_ret2
          rw [HF.out]
          exact ⟨rfl, rfl⟩
        by_cases l2 : 57 < (s[k].toNat : Int)
        · have HF := Lib.hid (getV_none (getB_digs (isd_at s k hlt (by unfold isd; simp; omega))))
          clear hts hsn hdn hc0 hd hv
          go_wp2
          go_ret2
          rw [HF.out]
          exact ⟨rfl, rfl⟩
        have hv0 := hv.out
        obtain ⟨v, hve⟩ : ∃ v : Nat, val (s.data.toList.take k) = v := ⟨_, rfl⟩
        rw [hve] at hsn hv0 ⊢
        have l3 : 48 ≤ (s[k].toNat : Int) := by omega
        have l4 : (s[k].toNat : Int) ≤ 57 := by omega
        have HDN : Hid (digs (s.data.toList.take (k + 1)) = true) := by rw [Hid, hdn]; unfold isd; simp; omega
        have HSN := Lib.hid (show ((val (s.data.toList.take (k + 1)) : Nat) : Int) = 10 * (v : Int) + ((s[k].toNat : Int) - 48) by rw [hsn]; omega)
        have hvs := val_at s (k + 1)
        have hw1 : IntKind.u8.wrap ((s[k].toNat : Int) - 48) = (s[k].toNat : Int) - 48 := IntWalk.u8_in _ (by omega)
        by_cases l5 : 1000000 < 10 * (v : Int) + ((s[k].toNat : Int) - 48)
        · have HF := Lib.hid (getV_none (getB_great (l := s.data.toList) (by have := HSN.out; omega)))
          clear hts hsn hdn hc0 hd hv hvs hve l1 l2
          go_wp2
          go_ret2
          rw [HF.out]
          exact ⟨rfl, rfl⟩
        · have HV5 : Hid (val (s.data.toList.take (k + 1)) ≤ 1000000) := by have := HSN.out; rw [Hid]; omega
          clear hts hsn hdn hc0 hd hv hvs hve l1 l2
          go_wp2
          go_round
          case rel => exact ⟨k + 1, hlt, by go_num, by rw [HSN.out], HDN, HV5⟩
          case measure => simp [RowKit.intOf]; omega
      · have hte : s.data.toList.take k = s.data.toList := List.take_of_length_le (by rw [HHS.out]; omega)
        rw [hte] at hd hv ⊢
        have HG := Lib.hid (getV_some (getB_of HHN.out HN2.out hd.out hv.out))
        clear hte hd hv
        go_wp2
        go_ret2
        rw [HG.out]
        exact ⟨rfl, rfl⟩

end Go.Proofs.YtllkackipdcekaaDoor

namespace Go.Proofs.YtllkackipdcekaaDoor
open Go.RowKit

theorem ret_boolL {a b : Bool} (h : a = b) : Ending.returned (.bool a) = .returned (.bool b) := by rw [h]
theorem drop_at (s : ByteArray) (k : Nat) (h : k < s.size) : s.data.toList.drop k = s[k] :: s.data.toList.drop (k + 1) := by
  have h' : k < s.data.toList.length := by simpa using h
  rw [List.drop_eq_getElem_cons h']; rfl
theorem u8_eq {c : UInt8} {n : Nat} : (((c.toNat : Int)) == (n : Int)) = (c.toNat == n) := by
  by_cases h : c.toNat = n
  · rw [h]; simp
  · have h2 : ¬ (c.toNat : Int) = n := by omega
    rw [beq_eq_false_iff_ne.2 h2, beq_eq_false_iff_ne.2 h]
theorem letter_any (c : UInt8) (w : World) : Calls Tryd.prog 97 #[.int .u8 (c.toNat : Int)] w fun e w' => e = .returned (.bool (letterC c)) ∧ w' = w := by
  by_cases c0 : 97 ≤ (c.toNat : Int)
  all_goals by_cases c1 : (c.toNat : Int) ≤ 122
  all_goals by_cases c2 : 65 ≤ (c.toNat : Int)
  all_goals by_cases c3 : (c.toNat : Int) ≤ 90
  all_goals
    have HR : Hid (letterC c = letterC c) := rfl
    go_enter Tryd.func97, Tryd.ntmps97
    go_wp2
    all_goals
      go_ret
      exact ⟨ret_boolL (by unfold letterC; simp; omega), rfl⟩
theorem digit_any (c : UInt8) (w : World) : Calls Tryd.prog 99 #[.int .u8 (c.toNat : Int)] w fun e w' => e = .returned (.bool (isd c)) ∧ w' = w := by
  by_cases c0 : 48 ≤ (c.toNat : Int)
  all_goals by_cases c1 : (c.toNat : Int) ≤ 57
  all_goals
    have HR : Hid (isd c = isd c) := rfl
    go_enter Tryd.func99, Tryd.ntmps99
    go_wp2
    all_goals
      go_ret
      exact ⟨ret_boolL (by unfold isd; simp; omega), rfl⟩
theorem blank_any (c : UInt8) (w : World) : Calls Tryd.prog 94 #[.int .u8 (c.toNat : Int)] w fun e w' => e = .returned (.bool (blankC c)) ∧ w' = w := by
  obtain ⟨q0, hq0⟩ : ∃ q, (c.toNat == 32) = q := ⟨_, rfl⟩
  have b0 : ((c.toNat : Int) == 32) = q0 := (u8_eq (n := 32)).trans hq0
  obtain ⟨q1, hq1⟩ : ∃ q, (c.toNat == 9) = q := ⟨_, rfl⟩
  have b1 : ((c.toNat : Int) == 9) = q1 := (u8_eq (n := 9)).trans hq1
  obtain ⟨q2, hq2⟩ : ∃ q, (c.toNat == 10) = q := ⟨_, rfl⟩
  have b2 : ((c.toNat : Int) == 10) = q2 := (u8_eq (n := 10)).trans hq2
  have HR := Lib.hid (show blankC c = (q0 || q1 || q2) by unfold blankC; rw [hq0, hq1, hq2])
  clear hq0 hq1 hq2
  cases q0 <;> cases q1 <;> cases q2
  all_goals
    go_enter Tryd.func94, Tryd.ntmps94
    go_wp2
    go_ret
    exact ⟨ret_boolL HR.out.symm, rfl⟩
theorem inLine_any (c : UInt8) (w : World) : Calls Tryd.prog 96 #[.int .u8 (c.toNat : Int)] w fun e w' => e = .returned (.bool (lineC c)) ∧ w' = w := by
  obtain ⟨q0, hq0⟩ : ∃ q, (c.toNat == 10) = q := ⟨_, rfl⟩
  have b0 : ((c.toNat : Int) == 10) = q0 := (u8_eq (n := 10)).trans hq0
  have HR := Lib.hid (show lineC c = (!q0) by unfold lineC; rw [hq0])
  have n0 : ((c.toNat : Int) != 10) = (!q0) := by rw [bne, b0]
  clear hq0
  cases q0
  all_goals
    go_enter Tryd.func96, Tryd.ntmps96
    go_wp2
    go_ret
    exact ⟨ret_boolL HR.out.symm, rfl⟩
theorem wordly_any (c : UInt8) (w : World) : Calls Tryd.prog 98 #[.int .u8 (c.toNat : Int)] w fun e w' => e = .returned (.bool (wordC c)) ∧ w' = w := by
  have HL := Lib.hid (letter_any c)
  have HD := Lib.hid (digit_any c)
  cases h : letterC c with
  | true =>
    have HR := Lib.hid (show wordC c = true by unfold wordC; rw [h]; rfl)
    rw [h] at HL
    go_enter Tryd.func98, Tryd.ntmps98
    go_wp2_with fail
    refine (HL.out _).mono ?_
    rintro e w1 ⟨rfl, rfl⟩
    go_wp2
    go_ret
    exact ⟨ret_boolL HR.out.symm, rfl⟩
  | false =>
    have HR := Lib.hid (show wordC c = isd c by unfold wordC; rw [h]; rfl)
    rw [h] at HL
    go_enter Tryd.func98, Tryd.ntmps98
    go_wp2_with fail
    refine (HL.out _).mono ?_
    rintro e w1 ⟨rfl, rfl⟩
    go_wp2_with fail
    refine (HD.out _).mono ?_
    rintro e w1 ⟨rfl, rfl⟩
    go_wp2
    all_goals
      go_ret
      exact ⟨ret_boolL HR.out.symm, rfl⟩

/-- The place behind the longest row of bytes of a sort. -/
theorem runW_any (s : ByteArray) (k0 : Nat) (w : World) (hs : s.size ≤ maxLen) (hk0 : k0 ≤ s.size) :
    Calls Tryd.prog 95 #[.string s, .int .i64 k0, .func (.func 98) #[] #[]] w fun e w' => e = .returned (.int .i64 ((k0 + runL wordC (s.data.toList.drop k0) : Nat) : Int)) ∧ w' = w := by
  unfold maxLen at hs
  have HP := Lib.hid wordly_any
  obtain ⟨R, hR⟩ : ∃ R, k0 + runL wordC (s.data.toList.drop k0) = R := ⟨_, rfl⟩
  rw [hR]
  have HRR := Lib.hid hR
  clear hR
  go_enter Tryd.func95, Tryd.ntmps95
  go_wp2
  go_loop [1] (fun i => ∃ k : Nat, k ≤ s.size ∧ i = .int .i64 k ∧ Hid (k + runL wordC (s.data.toList.drop k) = R)) (fun i => s.size - (intOf i).toNat)
  case atStart => exact ⟨k0, hk0, rfl, HRR.out⟩
  case round =>
    obtain ⟨k, hk, rfl, hq⟩ := hrel
    by_cases hlt : k < s.size
    · have hd := hq.out
      rw [drop_at s k hlt] at hd
      cases hpc : wordC s[k] with
      | true =>
        rw [runL_yes hpc] at hd
        have HQ := Lib.hid (show k + 1 + runL wordC (s.data.toList.drop (k + 1)) = R by omega)
        have HC := Lib.hid (HP.out s[k])
        rw [hpc] at HC
        clear hd hq hpc
        go_wp2_with fail
        refine (HC.out _).mono ?_
        rintro e w1 ⟨rfl, rfl⟩
        go_wp2
        go_round
        case rel => exact ⟨k + 1, hlt, by go_num, HQ.out⟩
        case measure => simp [intOf]; omega
      | false =>
        rw [runL_no hpc] at hd
        have HC := Lib.hid (HP.out s[k])
        rw [hpc] at HC
        obtain rfl : k = R := by omega
        clear hd hq hpc
        go_wp2_with fail
        refine (HC.out _).mono ?_
        rintro e w1 ⟨rfl, rfl⟩
        go_wp2
        go_ret
        exact ⟨rfl, rfl⟩
    · have hd := hq.out
      rw [List.drop_of_length_le (by simp; omega)] at hd
      obtain rfl : k = R := by simpa [runL] using hd
      clear hd hq
      go_wp2
      go_ret
      exact ⟨rfl, rfl⟩
/-- The place behind the longest row of bytes of a sort. -/
theorem runD_any (s : ByteArray) (k0 : Nat) (w : World) (hs : s.size ≤ maxLen) (hk0 : k0 ≤ s.size) :
    Calls Tryd.prog 95 #[.string s, .int .i64 k0, .func (.func 99) #[] #[]] w fun e w' => e = .returned (.int .i64 ((k0 + runL isd (s.data.toList.drop k0) : Nat) : Int)) ∧ w' = w := by
  unfold maxLen at hs
  have HP := Lib.hid digit_any
  obtain ⟨R, hR⟩ : ∃ R, k0 + runL isd (s.data.toList.drop k0) = R := ⟨_, rfl⟩
  rw [hR]
  have HRR := Lib.hid hR
  clear hR
  go_enter Tryd.func95, Tryd.ntmps95
  go_wp2
  go_loop [1] (fun i => ∃ k : Nat, k ≤ s.size ∧ i = .int .i64 k ∧ Hid (k + runL isd (s.data.toList.drop k) = R)) (fun i => s.size - (intOf i).toNat)
  case atStart => exact ⟨k0, hk0, rfl, HRR.out⟩
  case round =>
    obtain ⟨k, hk, rfl, hq⟩ := hrel
    by_cases hlt : k < s.size
    · have hd := hq.out
      rw [drop_at s k hlt] at hd
      cases hpc : isd s[k] with
      | true =>
        rw [runL_yes hpc] at hd
        have HQ := Lib.hid (show k + 1 + runL isd (s.data.toList.drop (k + 1)) = R by omega)
        have HC := Lib.hid (HP.out s[k])
        rw [hpc] at HC
        clear hd hq hpc
        go_wp2_with fail
        refine (HC.out _).mono ?_
        rintro e w1 ⟨rfl, rfl⟩
        go_wp2
        go_round
        case rel => exact ⟨k + 1, hlt, by go_num, HQ.out⟩
        case measure => simp [intOf]; omega
      | false =>
        rw [runL_no hpc] at hd
        have HC := Lib.hid (HP.out s[k])
        rw [hpc] at HC
        obtain rfl : k = R := by omega
        clear hd hq hpc
        go_wp2_with fail
        refine (HC.out _).mono ?_
        rintro e w1 ⟨rfl, rfl⟩
        go_wp2
        go_ret
        exact ⟨rfl, rfl⟩
    · have hd := hq.out
      rw [List.drop_of_length_le (by simp; omega)] at hd
      obtain rfl : k = R := by simpa [runL] using hd
      clear hd hq
      go_wp2
      go_ret
      exact ⟨rfl, rfl⟩
/-- The place behind the longest row of bytes of a sort. -/
theorem runN_any (s : ByteArray) (k0 : Nat) (w : World) (hs : s.size ≤ maxLen) (hk0 : k0 ≤ s.size) :
    Calls Tryd.prog 95 #[.string s, .int .i64 k0, .func (.func 96) #[] #[]] w fun e w' => e = .returned (.int .i64 ((k0 + runL lineC (s.data.toList.drop k0) : Nat) : Int)) ∧ w' = w := by
  unfold maxLen at hs
  have HP := Lib.hid inLine_any
  obtain ⟨R, hR⟩ : ∃ R, k0 + runL lineC (s.data.toList.drop k0) = R := ⟨_, rfl⟩
  rw [hR]
  have HRR := Lib.hid hR
  clear hR
  go_enter Tryd.func95, Tryd.ntmps95
  go_wp2
  go_loop [1] (fun i => ∃ k : Nat, k ≤ s.size ∧ i = .int .i64 k ∧ Hid (k + runL lineC (s.data.toList.drop k) = R)) (fun i => s.size - (intOf i).toNat)
  case atStart => exact ⟨k0, hk0, rfl, HRR.out⟩
  case round =>
    obtain ⟨k, hk, rfl, hq⟩ := hrel
    by_cases hlt : k < s.size
    · have hd := hq.out
      rw [drop_at s k hlt] at hd
      cases hpc : lineC s[k] with
      | true =>
        rw [runL_yes hpc] at hd
        have HQ := Lib.hid (show k + 1 + runL lineC (s.data.toList.drop (k + 1)) = R by omega)
        have HC := Lib.hid (HP.out s[k])
        rw [hpc] at HC
        clear hd hq hpc
        go_wp2_with fail
        refine (HC.out _).mono ?_
        rintro e w1 ⟨rfl, rfl⟩
        go_wp2
        go_round
        case rel => exact ⟨k + 1, hlt, by go_num, HQ.out⟩
        case measure => simp [intOf]; omega
      | false =>
        rw [runL_no hpc] at hd
        have HC := Lib.hid (HP.out s[k])
        rw [hpc] at HC
        obtain rfl : k = R := by omega
        clear hd hq hpc
        go_wp2_with fail
        refine (HC.out _).mono ?_
        rintro e w1 ⟨rfl, rfl⟩
        go_wp2
        go_ret
        exact ⟨rfl, rfl⟩
    · have hd := hq.out
      rw [List.drop_of_length_le (by simp; omega)] at hd
      obtain rfl : k = R := by simpa [runL] using hd
      clear hd hq
      go_wp2
      go_ret
      exact ⟨rfl, rfl⟩
theorem runL_at (p : UInt8 → Bool) (s : ByteArray) (k : Nat) (hk : k ≤ s.size) : k + runL p (s.data.toList.drop k) ≤ s.size := by
  have := runL_le p (s.data.toList.drop k)
  rw [List.length_drop] at this
  have h2 : s.data.toList.length = s.size := by simp
  omega

theorem skip_any (s : ByteArray) (k0 : Nat) (w : World) (hs : s.size ≤ maxLen) (hk0 : k0 ≤ s.size) :
    Calls Tryd.prog 81 #[.string s, .int .i64 k0] w fun e w' => e = .returned (.int .i64 ((k0 + skipL (s.data.toList.drop k0) : Nat) : Int)) ∧ w' = w := by
  have HRUN := Lib.hid fun k w (h : k ≤ s.size) => runN_any s k w hs h
  unfold maxLen at hs
  obtain ⟨R, hR⟩ : ∃ R, k0 + skipL (s.data.toList.drop k0) = R := ⟨_, rfl⟩
  rw [hR]
  have HRR := Lib.hid hR
  clear hR
  go_enter Tryd.func81, Tryd.ntmps81
  go_wp2
  go_loop [1] (fun i => ∃ k : Nat, k ≤ s.size ∧ i = .int .i64 k ∧ Hid (k + skipL (s.data.toList.drop k) = R)) (fun i => s.size - (intOf i).toNat)
  case atStart => exact ⟨k0, hk0, rfl, HRR.out⟩
  case round =>
    obtain ⟨k, hk, rfl, hq⟩ := hrel
    by_cases hlt : k < s.size
    · have hd := hq.out
      rw [drop_at s k hlt] at hd
      have HC := Lib.hid (blank_any s[k])
      cases hb : blankC s[k] with
      | true =>
        rw [skipL_blank hb] at hd
        have HQ := Lib.hid (show k + 1 + skipL (s.data.toList.drop (k + 1)) = R by omega)
        rw [hb] at HC
        clear hd hq hb
        go_wp2_with fail
        refine (HC.out _).mono ?_
        rintro e w1 ⟨rfl, rfl⟩
        go_wp2
        go_round
        case rel => exact ⟨k + 1, hlt, by go_num, HQ.out⟩
        case measure => simp [intOf]; omega
      | false =>
        rw [hb] at HC
        by_cases h59 : s[k].toNat = 59
        · rw [skipL_note hb h59] at hd
          have hline : lineC s[k] = true := by unfold lineC; rw [h59]; rfl
          have hrl : runL lineC (s.data.toList.drop k) = runL lineC (s.data.toList.drop (k + 1)) + 1 := by rw [drop_at s k hlt, runL_yes hline]
          have hle := runL_at lineC s k hk
          rw [hrl] at hle
          have HQ := Lib.hid (show k + (runL lineC (s.data.toList.drop (k + 1)) + 1) + skipL (s.data.toList.drop (k + (runL lineC (s.data.toList.drop (k + 1)) + 1))) = R by
            rw [List.drop_drop] at hd
            rw [show k + (runL lineC (s.data.toList.drop (k + 1)) + 1) = k + 1 + runL lineC (s.data.toList.drop (k + 1)) by omega]
            omega)
          have HR2 := Lib.hid fun w => HRUN.out k w hk
          rw [hrl] at HR2
          generalize runL lineC (s.data.toList.drop (k + 1)) = m at HQ HR2 hle
          have e59 : ((s[k].toNat : Int) == 59) = true := by rw [h59]; rfl
          clear hd hq hb hline hrl h59
          go_wp2_with fail
          refine (HC.out _).mono ?_
          rintro e w1 ⟨rfl, rfl⟩
          go_wp2_with fail
          refine (HR2.out _).mono ?_
          rintro e w1 ⟨rfl, rfl⟩
          go_wp2
          go_round
          case rel => exact ⟨k + (m + 1), hle, rfl, HQ.out⟩
          case measure => simp [intOf]; omega
        · rw [skipL_stop hb h59] at hd
          obtain rfl : k = R := by omega
          have e59 : ((s[k].toNat : Int) == 59) = false := by
            have : ¬ (s[k].toNat : Int) = 59 := by omega
            simpa using this
          clear hd hq hb h59
          go_wp2_with fail
          refine (HC.out _).mono ?_
          rintro e w1 ⟨rfl, rfl⟩
          go_wp2
          go_ret
          exact ⟨rfl, rfl⟩
    · have hd := hq.out
      rw [List.drop_of_length_le (by simp; omega), skipL_nil] at hd
      obtain rfl : k = R := hd
      clear hq
      go_wp2
      go_ret
      exact ⟨rfl, rfl⟩
end Go.Proofs.YtllkackipdcekaaDoor

namespace Go.Proofs.YtllkackipdcekaaDoor
open Go.RowKit

/-- What next hands back at a place. -/
def nextV (l : List UInt8) (at_ : Nat) : Value := match nextL l with
  | none => .tuple #[.int .i64 0, .int .i64 0]
  | some (k, n) => .tuple #[.int .i64 k, .int .i64 ((at_ + n : Nat) : Int)]
theorem nextV_none {l : List UInt8} {a : Nat} (h : nextL l = none) : nextV l a = .tuple #[.int .i64 0, .int .i64 0] := by unfold nextV; rw [h]
theorem nextV_some {l : List UInt8} {a k n : Nat} (h : nextL l = some (k, n)) : nextV l a = .tuple #[.int .i64 k, .int .i64 ((a + n : Nat) : Int)] := by unfold nextV; rw [h]
theorem next_open {c : UInt8} {r : List UInt8} (h : c.toNat = 40) : nextL (c :: r) = some (1, 1) := by rw [nextL, if_pos h]
theorem next_close {c : UInt8} {r : List UInt8} (h : c.toNat = 41) : nextL (c :: r) = some (2, 1) := by rw [nextL, if_neg (by omega), if_pos h]
theorem next_long {c : UInt8} {r : List UInt8} (h1 : c.toNat ≠ 40) (h2 : c.toNat ≠ 41) (h3 : letterC c = true) (h4 : 20 < runL wordC (c :: r)) : nextL (c :: r) = none := by rw [nextL, if_neg h1, if_neg h2, if_pos h3, if_pos h4]
theorem next_word {c : UInt8} {r : List UInt8} (h1 : c.toNat ≠ 40) (h2 : c.toNat ≠ 41) (h3 : letterC c = true) (h4 : ¬ 20 < runL wordC (c :: r)) : nextL (c :: r) = some (3, runL wordC (c :: r)) := by rw [nextL, if_neg h1, if_neg h2, if_pos h3, if_neg h4]
theorem next_bad {c : UInt8} {r : List UInt8} (h1 : c.toNat ≠ 40) (h2 : c.toNat ≠ 41) (h3 : letterC c = false) (h4 : isd c = true) (h5 : getB ((c :: r).take (runL isd (c :: r))) = none ∨ ((((c :: r).drop (runL isd (c :: r))).head?.map letterC).getD false) = true) : nextL (c :: r) = none := by rw [nextL, if_neg h1, if_neg h2, if_neg (by rw [h3]; decide), if_pos h4, if_pos h5]
theorem next_num {c : UInt8} {r : List UInt8} (h1 : c.toNat ≠ 40) (h2 : c.toNat ≠ 41) (h3 : letterC c = false) (h4 : isd c = true) (h5 : ¬ (getB ((c :: r).take (runL isd (c :: r))) = none ∨ ((((c :: r).drop (runL isd (c :: r))).head?.map letterC).getD false) = true)) : nextL (c :: r) = some (4, runL isd (c :: r)) := by rw [nextL, if_neg h1, if_neg h2, if_neg (by rw [h3]; decide), if_pos h4, if_neg h5]
theorem next_other {c : UInt8} {r : List UInt8} (h1 : c.toNat ≠ 40) (h2 : c.toNat ≠ 41) (h3 : letterC c = false) (h4 : isd c = false) : nextL (c :: r) = none := by rw [nextL, if_neg h1, if_neg h2, if_neg (by rw [h3]; decide), if_neg (by rw [h4]; decide)]
theorem head_drop (s : ByteArray) (k n : Nat) (h : k + n < s.size) : ((s.data.toList.drop k).drop n).head? = some s[k + n] := by
  rw [List.drop_drop, drop_at s (k + n) h]; rfl
theorem head_none (s : ByteArray) (k n : Nat) (h : ¬ k + n < s.size) : ((s.data.toList.drop k).drop n).head? = none := by
  rw [List.drop_drop, List.drop_of_length_le (by simp; omega)]; rfl

theorem slice_at {P : Program} {t : TypeId} (w : World) (s : ByteArray) (k n : Nat) (ht : P.underlying t = some .string) (h : k + n ≤ s.size) :
    (Instr.slice t (.string s) (some (.int .i64 (k : Int))) (some (.int .i64 ((k : Int) + (n : Int)))) none).run P w = .ok (.string (s.extract k (k + n))) w := by
  rw [run_slice_string w t s .i64 .i64 _ _ ht (by omega) (by omega) (by omega)]
  rfl

set_option maxHeartbeats 2000000 in
theorem next_any (s : ByteArray) (k : Nat) (w : World) (hs : s.size ≤ maxLen) (hlt : k < s.size) :
    Calls Tryd.prog 82 #[.string s, .int .i64 k] w fun e w' => e = .returned (nextV (s.data.toList.drop k) k) ∧ w' = w := by
  have HRW := Lib.hid fun w => runW_any s k w hs (Nat.le_of_lt hlt)
  have HRD := Lib.hid fun w => runD_any s k w hs (Nat.le_of_lt hlt)
  have HLE := Lib.hid (letter_any)
  have HGET := Lib.hid fun t w (h : t.size ≤ maxLen) => get_any t w h
  have hrw := runL_at wordC s k (Nat.le_of_lt hlt)
  have hrd := runL_at isd s k (Nat.le_of_lt hlt)
  have hmax := hs
  unfold maxLen at hs
  have hda := drop_at s k hlt
  have HDA := Lib.hid hda
  have HL := Lib.hid (letter_any s[k])
  have HD := Lib.hid (digit_any s[k])
  clear hda
  by_cases c40 : s[k].toNat = 40
  · have HV := Lib.hid (nextV_some (a := k) (show nextL (s.data.toList.drop k) = some (1, 1) by rw [HDA.out]; exact next_open c40))
    have b40 : ((s[k].toNat : Int) == 40) = true := (u8_eq (n := 40)).trans (by rw [c40]; rfl)
    clear c40 hrw hrd hmax
    go_enter Tryd.func82, Tryd.ntmps82
    go_wp2
    go_ret2
    exact ⟨by rw [HV.out]; rfl, rfl⟩
  have b40 : ((s[k].toNat : Int) == 40) = false := (u8_eq (n := 40)).trans (by exact beq_eq_false_iff_ne.2 c40)
  by_cases c41 : s[k].toNat = 41
  · have HV := Lib.hid (nextV_some (a := k) (show nextL (s.data.toList.drop k) = some (2, 1) by rw [HDA.out]; exact next_close c41))
    have b41 : ((s[k].toNat : Int) == 41) = true := (u8_eq (n := 41)).trans (by rw [c41]; rfl)
    clear c40 c41 hrw hrd hmax
    go_enter Tryd.func82, Tryd.ntmps82
    go_wp2
    go_ret2
    exact ⟨by rw [HV.out]; rfl, rfl⟩
  have b41 : ((s[k].toNat : Int) == 41) = false := (u8_eq (n := 41)).trans (by exact beq_eq_false_iff_ne.2 c41)
  cases hl : letterC s[k] with
  | true =>
    rw [hl] at HL
    obtain ⟨n, hn⟩ : ∃ n, runL wordC (s.data.toList.drop k) = n := ⟨_, rfl⟩
    have hsub : IntKind.i64.wrap (((k + n : Nat) : Int) - (k : Int)) = (n : Int) := by rw [show ((k + n : Nat) : Int) - (k : Int) = n by omega]; exact IntWalk.i64_in _ (by rw [hn] at hrw; omega)
    by_cases h20 : 20 < n
    · have HV := Lib.hid (nextV_none (a := k) (show nextL (s.data.toList.drop k) = none by rw [HDA.out]; exact next_long c40 c41 hl (by rw [← HDA.out, hn]; exact h20)))
      have h20' : 20 < (n : Int) := by omega
      rw [hn] at HRW hrw
      clear c40 c41 hl hn hrd hmax h20
      go_enter Tryd.func82, Tryd.ntmps82
      go_wp2_with fail
      refine (HL.out _).mono ?_
      rintro e w1 ⟨rfl, rfl⟩
      go_wp2_with fail
      refine (HRW.out _).mono ?_
      rintro e w1 ⟨rfl, rfl⟩
      go_wp2
      go_ret2
      exact ⟨by rw [HV.out]; rfl, rfl⟩
    · have HV := Lib.hid (nextV_some (a := k) (show nextL (s.data.toList.drop k) = some (3, n) by rw [HDA.out, ← hn, HDA.out]; exact next_word c40 c41 hl (by rw [← HDA.out, hn]; exact h20)))
      have h20' : ¬ 20 < (n : Int) := by omega
      rw [hn] at HRW hrw
      clear c40 c41 hl hn hrd hmax h20
      go_enter Tryd.func82, Tryd.ntmps82
      go_wp2_with fail
      refine (HL.out _).mono ?_
      rintro e w1 ⟨rfl, rfl⟩
      go_wp2_with fail
      refine (HRW.out _).mono ?_
      rintro e w1 ⟨rfl, rfl⟩
      go_wp2
      go_ret2
      exact ⟨by rw [HV.out]; rfl, rfl⟩
  | false =>
  rw [hl] at HL
  cases hd : isd s[k] with
  | false =>
    rw [hd] at HD
    have HV := Lib.hid (nextV_none (a := k) (show nextL (s.data.toList.drop k) = none by rw [HDA.out]; exact next_other c40 c41 hl hd))
    clear c40 c41 hl hd hrd hrw hmax
    go_enter Tryd.func82, Tryd.ntmps82
    go_wp2_with fail
    refine (HL.out _).mono ?_
    rintro e w1 ⟨rfl, rfl⟩
    go_wp2_with fail
    refine (HD.out _).mono ?_
    rintro e w1 ⟨rfl, rfl⟩
    go_wp2
    go_ret2
    exact ⟨by rw [HV.out]; rfl, rfl⟩
  | true =>
    rw [hd] at HD
    obtain ⟨n, hn⟩ : ∃ n, runL isd (s.data.toList.drop k) = n := ⟨_, rfl⟩
    rw [hn] at HRD hrd
    obtain ⟨p, hp⟩ : ∃ p, s.extract k (k + n) = p := ⟨_, rfl⟩
    have hsli : ∀ w', (Instr.slice 9 (.string s) (some (.int .i64 (k : Int))) (some (.int .i64 ((k : Int) + (n : Int)))) none).run Tryd.prog w' = .ok (.string p) w' := fun w' => by rw [← hp]; exact slice_at w' s k n Tryd.underlying9 hrd
    have hpl : p.data.toList = (s.data.toList.drop k).take n := by rw [← hp]; exact (Lib.extract_data s k (k + n)).trans (by congr 1; omega)
    have hpm : p.size ≤ maxLen := by
      have h1 : p.data.toList.length = p.size := by simp
      rw [hpl, List.length_take] at h1
      have : n ≤ s.size := by omega
      omega
    have HG := Lib.hid fun w => HGET.out p w hpm
    rw [hpl] at HG
    clear hp hpm hpl
    cases hg : getB ((s.data.toList.drop k).take n) with
    | none =>
      have HV := Lib.hid (nextV_none (a := k) (show nextL (s.data.toList.drop k) = none by
        rw [HDA.out]; exact next_bad c40 c41 hl hd (by rw [← HDA.out, hn]; exact Or.inl hg)))
      rw [getV_none hg] at HG
      clear c40 c41 hl hd hn hg hrw hmax
      go_enter Tryd.func82, Tryd.ntmps82
      go_wp2_with fail
      refine (HL.out _).mono ?_
      rintro e w1 ⟨rfl, rfl⟩
      go_wp2_with fail
      refine (HD.out _).mono ?_
      rintro e w1 ⟨rfl, rfl⟩
      go_wp2_with fail
      refine (HRD.out _).mono ?_
      rintro e w1 ⟨rfl, rfl⟩
      go_wp2_with fail
      refine (HG.out _).mono ?_
      rintro e w1 ⟨rfl, rfl⟩
      go_wp2
      go_ret2
      exact ⟨by rw [HV.out]; rfl, rfl⟩
    | some v =>
      rw [getV_some hg] at HG
      by_cases he : k + n < s.size
      · have hhd := head_drop s k n he
        have HL2 := Lib.hid (letter_any s[k + n])
        cases hl2 : letterC s[k + n] with
        | true =>
          have HV := Lib.hid (nextV_none (a := k) (show nextL (s.data.toList.drop k) = none by
            rw [HDA.out]; exact next_bad c40 c41 hl hd (by rw [← HDA.out, hn]; exact Or.inr (by rw [hhd]; exact hl2))))
          rw [hl2] at HL2
          clear c40 c41 hl hd hn hg hrw hmax hhd hl2
          go_enter Tryd.func82, Tryd.ntmps82
          go_wp2_with fail
          refine (HL.out _).mono ?_
          rintro e w1 ⟨rfl, rfl⟩
          go_wp2_with fail
          refine (HD.out _).mono ?_
          rintro e w1 ⟨rfl, rfl⟩
          go_wp2_with fail
          refine (HRD.out _).mono ?_
          rintro e w1 ⟨rfl, rfl⟩
          go_wp2_with fail
          refine (HG.out _).mono ?_
          rintro e w1 ⟨rfl, rfl⟩
          go_wp2_with fail
          refine (HL2.out _).mono ?_
          rintro e w1 ⟨rfl, rfl⟩
          go_wp2
          go_ret2
          exact ⟨by rw [HV.out]; rfl, rfl⟩
        | false =>
          have HV := Lib.hid (nextV_some (a := k) (show nextL (s.data.toList.drop k) = some (4, n) by
            have h0 := next_num c40 c41 hl hd (r := s.data.toList.drop (k + 1)) (by rw [← HDA.out, hn, hhd, hg]; rintro (h | h); cases h; rw [show ((some s[k + n]).map letterC).getD false = letterC s[k + n] from rfl, hl2] at h; cases h)
            rw [← HDA.out, hn] at h0; exact h0))
          rw [hl2] at HL2
          clear c40 c41 hl hd hn hg hrw hmax hhd hl2
          go_enter Tryd.func82, Tryd.ntmps82
          go_wp2_with fail
          refine (HL.out _).mono ?_
          rintro e w1 ⟨rfl, rfl⟩
          go_wp2_with fail
          refine (HD.out _).mono ?_
          rintro e w1 ⟨rfl, rfl⟩
          go_wp2_with fail
          refine (HRD.out _).mono ?_
          rintro e w1 ⟨rfl, rfl⟩
          go_wp2_with fail
          refine (HG.out _).mono ?_
          rintro e w1 ⟨rfl, rfl⟩
          go_wp2_with fail
          refine (HL2.out _).mono ?_
          rintro e w1 ⟨rfl, rfl⟩
          go_wp2
          go_ret2
          exact ⟨by rw [HV.out]; rfl, rfl⟩
      · have hhd := head_none s k n he
        have HV := Lib.hid (nextV_some (a := k) (show nextL (s.data.toList.drop k) = some (4, n) by
          have h0 := next_num c40 c41 hl hd (r := s.data.toList.drop (k + 1)) (by rw [← HDA.out, hn, hhd, hg]; rintro (h | h); cases h; cases h)
          rw [← HDA.out, hn] at h0; exact h0))
        clear c40 c41 hl hd hn hg hrw hmax hhd
        go_enter Tryd.func82, Tryd.ntmps82
        go_wp2_with fail
        refine (HL.out _).mono ?_
        rintro e w1 ⟨rfl, rfl⟩
        go_wp2_with fail
        refine (HD.out _).mono ?_
        rintro e w1 ⟨rfl, rfl⟩
        go_wp2_with fail
        refine (HRD.out _).mono ?_
        rintro e w1 ⟨rfl, rfl⟩
        go_wp2_with fail
        refine (HG.out _).mono ?_
        rintro e w1 ⟨rfl, rfl⟩
        go_wp2
        go_ret2
        exact ⟨by rw [HV.out]; rfl, rfl⟩
end Go.Proofs.YtllkackipdcekaaDoor

namespace Go.Proofs.YtllkackipdcekaaDoor
open Go.RowKit

def cells3 : List Tok → List Value
  | [] => []
  | t :: r => .int .i64 t.k :: .string ⟨t.s.toArray⟩ :: .int .i64 t.at_ :: cells3 r
theorem cells3_append : ∀ ps qs : List Tok, cells3 (ps ++ qs) = cells3 ps ++ cells3 qs
  | [], qs => rfl
  | t :: r, qs => by simp [cells3, cells3_append r qs]
/-- A list of tokens that the call has made so far. -/
def Toks (T : TypeId) (B : Nat) (w : World) (v : Value) (ts : List Tok) : Prop := w.ownsRow B T 3 v ts.length (cells3 ts)
theorem toks_nil (T : TypeId) (B : Nat) (w : World) : Toks T B w (.slice none 0 0) [] := ⟨rfl, Or.inl ⟨rfl, rfl⟩⟩
theorem toks_later {T : TypeId} {B : Nat} {w w' : World} {v : Value} {ts : List Tok} (h : Toks T B w v ts) (hb : Below w.heap.size w w') : Toks T B w' v ts := by
  obtain ⟨h1, h2⟩ := h
  refine ⟨h1, ?_⟩
  rcases h2 with h2 | ⟨g, cap, cur, hv, hg, hh, r⟩
  · exact Or.inl h2
  · refine Or.inr ⟨g, cap, cur, hv, hg, ?_, r⟩
    rw [hb.block g ?_]; exact hh
    exact (Array.getElem?_eq_some_iff.1 hh).1
theorem toks_above {T : TypeId} {B : Nat} {w : World} {v : Value} {ts : List Tok} (h : Toks T B w v ts) : ∀ k, v.ownBlock = some k → B ≤ k := by
  intro k hk
  rcases h.2 with ⟨rfl, -⟩ | ⟨g, cap, cur, rfl, hg, -⟩
  · simp [Value.ownBlock] at hk
  · simp [Value.ownBlock] at hk; omega
theorem toks_step {T : TypeId} {B : Nat} {w : World} {v : Value} {ts : List Tok} {t : Tok} (h : w.ownsRow B T 3 v (ts.length + 1) (cells3 ts ++ cells3 [t])) : Toks T B w v (ts ++ [t]) := by
  unfold Toks; rw [cells3_append]; simpa using h
theorem alloc_new3 (w : World) (o : Obj) : (w.alloc o).heap[w.heap.size]? = some o := by
  unfold World.alloc; simp
theorem news_tok (w : World) (t : Tok) (T : TypeId) : ∀ j u, (cells3 [t])[j]? = some u → (w.alloc (.cells #[.int .i64 t.k, .string ⟨t.s.toArray⟩, .int .i64 t.at_] T)).cell? ((⟨w.heap.size, 0, none⟩ : Addr).add j) = some u :=
  World.news_of_block (alloc_new3 w _)
theorem info_tok : (Tryd.prog.info? 97).map (fun i => (i.zero, i.size, i.bytes)) = some (some (.agg #[.int .i64 0, .string ⟨#[]⟩, .int .i64 0]), 3, 32) := by kernel_rfl
theorem tok_parts {i : Option TypeInfo} {z : Value} {n m : Nat} (h : i.map (fun i => (i.zero, i.size, i.bytes)) = some (some z, n, m)) : ∃ i0, i = some i0 ∧ i0.zero = some z ∧ i0.size = n ∧ i0.bytes = m := by
  cases i with
  | none => cases h
  | some i0 => simp at h; exact ⟨i0, rfl, h.1, h.2.1, h.2.2⟩
theorem lexTo_next (ts : List Tok) (t : Tok) (r : List Tok × Option Nat) : lexTo ts (t :: r.1, r.2) = lexTo (ts ++ [t]) r := by simp [lexTo]

/-- What Lex hands back. -/
def lexGives (T : TypeId) (w : World) (R : List Tok × Option Nat) (e : Ending) (w' : World) : Prop :=
  Below w.heap.size w w' ∧ match R.2 with
    | none => ∃ v, Toks T w.heap.size w' v R.1 ∧ e = .returned (.tuple #[v, .int .i64 0, .int .i64 0])
    | some p => e = .returned (.tuple #[.slice none 0 0, .int .i64 2, .int .i64 p])

set_option maxHeartbeats 2000000 in
theorem lex_any (s : ByteArray) (w : World) (hs : s.size ≤ 10000000) :
    Calls Tryd.prog 63 #[.string s] w (lexGives 97 w (lexL s.data.toList 0)) := by
  have hmax : s.size ≤ maxLen := by unfold maxLen; omega
  have HSK := Lib.hid fun k w (h : k ≤ s.size) => skip_any s k w hmax h
  have HNX := Lib.hid fun k w (h : k < s.size) => next_any s k w hmax h
  have hsl : s.data.toList.length = s.size := by simp
  have HSL := Lib.hid hsl
  obtain ⟨R, hR⟩ : ∃ R, lexL s.data.toList 0 = R := ⟨_, rfl⟩
  rw [hR]
  have HRR := Lib.hid hR
  obtain ⟨i0, hi, hz0, hz1, hz2⟩ := tok_parts info_tok
  have HI := Lib.hid (And.intro hi (And.intro hz0 (And.intro hz1 hz2)))
  clear hR hsl hi hz0 hz1 hz2 hmax
  go_enter Tryd.func63, Tryd.ntmps63
  have h00 := HSK.out 0 w (Nat.zero_le _)
  obtain ⟨q0, hq0⟩ : ∃ q, 0 + skipL (s.data.toList.drop 0) = q := ⟨_, rfl⟩
  rw [hq0] at h00
  have HQ0 := Lib.hid hq0
  have H00 := Lib.hid h00
  have hq9 : q0 ≤ s.size := by have := skipL_le _ (s.data.toList.drop 0) (Nat.le_refl _); rw [List.length_drop, HSL.out] at this; omega
  clear hq0 h00
  go_wp2_with fail
  refine (H00.out).mono ?_
  rintro e w1 ⟨rfl, rfl⟩
  go_wp2_with fail
  go_loopw [5, 6] (fun v i wr => ∃ (p q : Nat) (ts : List Tok), q ≤ s.size ∧ ts.length ≤ q ∧ i = .int .i64 q ∧ Hid (p + skipL (s.data.toList.drop p) = q) ∧ Hid (lexTo ts (lexL s.data.toList p) = R) ∧ Hid (Toks 97 w1.heap.size wr v ts) ∧ Below w1.heap.size w1 wr) (fun _ i _ => s.size - (intOf i).toNat)
  case atStart => exact ⟨0, q0, [], hq9, Nat.zero_le _, rfl, HQ0, by rw [Hid, HRR.out]; simp [lexTo], toks_nil _ _ _, Below.refl _ _⟩
  case round =>
    obtain ⟨p, q, ts, hq, htq, rfl, hp, hR, hT, hB⟩ := hrel
    by_cases hlt : q < s.size
    · have HN := Lib.hid (HNX.out q wr hlt)
      cases hn : nextL (s.data.toList.drop q) with
      | none =>
        have hf := lexL_fault hp.out (by rw [HSL.out]; exact hlt) hn
        have HF := Lib.hid (show R = (ts, some q) by rw [← hR.out, hf]; simp [lexTo])
        rw [nextV_none hn] at HN
        have HB := Lib.hid hB
        clear hf hn hp hR hT hB
        go_wp2_with fail
        refine (HN.out).mono ?_
        rintro e w2 ⟨rfl, rfl⟩
        go_wp2
        go_ret3
        exact ⟨HB.out, by rw [HF.out]; rfl⟩
      | some kn =>
        obtain ⟨k, n⟩ := kn
        have hrg := nextL_range hn
        rw [List.length_drop, HSL.out] at hrg
        obtain ⟨hn1, hn2, hk1, hk4⟩ := hrg
        have HNE := Lib.hid (lexL_next hp.out (by rw [HSL.out]; exact hlt) hn)
        rw [nextV_some hn] at HN
        have k0 : ((k : Int) == 0) = false := by simp; omega
        obtain ⟨c, hc⟩ : ∃ c, (s.data.toList.drop q).take n = c := ⟨_, rfl⟩
        have hsli : ∀ w', (Instr.slice 9 (.string s) (some (.int .i64 (q : Int))) (some (.int .i64 ((q : Int) + (n : Int)))) none).run Tryd.prog w' = .ok (.string ⟨c.toArray⟩) w' := fun w' => by
          rw [slice_at w' s q n Tryd.underlying9 (by omega), Lib.extract_eq, Nat.add_sub_cancel_left, hc]
        rw [hc] at HNE
        have HR2 := Lib.hid (show lexTo (ts ++ [⟨k, c, q⟩]) (lexL s.data.toList (q + n)) = R by rw [← hR.out, HNE.out]; exact (lexTo_next ts ⟨k, c, q⟩ _).symm)
        obtain ⟨q2, hq2⟩ : ∃ q2, q + n + skipL (s.data.toList.drop (q + n)) = q2 := ⟨_, rfl⟩
        have hq29 : q2 ≤ s.size := by have := skipL_le _ (s.data.toList.drop (q + n)) (Nat.le_refl _); rw [List.length_drop, HSL.out] at this; omega
        have hqn : q + n ≤ q2 := by omega
        have HSK2 := Lib.hid fun w => HSK.out (q + n) w (by omega)
        rw [hq2] at HSK2
        have HQ2 := Lib.hid hq2
        have HB := Lib.hid hB
        have hB2 := hB.size
        clear hc HNE hp hR hq2 hn hB
        go_wp2_with fail
        refine (HN.out).mono ?_
        rintro e w2 ⟨rfl, rfl⟩
        go_wp2_with (at_builtin; refine wpList_append_lies _ rfl _ _ 90 rfl w1.heap.size 97 i0 _ 3 32 (by kernel_rfl) HI.out.1 HI.out.2.1 HI.out.2.2.1 HI.out.2.2.2 rfl (by decide) _ ts.length (cells3 ts) rfl (toks_later hT.out ((Below.refl _ _).alloc (Nat.le_refl _) _)) ⟨w2.heap.size, 0, none⟩ 1 1 (cells3 [⟨k, c, q⟩]) rfl rfl ?news ?one (by decide) ?max ?bytes ?base _ rfl ?next)
        case news => exact news_tok _ _ _
        case one => intro v hv; simp [cells3] at hv; rcases hv with rfl | rfl | rfl <;> rfl
        case max => unfold maxLen; omega
        case bytes => omega
        case base => simp; omega
        case next =>
          intro g cap3 w3 hown hgrow hat _
          have HT2 := Lib.hid (toks_step hown)
          have HB2 := Lib.hid ((HB.out.alloc hB2 _).grown hgrow (by simp; omega) (toks_above hT.out))
          clear hown hgrow hat
          go_wp2_with fail
          refine (HSK2.out _).mono ?_
          rintro e w4 ⟨rfl, rfl⟩
          go_wp2_with fail
          go_roundw
          case rel => exact ⟨q + n, q2, ts ++ [⟨k, c, q⟩], hq29, by simp; omega, rfl, HQ2.out, HR2, HT2, HB2.out⟩
          case measure => simp [intOf]; omega
    · have : q = s.size := by omega
      subst this
      have hf := lexL_end (l := s.data.toList) (p := p) (by rw [HSL.out, hp.out]; omega)
      have HF := Lib.hid (show R = (ts, none) by rw [← hR.out, hf]; simp [lexTo])
      have HB := Lib.hid hB
      have HT := Lib.hid hT.out
      clear hf hp hR hT hB
      go_wp2
      go_ret3
      exact ⟨HB.out, by rw [HF.out]; exact ⟨_, HT.out, rfl⟩⟩
end Go.Proofs.YtllkackipdcekaaDoor

namespace Go.Proofs.YtllkackipdcekaaDoor

/-- Tokens of a text that stands m bytes further on. -/
def shB (m : Nat) (R : List Tok × Option Nat) : List Tok × Option Nat := (R.1.map (fun t => ⟨t.k, t.s, t.at_ + m⟩), R.2.map (· + m))
theorem lex_shift (pre l : List UInt8) : ∀ n p, l.length - p ≤ n → lexL (pre ++ l) (p + pre.length) = shB pre.length (lexL l p) := by
  intro n
  have dr : ∀ q, (pre ++ l).drop (q + pre.length) = l.drop q := fun q => by rw [Nat.add_comm, List.drop_append, List.drop_of_length_le (by omega), List.nil_append, Nat.add_sub_cancel_left]
  induction n with
  | zero =>
    intro p h
    rw [lexL_end (l := l) (p := p) (by omega), lexL_end (by rw [List.length_append]; omega)]
    rfl
  | succ n ih =>
    intro p h
    by_cases h1 : p + skipL (l.drop p) < l.length
    · obtain ⟨q, hq⟩ : ∃ q, p + skipL (l.drop p) = q := ⟨_, rfl⟩
      have hq2 : p + pre.length + skipL ((pre ++ l).drop (p + pre.length)) = q + pre.length := by rw [dr]; omega
      rw [hq] at h1
      have hlt : q + pre.length < (pre ++ l).length := by rw [List.length_append]; omega
      cases hn : nextL (l.drop q) with
      | none => rw [lexL_fault hq h1 hn, lexL_fault hq2 hlt (by rw [dr]; exact hn)]; rfl
      | some x =>
        obtain ⟨k, m⟩ := x
        have hrg := nextL_range hn
        rw [lexL_next hq h1 hn, lexL_next hq2 hlt (by rw [dr]; exact hn), dr, show q + pre.length + m = q + m + pre.length by omega, ih (q + m) (by omega)]
        rfl
    · rw [lexL_end h1, lexL_end (by rw [dr, List.length_append]; omega)]
      rfl

end Go.Proofs.YtllkackipdcekaaDoor

namespace Go.Proofs.YtllkackipdcekaaDoor

/-- What stands behind a token ends it. -/
def Stops (Y : List UInt8) : Prop := ∀ c r, Y = c :: r → wordC c = false
theorem wordC_no {c : UInt8} (h : wordC c = false) : letterC c = false ∧ isd c = false := by unfold wordC at h; simpa using h
theorem runL_cut {p : UInt8 → Bool} {Y : List UInt8} (hY : ∀ c r, Y = c :: r → p c = false) : ∀ X, runL p (X.take (runL p X) ++ Y) = runL p X
  | [] => by
    match Y, hY with
    | [], _ => rfl
    | c :: r, hY => exact runL_no (hY c r rfl)
  | c :: r => by
    by_cases h : p c = true
    · rw [runL_yes h, List.take_succ_cons, List.cons_append, runL_yes h, runL_cut hY r]
    · have h' : p c = false := by simpa using h
      rw [runL_no h', List.take_zero, List.nil_append]
      match Y, hY with
      | [], _ => rfl
      | c :: r, hY => exact runL_no (hY c r rfl)
/-- A token by itself: it is read again wherever something stands behind it that ends it. -/
def Solid (t : Tok) : Prop := ∀ Y, Stops Y → nextL (t.s ++ Y) = some (t.k, t.s.length) ∧ skipL (t.s ++ Y) = 0
theorem solid_of {X : List UInt8} {k n a : Nat} (h : nextL X = some (k, n)) : Solid ⟨k, X.take n, a⟩ := by
  intro Y hY
  match X, h with
  | [], h => cases h
  | c :: r, h =>
    show nextL ((c :: r).take n ++ Y) = some (k, ((c :: r).take n).length) ∧ skipL ((c :: r).take n ++ Y) = 0
    by_cases c1 : c.toNat = 40
    · rw [next_open c1] at h
      cases h
      exact ⟨next_open c1, skipL_stop (by unfold blankC; rw [c1]; rfl) (by omega)⟩
    by_cases c2 : c.toNat = 41
    · rw [next_close c2] at h
      cases h
      exact ⟨next_close c2, skipL_stop (by unfold blankC; rw [c2]; rfl) (by omega)⟩
    have hw := runL_cut (p := wordC) (Y := Y) (fun c r e => hY c r e) (c :: r)
    have hd := runL_cut (p := isd) (Y := Y) (fun c r e => (wordC_no (hY c r e)).2) (c :: r)
    have hlw := runL_le wordC (c :: r)
    have hld := runL_le isd (c :: r)
    by_cases c3 : letterC c = true
    · have hy : runL wordC (c :: r) = runL wordC r + 1 := runL_yes (by unfold wordC; rw [c3]; rfl)
      by_cases c4 : 20 < runL wordC (c :: r)
      · rw [next_long c1 c2 c3 c4] at h; cases h
      · rw [next_word c1 c2 c3 c4] at h
        cases h
        have hl : ((c :: r).take (runL wordC (c :: r))).length = runL wordC (c :: r) := by rw [List.length_take]; omega
        rw [hl]
        rw [hy, List.take_succ_cons, List.cons_append] at hw ⊢
        refine ⟨?_, skipL_stop ?_ ?_⟩
        · rw [next_word c1 c2 c3 (by omega), hw]
        · unfold letterC at c3
          unfold blankC
          have h2 : (97 ≤ c.toNat ∧ c.toNat ≤ 122) ∨ (65 ≤ c.toNat ∧ c.toNat ≤ 90) := by simpa using c3
          rw [beq_eq_false_iff_ne.2 (by omega : c.toNat ≠ 32), beq_eq_false_iff_ne.2 (by omega : c.toNat ≠ 9), beq_eq_false_iff_ne.2 (by omega : c.toNat ≠ 10)]; rfl
        · unfold letterC at c3
          have h2 : (97 ≤ c.toNat ∧ c.toNat ≤ 122) ∨ (65 ≤ c.toNat ∧ c.toNat ≤ 90) := by simpa using c3
          omega
    have c3' : letterC c = false := by simpa using c3
    by_cases c5 : isd c = true
    · have hy : runL isd (c :: r) = runL isd r + 1 := runL_yes c5
      by_cases c6 : getB ((c :: r).take (runL isd (c :: r))) = none ∨ ((((c :: r).drop (runL isd (c :: r))).head?.map letterC).getD false) = true
      · rw [next_bad c1 c2 c3' c5 c6] at h; cases h
      · rw [next_num c1 c2 c3' c5 c6] at h
        cases h
        have hl : ((c :: r).take (runL isd (c :: r))).length = runL isd (c :: r) := by rw [List.length_take]; omega
        have hg : getB ((c :: r).take (runL isd (c :: r))) ≠ none := fun e => c6 (Or.inl e)
        have ht : ((c :: r).take (runL isd (c :: r)) ++ Y).take (runL isd (c :: r)) = (c :: r).take (runL isd (c :: r)) := by
          conv => lhs; rw [List.take_append_of_le_length (by rw [hl]; exact Nat.le_refl _)]
          rw [List.take_take, Nat.min_self]
        have hdr : ((c :: r).take (runL isd (c :: r)) ++ Y).drop (runL isd (c :: r)) = Y := List.drop_left' hl
        have hY2 : (Y.head?.map letterC).getD false = false := by
          match Y, hY with
          | [], _ => rfl
          | d :: s, hY => exact (wordC_no (hY d s rfl)).1
        rw [hl]
        generalize hX : (c :: r).take (runL isd (c :: r)) = X at *
        have hX2 : X = c :: r.take (runL isd r) := by rw [← hX, hy, List.take_succ_cons]
        rw [hX2, List.cons_append] at hd ht hdr ⊢
        refine ⟨?_, skipL_stop ?_ ?_⟩
        · rw [next_num c1 c2 c3' c5 (by rw [hd, ht, hdr, hY2, ← hX2]; rintro (e | e); exact hg e; cases e), hd]
        · unfold isd at c5
          have h2 : 48 ≤ c.toNat ∧ c.toNat ≤ 57 := by simpa using c5
          unfold blankC
          rw [beq_eq_false_iff_ne.2 (by omega : c.toNat ≠ 32), beq_eq_false_iff_ne.2 (by omega : c.toNat ≠ 9), beq_eq_false_iff_ne.2 (by omega : c.toNat ≠ 10)]; rfl
        · unfold isd at c5
          have h2 : 48 ≤ c.toNat ∧ c.toNat ≤ 57 := by simpa using c5
          omega
    · rw [next_other c1 c2 c3' (by simpa using c5)] at h; cases h
end Go.Proofs.YtllkackipdcekaaDoor

namespace Go.Proofs.YtllkackipdcekaaDoor
open Go.RowKit

/-- Terms behind a slice, in blocks of which P speaks. -/
inductive LiesP (w : World) (P : Nat → Prop) : List Tm → Value → Prop
  | mk (l : List Tm) (a : Option Addr) (cap : Nat) (S : Nat → Value) (hc : l.length ≤ cap) (hm : cap ≤ maxLen) (hf : ∀ x ∈ l, x.fine)
      (hn : ∀ i (h : i < l.length), ∃ b, a = some ⟨b, 0, none⟩ ∧ P b ∧ Node w b (i * 5) l[i] (S i)) (hk : ∀ i (h : i < l.length), LiesP w P (l[i]).kids (S i)) : LiesP w P l (.slice a l.length cap)

theorem LiesP.lies {w : World} {P : Nat → Prop} {l : List Tm} {s : Value} (h : LiesP w P l s) : Lies w l s := by
  induction h with
  | mk l a cap S hc hm hf hn hk ih => exact .mk l a cap S hc hm hf (fun i hi => by obtain ⟨b, ha, _, hx⟩ := hn i hi; exact ⟨b, 0, ha, by rw [Nat.zero_add]; exact hx⟩) ih

theorem Node.same {w w' : World} {b o : Nat} {t : Tm} {s : Value} (h : Node w b o t s) (hb : w'.heap[b]? = w.heap[b]?) : Node w' b o t s :=
  ⟨(World.cell?_of_block (a := ⟨b, o, none⟩) hb).trans h.c0, (World.cell?_of_block (a := ⟨b, o + 1, none⟩) hb).trans h.c1, (World.cell?_of_block (a := ⟨b, o + 2, none⟩) hb).trans h.c2,
    (World.cell?_of_block (a := ⟨b, o + 3, none⟩) hb).trans h.c3, (World.cell?_of_block (a := ⟨b, o + 4, none⟩) hb).trans h.c4⟩

/-- They lie in a later world where their blocks are as they were; P may be turned on the way. -/
theorem LiesP.keep {w w' : World} {P Q : Nat → Prop} {l : List Tm} {s : Value} (h : LiesP w P l s) (hb : ∀ b, P b → b < w.heap.size → w'.heap[b]? = w.heap[b]?) (hq : ∀ b, P b → b < w.heap.size → Q b) : LiesP w' Q l s := by
  induction h with
  | mk l a cap S hc hm hf hn hk ih =>
    exact .mk l a cap S hc hm hf (fun i hi => by obtain ⟨b, ha, hp, hx⟩ := hn i hi; exact ⟨b, ha, hq b hp hx.lt, hx.same (hb b hp hx.lt)⟩) ih

/-- A block of the call's own: new since B, and nothing of it is frozen. -/
def Own (B : Nat) (w : World) (b : Nat) : Prop := B ≤ b ∧ ∃ cs, w.heap[b]? = some (.cells cs 26 (0, 0))
theorem Own.lt {B : Nat} {w : World} {b : Nat} (h : Own B w b) : b < w.heap.size := by obtain ⟨-, cs, h⟩ := h; exact (Array.getElem?_eq_some_iff.1 h).1
theorem Own.same {B : Nat} {w w' : World} {b : Nat} (h : Own B w b) (hb : w'.heap[b]? = w.heap[b]?) : Own B w' b := ⟨h.1, by rw [hb]; exact h.2⟩
theorem Own.later {B : Nat} {w w' : World} {b : Nat} (h : Own B w b) (hb : Below w.heap.size w w') : Own B w' b := h.same (hb.block b h.lt)
theorem Own.from {B B' : Nat} {w : World} {b : Nat} (h : Own B w b) (hB : B' ≤ B) : Own B' w b := ⟨Nat.le_trans hB h.1, h.2⟩

/-- What a call has made lies there later, too. -/
theorem LiesP.later {w w' : World} {B : Nat} {l : List Tm} {s : Value} (h : LiesP w (Own B w) l s) (hb : Below w.heap.size w w') : LiesP w' (Own B w') l s := h.keep (fun b _ hlt => hb.block b hlt) (fun _ hp _ => hp.later hb)
theorem LiesP.from {w : World} {B B' : Nat} {l : List Tm} {s : Value} (h : LiesP w (Own B w) l s) (hB : B' ≤ B) : LiesP w (Own B' w) l s := h.keep (fun _ _ _ => rfl) (fun _ hp _ => hp.from hB)

def cells5 : List (Tm × Value) → List Value
  | [] => []
  | (t, s) :: r => .int .i64 t.k :: .int .i64 t.i :: .int .i64 t.j :: .int .i64 t.n :: s :: cells5 r

theorem cells5_length : ∀ ps : List (Tm × Value), (cells5 ps).length = ps.length * 5
  | [] => rfl
  | (t, s) :: r => by simp [cells5, cells5_length r]; omega
theorem cells5_get : ∀ (ps : List (Tm × Value)) (i : Nat) (h : i < ps.length) (q : Nat), q < 5 → (cells5 ps)[i * 5 + q]? = [Value.int .i64 (ps[i]).1.k, .int .i64 (ps[i]).1.i, .int .i64 (ps[i]).1.j, .int .i64 (ps[i]).1.n, (ps[i]).2][q]?
  | (t, s) :: r, 0, _, q, hq => by
    rw [Nat.zero_mul, Nat.zero_add]
    match q, hq with
    | 0, _ => rfl
    | 1, _ => rfl
    | 2, _ => rfl
    | 3, _ => rfl
    | 4, _ => rfl
  | (t, s) :: r, i + 1, h, q, hq => by
    have := cells5_get r i (by simpa using h) q hq
    rw [show (i + 1) * 5 + q = (i * 5 + q) + 5 by omega]
    simpa [cells5] using this

/-- A list of terms that the call has made so far: v is the slice, ps the terms with the slices of their kids; B: where its own memory begins. -/
structure Made (B : Nat) (w : World) (v : Value) (ps : List (Tm × Value)) : Prop where
  own : w.ownsRow B 26 5 v ps.length (cells5 ps)
  fine : ∀ p ∈ ps, p.1.fine
  kids : ∀ p ∈ ps, LiesP w (fun b => Own B w b ∧ v.ownBlock ≠ some b) p.1.kids p.2

/-- The list as terms that lie in the call's own memory. -/
theorem made_lies {B : Nat} {w : World} {v : Value} {ps : List (Tm × Value)} (h : Made B w v ps) : LiesP w (Own B w) (ps.map (·.1)) v := by
  have fin : ∀ x ∈ ps.map (·.1), x.fine := fun x hx => by obtain ⟨p, hp, rfl⟩ := List.mem_map.1 hx; exact h.fine p hp
  have kid : ∀ i (hi : i < ps.length), LiesP w (Own B w) (ps[i]).1.kids (ps[i]).2 := fun i hi => (h.kids _ (List.getElem_mem hi)).keep (fun _ _ _ => rfl) (fun _ hb _ => hb.1)
  obtain ⟨-, ⟨rfl, hn⟩ | ⟨g, cap, cur, rfl, hg, hh, hnc, hcm, hsz, htk⟩⟩ := h.own
  · obtain rfl : ps = [] := List.eq_nil_of_length_eq_zero hn
    exact .mk [] none 0 (fun _ => .nilIface) (Nat.le_refl _) (by decide) (fun _ h => by cases h) (fun _ h => by cases h) (fun _ h => by cases h)
  · have := LiesP.mk (w := w) (P := Own B w) (ps.map (·.1)) (some ⟨g, 0, none⟩) cap (fun i => (ps[i]?.map (·.2)).getD (.slice none 0 0)) (by simpa using hnc) hcm fin
      (fun i hi => by
        have hi' : i < ps.length := by simpa using hi
        refine ⟨g, rfl, ⟨hg, cur, hh⟩, ?_⟩
        simp only [List.getElem_map, List.getElem?_eq_getElem hi', Option.map_some, Option.getD_some]
        have cellq : ∀ q, q < 5 → w.cell? ⟨g, i * 5 + q, none⟩ = [Value.int .i64 (ps[i]).1.k, .int .i64 (ps[i]).1.i, .int .i64 (ps[i]).1.j, .int .i64 (ps[i]).1.n, (ps[i]).2][q]? := fun q hq => by
          rw [h.own.cellAt (i * 5 + q) (by omega)]; exact cells5_get ps i hi' q hq
        exact ⟨cellq 0 (by omega), cellq 1 (by omega), cellq 2 (by omega), cellq 3 (by omega), cellq 4 (by omega)⟩)
      (fun i hi => by
        have hi' : i < ps.length := by simpa using hi
        simp only [List.getElem_map, List.getElem?_eq_getElem hi', Option.map_some, Option.getD_some]
        exact kid i hi')
    simpa using this

theorem alloc_new (w : World) (o : Obj) : (w.alloc o).heap[w.heap.size]? = some o := by
  unfold World.alloc; simp

/-- A term is stored into a block of five cells. -/
theorem five_set {w : World} {g : Nat} {T : TypeId} {z0 z1 z2 z3 z4 v0 v1 v2 v3 v4 : Value} (h : w.heap[g]? = some (.cells #[z0, z1, z2, z3, z4] T (0, 0))) :
    (((((w.setCell ⟨g, 0, none⟩ v0).setCell ⟨g, 1, none⟩ v1).setCell ⟨g, 2, none⟩ v2).setCell ⟨g, 3, none⟩ v3).setCell ⟨g, 4, none⟩ v4).heap[g]? = some (.cells #[v0, v1, v2, v3, v4] T (0, 0)) :=
  heap_setCell_same _ _ _ _ _ _ (heap_setCell_same _ _ _ _ _ _ (heap_setCell_same _ _ _ _ _ _ (heap_setCell_same _ _ _ _ _ _ (heap_setCell_same _ _ _ _ _ _ h))))

theorem info_term : (Tryd.prog.info? 26).map (fun i => (i.zero, i.size, i.bytes)) = some (some (.agg #[.int .i64 0, .int .i64 0, .int .i64 0, .int .i64 0, .slice none 0 0]), 5, 56) := by kernel_rfl
end Go.Proofs.YtllkackipdcekaaDoor

namespace Go.Proofs.YtllkackipdcekaaDoor
open Go.RowKit

/-- What a parser leaves by. -/
def faultP (at_ : Nat) : Ending := .panicked [{ v := .iface 71 (.agg #[.int .i64 at_]), recovered := false }]
/-- Tokens behind a slice, wherever they lie. -/
def TLies (w : World) (ts : List Tok) (v : Value) : Prop := ∃ a cap, v = .slice a ts.length cap ∧ ts.length ≤ cap ∧ cap ≤ maxLen ∧ (ts = [] ∨ ∃ g o cs fz, a = some ⟨g, o, none⟩ ∧ w.heap[g]? = some (Obj.cells cs 97 fz) ∧ (cs.toList.drop o).take (ts.length * 3) = cells3 ts)
theorem TLies.keep {w w' : World} {ts : List Tok} {v : Value} (h : TLies w ts v) (hk : ∀ (g : Nat) (cs : Array Value) (fz : Nat × Nat), w.heap[g]? = some (Obj.cells cs 97 fz) → w'.heap[g]? = some (Obj.cells cs 97 fz)) : TLies w' ts v := by
  obtain ⟨a, cap, hv, h1, h2, h3⟩ := h
  refine ⟨a, cap, hv, h1, h2, ?_⟩
  rcases h3 with h3 | ⟨g, o, cs, fz, h4, h5, h6⟩
  · exact Or.inl h3
  · exact Or.inr ⟨g, o, cs, fz, h4, hk _ _ _ h5, h6⟩
theorem at_drop {α : Type} {l m : List α} {o n : Nat} (h : (l.drop o).take n = m) (q : Nat) (hq : q < m.length) : l[o + q]? = m[q]? := by
  have hn : q < n := by
    have := congrArg List.length h
    simp at this
    omega
  rw [← h, List.getElem?_take, if_pos hn, List.getElem?_drop]
theorem TLies.cons {w : World} {t : Tok} {r : List Tok} {v : Value} (h : TLies w (t :: r) v) : ∃ g o cap, v = .slice (some ⟨g, o, none⟩) (r.length + 1) cap ∧ r.length + 1 ≤ cap ∧ cap ≤ maxLen ∧
    w.cell? ⟨g, o, none⟩ = some (.int .i64 t.k) ∧ w.cell? ⟨g, o + 1, none⟩ = some (.string ⟨t.s.toArray⟩) ∧ w.cell? ⟨g, o + 2, none⟩ = some (.int .i64 t.at_) ∧ g < w.heap.size ∧ TLies w r (.slice (some ⟨g, o + 3, none⟩) r.length (cap - 1)) := by
  obtain ⟨a, cap, hv, h1, h2, h3⟩ := h
  rcases h3 with h3 | ⟨g, o, cs, fz, rfl, h5, h6⟩
  · cases h3
  · simp only [List.length_cons] at h1 h6 hv
    have e0 := at_drop h6 0 (by simp [cells3])
    have e1 := at_drop h6 1 (by simp [cells3])
    have e2 := at_drop h6 2 (by simp [cells3])
    simp [cells3] at e0 e1 e2
    refine ⟨g, o, cap, hv, h1, h2, by rw [Lib.cell_of_heap h5]; exact e0, by rw [Lib.cell_of_heap h5]; exact e1, by rw [Lib.cell_of_heap h5]; exact e2, (Array.getElem?_eq_some_iff.1 h5).1, ?_⟩
    refine ⟨some ⟨g, o + 3, none⟩, cap - 1, rfl, by omega, by omega, Or.inr ⟨g, o + 3, cs, fz, rfl, h5, ?_⟩⟩
    have h7 : ((cs.toList.drop o).take ((r.length + 1) * 3)).drop 3 = (cells3 (t :: r)).drop 3 := by rw [h6]
    rw [List.drop_take, List.drop_drop] at h7
    rw [show (r.length + 1) * 3 - 3 = r.length * 3 by omega] at h7
    exact h7
/-- The block of a stream. -/
def SAt (w : World) (S : Nat) (v : Value) (E : Nat) (br : Bool) : Prop := w.heap[S]? = some (.cells #[v, .int .i64 E, .bool br] 94 (0, 0))
def hereT (E : Nat) : List Tok → Nat
  | [] => E
  | t :: _ => t.at_
def takeT (E : Nat) (k : Nat) : List Tok → Except Nat (Tok × List Tok)
  | [] => .error E
  | t :: r => if t.k = k then .ok (t, r) else .error t.at_
theorem grown_at {w w1 : World} {S : Nat} (h : w.grownBy w1 none) (i : Nat) (v : Value) : w.grownBy (w1.setCell ⟨S, i, none⟩ v) (some S) :=
  ⟨h.os, h.tape, h.output, by simpa using h.size, fun k hk hne => (heap_setCell_other w1 ⟨S, i, none⟩ k v (by intro e; exact hne (by rw [e]))).trans (h.block k hk (by simp))⟩

theorem fail_any (at_ : Nat) (w : World) : Calls Tryd.prog 68 #[.int .i64 at_] w fun e w' => e = faultP at_ ∧ w = w' := by
  go_enter Tryd.func68, Tryd.ntmps68
  go_wp2
  exact ⟨rfl, rfl, rfl⟩
theorem next_tok (S : Nat) (v : Value) (E : Nat) (br : Bool) (ts : List Tok) (k : Nat) (w : World) (hS : SAt w S v E br) (hv : TLies w ts v) : Calls Tryd.prog 64 #[.pointer (some ⟨S, 0, none⟩), .int .i64 k] w fun e w' => e = .returned (.bool ((ts.head?.map fun t => t.k == k).getD false)) ∧ w = w' := by
  match ts, hv with
  | [], ⟨a, cap, hv, _⟩ =>
    subst hv
    have c0 : w.cell? ⟨S, 0, none⟩ = some (.slice a 0 cap) := by rw [Lib.cell_of_heap hS]; rfl
    go_enter Tryd.func64, Tryd.ntmps64
    go_wp2
    go_ret
    exact ⟨rfl, rfl⟩
  | t :: r, hv =>
    obtain ⟨g, o, cap, rfl, hc, hm, x0, x1, x2, hg, hr⟩ := hv.cons
    have c0 : w.cell? ⟨S, 0, none⟩ = some (.slice (some ⟨g, o, none⟩) (r.length + 1) cap) := by rw [Lib.cell_of_heap hS]; rfl
    have hkk : ((t.k : Int) == (k : Int)) = (t.k == k) := by rw [Bool.eq_iff_iff, beq_iff_eq, beq_iff_eq]; omega
    clear hr
    go_enter Tryd.func64, Tryd.ntmps64
    go_wp2
    go_ret
    exact ⟨rfl, rfl⟩
theorem here_any (S : Nat) (v : Value) (E : Nat) (br : Bool) (ts : List Tok) (w : World) (hS : SAt w S v E br) (hv : TLies w ts v) : Calls Tryd.prog 69 #[.pointer (some ⟨S, 0, none⟩)] w fun e w' => e = .returned (.int .i64 (hereT E ts)) ∧ w = w' := by
  have c1 : w.cell? ⟨S, 1, none⟩ = some (.int .i64 E) := by rw [Lib.cell_of_heap hS]; rfl
  match ts, hv with
  | [], ⟨a, cap, hv, _⟩ =>
    subst hv
    have c0 : w.cell? ⟨S, 0, none⟩ = some (.slice a 0 cap) := by rw [Lib.cell_of_heap hS]; rfl
    go_enter Tryd.func69, Tryd.ntmps69
    go_wp2
    go_ret
    exact ⟨rfl, rfl⟩
  | t :: r, hv =>
    obtain ⟨g, o, cap, rfl, hc, hm, x0, x1, x2, hg, hr⟩ := hv.cons
    have c0 : w.cell? ⟨S, 0, none⟩ = some (.slice (some ⟨g, o, none⟩) (r.length + 1) cap) := by rw [Lib.cell_of_heap hS]; rfl
    clear hr
    go_enter Tryd.func69, Tryd.ntmps69
    go_wp2
    go_ret
    exact ⟨rfl, rfl⟩
/-- What Take gives. -/
def TakeGives (S E : Nat) (br : Bool) (w : World) (x : Except Nat (Tok × List Tok)) (e : Ending) (w' : World) : Prop :=
  match x with
  | .error a => e = faultP a ∧ w.grownBy w' (some S)
  | .ok (t, r) => e = .returned (.agg #[.int .i64 t.k, .string ⟨t.s.toArray⟩, .int .i64 t.at_]) ∧ w.grownBy w' (some S) ∧ ∃ v', SAt w' S v' E br ∧ TLies w' r v'
theorem under_tok : ∃ d, Tryd.prog.underlying 97 = some d ∧ (match d with | .struct _ | .array _ _ => true | _ => false) = true := by
  have h : (Tryd.prog.underlying 97).map (fun d => match d with | .struct _ | .array _ _ => true | _ => false) = some true := by kernel_rfl
  cases e : Tryd.prog.underlying 97 with
  | none => rw [e] at h; cases h
  | some d => rw [e] at h; exact ⟨d, rfl, Option.some.inj h⟩
theorem size_tok : (Tryd.prog.info? 97).map (·.size) = some 3 := by kernel_rfl
theorem tk_ne : (94 : TypeId) ≠ 97 := by decide
theorem SAt.lt {w : World} {S : Nat} {v : Value} {E : Nat} {br : Bool} (h : SAt w S v E br) : S < w.heap.size := (Array.getElem?_eq_some_iff.1 h).1
theorem TLies.grown {w w' : World} {S : Nat} {v v0 : Value} {E : Nat} {br : Bool} {ts : List Tok} (h : TLies w ts v) (hS : SAt w S v0 E br) (hg : w.grownBy w' (some S)) : TLies w' ts v :=
  h.keep fun g cs fz e => (hg.block g (Array.getElem?_eq_some_iff.1 e).1 (by intro e2; obtain rfl : g = S := Option.some.inj e2; unfold SAt at hS; rw [hS] at e; injection e with e; injection e with _ e3 _; exact tk_ne e3)).trans e
theorem take_heap (w : World) (S : Nat) (v' : Value) (O O2 : Obj) : (((w.setCell ⟨S, 0, none⟩ v').alloc O).alloc O2).heap[w.heap.size]? = some O := by
  rw [Lib.alloc_old _ _ _ (by simp)]
  have hs : (w.setCell ⟨S, 0, none⟩ v').heap.size = w.heap.size := by simp
  rw [← hs]; exact alloc_new3 _ _
theorem take_grown (w : World) (S : Nat) (v' : Value) (O O2 : Obj) : w.grownBy (((w.setCell ⟨S, 0, none⟩ v').alloc O).alloc O2) (some S) :=
  (grown_at (⟨rfl, rfl, rfl, Nat.le_refl _, fun _ _ _ => rfl⟩ : w.grownBy w none) 0 v').trans ((World.grownBy_alloc _ O (some S)).trans (World.grownBy_alloc _ O2 (some S)))
theorem take_sat {w : World} {S : Nat} {v : Value} {E : Nat} {br : Bool} (h : SAt w S v E br) (v' : Value) (O O2 : Obj) : SAt (((w.setCell ⟨S, 0, none⟩ v').alloc O).alloc O2) S v' E br := by
  have hlt := h.lt
  unfold SAt
  rw [Lib.alloc_old _ _ _ (by simp; omega), Lib.alloc_old _ _ _ (by simpa using hlt)]
  exact heap_setCell_same w S 0 _ _ _ h
theorem take_lies {w : World} {S : Nat} {v : Value} {E : Nat} {br : Bool} {r : List Tok} {v1 : Value} (h : SAt w S v E br) (hr : TLies w r v1) (v' : Value) (O O2 : Obj) : TLies (((w.setCell ⟨S, 0, none⟩ v').alloc O).alloc O2) r v1 := hr.grown h (take_grown w S v' O O2)
set_option maxHeartbeats 1000000 in
set_option maxRecDepth 20000 in
theorem take_any (S : Nat) (v : Value) (E : Nat) (br : Bool) (ts : List Tok) (k : Nat) (w : World) (hS : SAt w S v E br) (hv : TLies w ts v) : Calls Tryd.prog 66 #[.pointer (some ⟨S, 0, none⟩), .int .i64 k] w (TakeGives S E br w (takeT E k ts)) := by
  have hlt := hS.lt
  have HGA := Lib.hid (World.grownBy_alloc w (.cells #[.int .i64 0, .string ⟨#[]⟩, .int .i64 0] 97) none)
  have HSA := Lib.hid (show SAt (w.alloc (.cells #[.int .i64 0, .string ⟨#[]⟩, .int .i64 0] 97)) S v E br from (Lib.alloc_old _ _ _ hlt).trans hS)
  have HVA := Lib.hid (hv.grown hS (World.grownBy_alloc w (.cells #[.int .i64 0, .string ⟨#[]⟩, .int .i64 0] 97) (some S)))
  match ts, hv, HVA with
  | [], hv, HVA =>
    have hk : takeT E k [] = .error E := rfl
    rw [hk]
    clear hv hS
    go_enter Tryd.func66, Tryd.ntmps66
    go_wp2_with fail
    refine (next_tok _ _ _ _ _ _ _ HSA.out HVA.out).mono ?_
    rintro e w1 ⟨rfl, rfl⟩
    go_wp2_with fail
    refine (here_any _ _ _ _ _ _ HSA.out HVA.out).mono ?_
    rintro e w1 ⟨rfl, rfl⟩
    go_wp2_with fail
    refine (fail_any _ _).mono ?_
    rintro e w1 ⟨rfl, rfl⟩
    unfold faultP
    go_wp2
    exact ⟨rfl, rfl, World.grownBy_alloc _ _ _⟩
  | t :: r, hv, HVA =>
    by_cases hk : t.k = k
    · have hk1 : takeT E k (t :: r) = .ok (t, r) := if_pos hk
      rw [hk1]
      have hkb : ((t :: r).head?.map fun t => t.k == k).getD false = true := by simpa using hk
      have HKB := Lib.hid hkb
      obtain ⟨g, o, cap, rfl, hc, hm, x0, x1, x2, hg, hr⟩ := HVA.out.cons
      have c0 : (w.alloc (.cells #[.int .i64 0, .string ⟨#[]⟩, .int .i64 0] 97)).cell? ⟨S, 0, none⟩ = some (.slice (some ⟨g, o, none⟩) (r.length + 1) cap) := by rw [Lib.cell_of_heap HSA.out]; rfl
      have HS := Lib.hid hS
      have HV := Lib.hid hv
      have HR0 := Lib.hid (show TLies w r (.slice (some ⟨g, o + 3, none⟩) r.length (cap - 1)) from by obtain ⟨g', o', cap', e, _, _, _, _, _, _, hq⟩ := hv.cons; simp only [Value.slice.injEq, Option.some.injEq, Addr.mk.injEq, and_true] at e; obtain ⟨⟨rfl, rfl⟩, -, rfl⟩ := e; exact hq)
      have f0 : w.frozen? ⟨S, 0, none⟩ = false := Lib.frozen_of_heap hS 0
      obtain ⟨du, hu1, hu2⟩ := under_tok
      unfold maxLen at hm
      clear hv hS hk hkb hr hk1
      go_enter Tryd.func66, Tryd.ntmps66
      go_wp2_with fail
      refine (next_tok _ _ _ _ _ _ _ HSA.out HVA.out).mono ?_
      rintro e w1 ⟨rfl, rfl⟩
      rw [HKB.out]
      rcases Nat.lt_or_ge 1 cap with hcap | hcap
      · go_wp2_with fail
        refine bodyPost_ret (results_cell_row rfl _ _ w.heap.size _ _ _ du rfl (take_heap _ _ _ _ _) hu1 (by cases du <;> first | rfl | exact hu2) size_tok) rfl ?_
        exact ⟨rfl, take_grown _ _ _ _ _, _, take_sat HS.out _ _ _, take_lies HS.out (HR0.out) _ _ _⟩
      · have hcap1 : cap = 1 := by omega
        have hr0 : r = [] := List.eq_nil_of_length_eq_zero (by omega)
        subst hcap1 hr0
        go_wp2_with fail
        refine bodyPost_ret (results_cell_row rfl _ _ w.heap.size _ _ _ du rfl (take_heap _ _ _ _ _) hu1 (by cases du <;> first | rfl | exact hu2) size_tok) rfl ?_
        exact ⟨rfl, take_grown _ _ _ _ _, _, take_sat HS.out _ _ _, take_lies HS.out (⟨_, _, rfl, Nat.le_refl _, Nat.zero_le _, Or.inl rfl⟩) _ _ _⟩
    · have hk1 : takeT E k (t :: r) = .error t.at_ := if_neg hk
      rw [hk1]
      have hkb : ((t :: r).head?.map fun t => t.k == k).getD false = false := by simpa using hk
      have HKB := Lib.hid hkb
      clear hv hS hk hkb
      go_enter Tryd.func66, Tryd.ntmps66
      go_wp2_with fail
      refine (next_tok _ _ _ _ _ _ _ HSA.out HVA.out).mono ?_
      rintro e w1 ⟨rfl, rfl⟩
      rw [HKB.out]
      go_wp2_with fail
      refine (here_any _ _ _ _ _ _ HSA.out HVA.out).mono ?_
      rintro e w1 ⟨rfl, rfl⟩
      go_wp2_with fail
      refine (fail_any _ _).mono ?_
      rintro e w1 ⟨rfl, rfl⟩
      unfold faultP
      go_wp2
      exact ⟨rfl, rfl, World.grownBy_alloc _ _ _⟩
end Go.Proofs.YtllkackipdcekaaDoor
