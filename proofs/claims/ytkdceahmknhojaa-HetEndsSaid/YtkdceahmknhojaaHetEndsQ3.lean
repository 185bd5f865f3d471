/-
  Facts and contracts that the proof of HetEnds uses.
-/
import Derived.Test.YtkdceahmknhojaaRows
import Derived.WalkKit
import Derived.Lib.Hide
import Derived.KernelRfl
import Derived.Deep.RegionWith
import Derived.Deep.RegionHeld3
import Derived.Deep.AppendLies
import Derived.Laws.Rows
import Derived.Laws.IdiomCopy
import Derived.Deep.Slices
import Derived.Lib.QuietBelow
import Derived.StillTailTactics
import Derived.BigQuiet
import Derived.IntWalk
import Derived.OwnWalk
import Derived.Deep.RegionLaw
import Derived.Deep.QuietTactic
import Derived.Deep.LoopGhost
import Derived.Deep.DeepCutAuto
import Derived.Deep.MidRow
import Derived.OrdersHeld
import Derived.Laws.Tables
import Derived.Laws.CopyOwn
import Derived.Laws.CopyRow
import Derived.Deep.RegionHeld
import Derived.ProofKit
import Derived.OpenShut
import Derived.Carry
import Derived.ChangeSlices
import Derived.JoinedOf
import Derived.Test.YtkdceahmknhojaaHetEndsQ2
namespace Go.Proofs.Ytkdceahmknhojaa
open Go.RowKit

def hturnr3_0 : Oper := { dst := some 8, op := Go.Op.fieldAddr 51 (Go.Operand.tmp 1) 0, type := 0, pos := "het.go:68", after := #[], guard := none }
def hturnr3_1 : Oper := { dst := some 9, op := Go.Op.load 3 (Go.Operand.tmp 8), type := 3, pos := "het.go:68", after := #[{ on := 0, ground := Go.Ground.data }], guard := none }
def hturnr3_2 : Oper := { dst := some 10, op := Go.Op.binOp Go.BinOp.add 3 (Go.Operand.tmp 9) (Go.Operand.const (Go.Value.int Go.IntKind.i64 1)) 3, type := 3, pos := "het.go:68", after := #[{ on := 1, ground := Go.Ground.data }], guard := none }
def hturnr3_3 : Oper := { dst := some 11, op := Go.Op.fieldAddr 51 (Go.Operand.tmp 1) 0, type := 0, pos := "het.go:68", after := #[], guard := none }
def hturnr3_4 : Oper := { dst := some 12, op := Go.Op.load 3 (Go.Operand.tmp 11), type := 3, pos := "het.go:68", after := #[{ on := 3, ground := Go.Ground.data }], guard := none }
def hturnr3_5 : Oper := { dst := some 13, op := Go.Op.call { callee := Go.Callee.value (Go.Operand.func 106), args := #[Go.Operand.tmp 12], argTypes := #[3] }, type := 32, pos := "het.go:68", after := #[{ on := 4, ground := Go.Ground.data }], guard := none }
def hturnr3_6 : Oper := { dst := some 14, op := Go.Op.fieldAddr 51 (Go.Operand.tmp 1) 0, type := 0, pos := "het.go:68", after := #[], guard := none }
def hturnr3_7 : Oper := { dst := some 15, op := Go.Op.load 3 (Go.Operand.tmp 14), type := 3, pos := "het.go:68", after := #[{ on := 6, ground := Go.Ground.data }], guard := none }
def hturnr3_8 : Oper := { dst := some 16, op := Go.Op.fieldAddr 51 (Go.Operand.tmp 1) 1, type := 0, pos := "het.go:68", after := #[], guard := none }
def hturnr3_9 : Oper := { dst := some 17, op := Go.Op.load 32 (Go.Operand.tmp 16), type := 32, pos := "het.go:68", after := #[{ on := 8, ground := Go.Ground.data }], guard := none }
def hturnr3_10 : Oper := { dst := some 18, op := Go.Op.fieldAddr 51 (Go.Operand.tmp 1) 3, type := 0, pos := "het.go:68", after := #[], guard := none }
def hturnr3_11 : Oper := { dst := some 19, op := Go.Op.load 32 (Go.Operand.tmp 18), type := 32, pos := "het.go:68", after := #[{ on := 10, ground := Go.Ground.data }], guard := none }
def hturnr3_12 : Oper := { dst := some 20, op := Go.Op.call { callee := Go.Callee.value (Go.Operand.func 100), args := #[Go.Operand.tmp 15, Go.Operand.tmp 17, Go.Operand.tmp 19], argTypes := #[3, 32, 32] }, type := 32, pos := "het.go:68", after := #[{ on := 7, ground := Go.Ground.data }, { on := 9, ground := Go.Ground.data }, { on := 11, ground := Go.Ground.data }, { on := 5, ground := Go.Ground.chain }], guard := none }
def hturnr3_13 : Oper := { dst := some 21, op := Go.Op.fieldAddr 51 (Go.Operand.tmp 1) 0, type := 0, pos := "het.go:68", after := #[], guard := none }
def hturnr3_14 : Oper := { dst := some 22, op := Go.Op.load 3 (Go.Operand.tmp 21), type := 3, pos := "het.go:68", after := #[{ on := 13, ground := Go.Ground.data }], guard := none }
def hturnr3_15 : Oper := { dst := some 23, op := Go.Op.fieldAddr 51 (Go.Operand.tmp 1) 2, type := 0, pos := "het.go:68", after := #[], guard := none }
def hturnr3_16 : Oper := { dst := some 24, op := Go.Op.load 32 (Go.Operand.tmp 23), type := 32, pos := "het.go:68", after := #[{ on := 15, ground := Go.Ground.data }], guard := none }
def hturnr3_17 : Oper := { dst := some 25, op := Go.Op.fieldAddr 51 (Go.Operand.tmp 1) 4, type := 0, pos := "het.go:68", after := #[], guard := none }
def hturnr3_18 : Oper := { dst := some 26, op := Go.Op.load 32 (Go.Operand.tmp 25), type := 32, pos := "het.go:68", after := #[{ on := 17, ground := Go.Ground.data }], guard := none }
def hturnr3_19 : Oper := { dst := some 27, op := Go.Op.call { callee := Go.Callee.value (Go.Operand.func 100), args := #[Go.Operand.tmp 22, Go.Operand.tmp 24, Go.Operand.tmp 26], argTypes := #[3, 32, 32] }, type := 32, pos := "het.go:68", after := #[{ on := 14, ground := Go.Ground.data }, { on := 16, ground := Go.Ground.data }, { on := 18, ground := Go.Ground.data }, { on := 12, ground := Go.Ground.chain }], guard := none }
def hturnr3_20 : Oper := { dst := some 28, op := Go.Op.fieldAddr 51 (Go.Operand.tmp 1) 5, type := 0, pos := "het.go:68", after := #[], guard := none }
def hturnr3_21 : Oper := { dst := some 29, op := Go.Op.load 32 (Go.Operand.tmp 28), type := 32, pos := "het.go:68", after := #[{ on := 20, ground := Go.Ground.data }], guard := none }
def hturnr3_22 : Oper := { dst := some 30, op := Go.Op.buildSlice 30 4 #[(0, Go.Operand.tmp 13), (1, Go.Operand.tmp 20), (2, Go.Operand.tmp 27), (3, Go.Operand.tmp 29)], type := 30, pos := "het.go:68", after := #[{ on := 5, ground := Go.Ground.data }, { on := 12, ground := Go.Ground.data }, { on := 19, ground := Go.Ground.data }, { on := 21, ground := Go.Ground.data }], guard := none }
def hturnr3_23 : Oper := { dst := some 31, op := Go.Op.call { callee := Go.Callee.value (Go.Operand.func 108), args := #[Go.Operand.const (Go.Value.int Go.IntKind.i64 3), Go.Operand.tmp 10, Go.Operand.tmp 30], argTypes := #[3, 3, 30] }, type := 32, pos := "het.go:68", after := #[{ on := 2, ground := Go.Ground.data }, { on := 22, ground := Go.Ground.data }, { on := 19, ground := Go.Ground.chain }], guard := none }
def hturnr3_24 : Oper := { dst := some 3, op := Go.Op.alloc 32, type := 0, pos := "het.go:68", after := #[], guard := none }
def hturnr3_25 : Oper := { dst := none, op := Go.Op.store 32 (Go.Operand.tmp 3) (Go.Operand.tmp 31), type := 0, pos := "het.go:68", after := #[{ on := 24, ground := Go.Ground.data }, { on := 23, ground := Go.Ground.data }, { on := 23, ground := Go.Ground.chain }, { on := 0, ground := Go.Ground.phase }, { on := 1, ground := Go.Ground.phase }, { on := 2, ground := Go.Ground.phase }, { on := 3, ground := Go.Ground.phase }, { on := 4, ground := Go.Ground.phase }, { on := 5, ground := Go.Ground.phase }, { on := 6, ground := Go.Ground.phase }, { on := 7, ground := Go.Ground.phase }, { on := 8, ground := Go.Ground.phase }, { on := 9, ground := Go.Ground.phase }, { on := 10, ground := Go.Ground.phase }, { on := 11, ground := Go.Ground.phase }, { on := 12, ground := Go.Ground.phase }, { on := 13, ground := Go.Ground.phase }, { on := 14, ground := Go.Ground.phase }, { on := 15, ground := Go.Ground.phase }, { on := 16, ground := Go.Ground.phase }, { on := 17, ground := Go.Ground.phase }, { on := 18, ground := Go.Ground.phase }, { on := 19, ground := Go.Ground.phase }, { on := 20, ground := Go.Ground.phase }, { on := 21, ground := Go.Ground.phase }, { on := 22, ground := Go.Ground.phase }, { on := 23, ground := Go.Ground.phase }, { on := 24, ground := Go.Ground.phase }], guard := none }
set_option maxRecDepth 20000 in
set_option maxHeartbeats 4000000 in
theorem hturn_any (h : He) (P : Nat → Prop) (w : World) (sha : Value) (shb : Value) (shx : Value) (shy : Value) (shh : Value) (hfh : h.fine) (hlh : HQ w P h sha shb shx shy shh) : Calls Try.prog 37 #[hv h sha shb shx shy shh] w (GivesHP P (heTurn h) w) := by
  have Gh := Lib.hid hfh
  clear hfh
  obtain ⟨hlha, hlhb, hlhx, hlhy, hlhh⟩ := hlh
  obtain ⟨aha, cha, Sha, rfl, -⟩ := hlha.out
  obtain ⟨ahb, chb, Shb, rfl, -⟩ := hlhb.out
  obtain ⟨ahx, chx, Shx, rfl, -⟩ := hlhx.out
  obtain ⟨ahy, chy, Shy, rfl, -⟩ := hlhy.out
  obtain ⟨ahh, chh, Shh, rfl, -⟩ := hlhh.out
  obtain ⟨du, hu1, hu2⟩ := under_term
  obtain ⟨dh, dh1, dh2⟩ := under_of 51 (by kernel_rfl)
  unfold hv
  go_enter Try.func37, Try.ntmps37
  go_upto_region 1 with fail
  refine at_code (fun V0 hV0 => ?_)
  obtain ⟨k3, x1, x2, z4⟩ := alloc2 hV0
  have Kk5 := Lib.hid k3
  clear k3
  have Hx1 := Lib.hid x1
  have Hx2 := Lib.hid x2
  have Z0 := Lib.hid z4
  clear z4 x1 x2 hV0
  have HLha : Hid (LiesQ V0 (Par w V0.heap.size [] P) h.a.kids _) := (par_in _ _ hlha).later Kk5.out
  clear hlha
  have HLhb : Hid (LiesQ V0 (Par w V0.heap.size [] P) h.b.kids _) := (par_in _ _ hlhb).later Kk5.out
  clear hlhb
  have HLhx : Hid (LiesQ V0 (Par w V0.heap.size [] P) h.x.kids _) := (par_in _ _ hlhx).later Kk5.out
  clear hlhx
  have HLhy : Hid (LiesQ V0 (Par w V0.heap.size [] P) h.y.kids _) := (par_in _ _ hlhy).later Kk5.out
  clear hlhy
  have HLhh : Hid (LiesQ V0 (Par w V0.heap.size [] P) h.h.kids _) := (par_in _ _ hlhh).later Kk5.out
  clear hlhh
  have ld6 := part_cell (r := (w.heap.size + 1)) Hx1.out (by have := Z0.out; omega) 0 (.int .i64 h.i) rfl
  have kvV0 : Sees V0 (w.heap.size + 1) V0 := sees_kept _ (kept_refl _)
  go_wp2_with (refine stop_load 51 (.tmp 1) rfl ?_)
  intro _
  refine wpList_load_part (w.heap.size) 0 51 (.tmp 1) #[.int .i64 h.i, .int .i64 h.a.k, .int .i64 h.a.i, .int .i64 h.a.j, .int .i64 h.a.n, (.slice aha h.a.kids.length cha), .int .i64 h.b.k, .int .i64 h.b.i, .int .i64 h.b.j, .int .i64 h.b.n, (.slice ahb h.b.kids.length chb), .int .i64 h.x.k, .int .i64 h.x.i, .int .i64 h.x.j, .int .i64 h.x.n, (.slice ahx h.x.kids.length chx), .int .i64 h.y.k, .int .i64 h.y.i, .int .i64 h.y.j, .int .i64 h.y.n, (.slice ahy h.y.kids.length chy), .int .i64 h.h.k, .int .i64 h.h.i, .int .i64 h.h.j, .int .i64 h.h.n, (.slice ahh h.h.kids.length chh)] dh Hx1.out (by rfl) rfl (by rfl) (by rfl) dh1 (by cases dh <;> first | rfl | exact dh2) (by kernel_rfl) ?_
  go_wp2_with fail
  clear kvV0
  refine (hrightHet_any h (Par w V0.heap.size [] P) _ (.slice aha h.a.kids.length cha) (.slice ahb h.b.kids.length chb) (.slice ahx h.x.kids.length chx) (.slice ahy h.y.kids.length chy) (.slice ahh h.h.kids.length chh) ⟨Gh.out.1, Gh.out.2.1, Gh.out.2.2.1, Gh.out.2.2.2.1, Gh.out.2.2.2.2.1, Gh.out.2.2.2.2.2⟩ ⟨HLha.out, HLhb.out, HLhx.out, HLhy.out, HLhh.out⟩).mono ?_
  obtain ⟨rb10, hb9⟩ : ∃ qb, heR h = qb := ⟨_, rfl⟩
  rw [hb9]
  have Hhb9 := Lib.hid hb9
  clear hb9
  rintro e w7 ⟨rfl, k8⟩
  have Kk11 := Lib.hid k8
  clear k8
  cases rb10 with
  | false =>
    have kvV0 : Sees V0 (w.heap.size + 1) w7 := sees_kept _ Kk11.out
    go_wp2_with (refine stop_store 51 (.tmp 2) (.tmp 7) rfl ?_)
    intro _
    refine wpList_store_part_n (by rfl) 51 (.tmp 2) (.tmp 7) rfl (w.heap.size + 1) 0 #[.int .i64 0, .int .i64 0, .int .i64 0, .int .i64 0, .int .i64 0, .slice none 0 0, .int .i64 0, .int .i64 0, .int .i64 0, .int .i64 0, .slice none 0 0, .int .i64 0, .int .i64 0, .int .i64 0, .int .i64 0, .slice none 0 0, .int .i64 0, .int .i64 0, .int .i64 0, .int .i64 0, .slice none 0 0, .int .i64 0, .int .i64 0, .int .i64 0, .int .i64 0, .slice none 0 0] (by rfl) (by rfl) 51 (by kernel_rfl) (row_ok rfl) ?_
    intro W12 hW12
    clear kvV0
    subst hW12
    refine ⟨_, #[.int .i64 0, .int .i64 0, .int .i64 0, .int .i64 0, .int .i64 0, .slice none 0 0, .int .i64 0, .int .i64 0, .int .i64 0, .int .i64 0, .slice none 0 0, .int .i64 0, .int .i64 0, .int .i64 0, .int .i64 0, .slice none 0 0, .int .i64 0, .int .i64 0, .int .i64 0, .int .i64 0, .slice none 0 0, .int .i64 0, .int .i64 0, .int .i64 0, .int .i64 0, .slice none 0 0], (blk_at Hx2.out Kk11.out), rfl, Nat.le_of_ble_eq_true rfl, ?_⟩
    intro W13 hW13
    go_wp2_with fail
    refine bodyPost_ret (results_cell_row rfl _ _ (w.heap.size + 1) 51 _ _ dh rfl (blk_same (blk_at Hx2.out Kk11.out) hW13) dh1 (by cases dh <;> first | rfl | exact dh2) (by kernel_rfl)) rfl ?_
    rw [show heTurn h = (⟨0, (.mk 0 0 0 0 []), (.mk 0 0 0 0 []), (.mk 0 0 0 0 []), (.mk 0 0 0 0 []), (.mk 0 0 0 0 [])⟩ : He) from by unfold heTurn; rw [Hhb9.out]; (try rfl)]
    exact ⟨_, _, _, _, _, rfl, ⟨par_end (par_row' (liesQ_nil w7 (Par w V0.heap.size [] P)) hW13 (by omega) (by have := Z0.out; omega)) (by have := Z0.out; omega), par_end (par_row' (liesQ_nil w7 (Par w V0.heap.size [] P)) hW13 (by omega) (by have := Z0.out; omega)) (by have := Z0.out; omega), par_end (par_row' (liesQ_nil w7 (Par w V0.heap.size [] P)) hW13 (by omega) (by have := Z0.out; omega)) (by have := Z0.out; omega), par_end (par_row' (liesQ_nil w7 (Par w V0.heap.size [] P)) hW13 (by omega) (by have := Z0.out; omega)) (by have := Z0.out; omega), par_end (par_row' (liesQ_nil w7 (Par w V0.heap.size [] P)) hW13 (by omega) (by have := Z0.out; omega)) (by have := Z0.out; omega)⟩, kept_set (kept_trans Kk5.out Kk11.out) hW13 (by omega)⟩
  | true =>
    have ew14 : IntKind.i64.wrap (h.i + 1) = h.i + 1 := IntWalk.i64_in _ (by have := levN_true (heR_lev Hhb9.out); omega)
    have kvV0 : Sees V0 (w.heap.size + 1) w7 := sees_kept _ Kk11.out
    go_wp2_with fail
    clear kvV0
    obtain ⟨W15, h16⟩ : ∃ x, World.drew w7 = x := ⟨_, rfl⟩
    have k17 : Kept w7 W15 := by rw [← h16]; exact kept_drew (kept_refl _)
    have Kk18 := Lib.hid k17
    clear k17
    refine wp_region_held_drew (S := Sees W15 (w.heap.size + 1)) (by kernel_rfl) ?_ (fun hHeld => ?_)
    · (try dsimp only)
      rw [h16]
      exact sees_kept _ (kept_refl _)
    rw [h16] at hHeld ⊢
    clear h16
    refine take_at 0 8 hturnr3_0 (v := ?_) (Or.inl ⟨by rfl, ?_⟩) ?_
    rotate_left 1
    · ((intro w hSw; (try dsimp only at hSw); unfold hturnr3_0; go_simp) <;> with_reducible rfl)
    (try simp only [Act.put, List.setIfInBounds_toArray, List.set_cons_zero, List.set_cons_succ])
    refine take_at 1 9 hturnr3_1 (v := ?_) (Or.inl ⟨by rfl, ?_⟩) ?_
    rotate_left 1
    · ((intro w hSw; (try dsimp only at hSw); have qV0 := sees_of (kept_trans Kk11.out Kk18.out) hSw; unfold hturnr3_1; go_simp) <;> with_reducible rfl)
    (try simp only [Act.put, List.setIfInBounds_toArray, List.set_cons_zero, List.set_cons_succ])
    refine take_at 2 10 hturnr3_2 (v := ?_) (Or.inl ⟨by rfl, ?_⟩) ?_
    rotate_left 1
    · ((intro w hSw; (try dsimp only at hSw); unfold hturnr3_2; go_simp) <;> with_reducible rfl)
    (try simp only [Act.put, List.setIfInBounds_toArray, List.set_cons_zero, List.set_cons_succ])
    refine take_at 3 11 hturnr3_3 (v := ?_) (Or.inl ⟨by rfl, ?_⟩) ?_
    rotate_left 1
    · ((intro w hSw; (try dsimp only at hSw); unfold hturnr3_3; go_simp) <;> with_reducible rfl)
    (try simp only [Act.put, List.setIfInBounds_toArray, List.set_cons_zero, List.set_cons_succ])
    refine take_at 4 12 hturnr3_4 (v := ?_) (Or.inl ⟨by rfl, ?_⟩) ?_
    rotate_left 1
    · ((intro w hSw; (try dsimp only at hSw); have qV0 := sees_of (kept_trans Kk11.out Kk18.out) hSw; unfold hturnr3_4; go_simp) <;> with_reducible rfl)
    (try simp only [Act.put, List.setIfInBounds_toArray, List.set_cons_zero, List.set_cons_succ])
    refine take_at 6 14 hturnr3_6 (v := ?_) (Or.inl ⟨by rfl, ?_⟩) ?_
    rotate_left 1
    · ((intro w hSw; (try dsimp only at hSw); unfold hturnr3_6; go_simp) <;> with_reducible rfl)
    (try simp only [Act.put, List.setIfInBounds_toArray, List.set_cons_zero, List.set_cons_succ])
    refine take_at 7 15 hturnr3_7 (v := ?_) (Or.inl ⟨by rfl, ?_⟩) ?_
    rotate_left 1
    · ((intro w hSw; (try dsimp only at hSw); have qV0 := sees_of (kept_trans Kk11.out Kk18.out) hSw; unfold hturnr3_7; go_simp) <;> with_reducible rfl)
    (try simp only [Act.put, List.setIfInBounds_toArray, List.set_cons_zero, List.set_cons_succ])
    refine take_at 8 16 hturnr3_8 (v := ?_) (Or.inl ⟨by rfl, ?_⟩) ?_
    rotate_left 1
    · ((intro w hSw; (try dsimp only at hSw); unfold hturnr3_8; go_simp) <;> with_reducible rfl)
    (try simp only [Act.put, List.setIfInBounds_toArray, List.set_cons_zero, List.set_cons_succ])
    refine take_at 9 17 hturnr3_9 (yields_part (w.heap.size) 1 32 (.tmp 16) #[.int .i64 h.a.k, .int .i64 h.a.i, .int .i64 h.a.j, .int .i64 h.a.n, (.slice aha h.a.kids.length cha)] du (fun _ h => sees_blk Hx1.out (by have := Z0.out; omega) (sees_of (kept_trans Kk11.out Kk18.out) h)) (by rfl) rfl (by rfl) (by rfl) hu1 (by cases du <;> first | rfl | exact hu2) size_term) ?_
    (try simp only [Act.put, List.setIfInBounds_toArray, List.set_cons_zero, List.set_cons_succ])
    refine take_at 10 18 hturnr3_10 (v := ?_) (Or.inl ⟨by rfl, ?_⟩) ?_
    rotate_left 1
    · ((intro w hSw; (try dsimp only at hSw); unfold hturnr3_10; go_simp) <;> with_reducible rfl)
    (try simp only [Act.put, List.setIfInBounds_toArray, List.set_cons_zero, List.set_cons_succ])
    refine take_at 11 19 hturnr3_11 (yields_part (w.heap.size) 11 32 (.tmp 18) #[.int .i64 h.x.k, .int .i64 h.x.i, .int .i64 h.x.j, .int .i64 h.x.n, (.slice ahx h.x.kids.length chx)] du (fun _ h => sees_blk Hx1.out (by have := Z0.out; omega) (sees_of (kept_trans Kk11.out Kk18.out) h)) (by rfl) rfl (by rfl) (by rfl) hu1 (by cases du <;> first | rfl | exact hu2) size_term) ?_
    (try simp only [Act.put, List.setIfInBounds_toArray, List.set_cons_zero, List.set_cons_succ])
    refine take_at 13 21 hturnr3_13 (v := ?_) (Or.inl ⟨by rfl, ?_⟩) ?_
    rotate_left 1
    · ((intro w hSw; (try dsimp only at hSw); unfold hturnr3_13; go_simp) <;> with_reducible rfl)
    (try simp only [Act.put, List.setIfInBounds_toArray, List.set_cons_zero, List.set_cons_succ])
    refine take_at 14 22 hturnr3_14 (v := ?_) (Or.inl ⟨by rfl, ?_⟩) ?_
    rotate_left 1
    · ((intro w hSw; (try dsimp only at hSw); have qV0 := sees_of (kept_trans Kk11.out Kk18.out) hSw; unfold hturnr3_14; go_simp) <;> with_reducible rfl)
    (try simp only [Act.put, List.setIfInBounds_toArray, List.set_cons_zero, List.set_cons_succ])
    refine take_at 15 23 hturnr3_15 (v := ?_) (Or.inl ⟨by rfl, ?_⟩) ?_
    rotate_left 1
    · ((intro w hSw; (try dsimp only at hSw); unfold hturnr3_15; go_simp) <;> with_reducible rfl)
    (try simp only [Act.put, List.setIfInBounds_toArray, List.set_cons_zero, List.set_cons_succ])
    refine take_at 16 24 hturnr3_16 (yields_part (w.heap.size) 6 32 (.tmp 23) #[.int .i64 h.b.k, .int .i64 h.b.i, .int .i64 h.b.j, .int .i64 h.b.n, (.slice ahb h.b.kids.length chb)] du (fun _ h => sees_blk Hx1.out (by have := Z0.out; omega) (sees_of (kept_trans Kk11.out Kk18.out) h)) (by rfl) rfl (by rfl) (by rfl) hu1 (by cases du <;> first | rfl | exact hu2) size_term) ?_
    (try simp only [Act.put, List.setIfInBounds_toArray, List.set_cons_zero, List.set_cons_succ])
    refine take_at 17 25 hturnr3_17 (v := ?_) (Or.inl ⟨by rfl, ?_⟩) ?_
    rotate_left 1
    · ((intro w hSw; (try dsimp only at hSw); unfold hturnr3_17; go_simp) <;> with_reducible rfl)
    (try simp only [Act.put, List.setIfInBounds_toArray, List.set_cons_zero, List.set_cons_succ])
    refine take_at 18 26 hturnr3_18 (yields_part (w.heap.size) 16 32 (.tmp 25) #[.int .i64 h.y.k, .int .i64 h.y.i, .int .i64 h.y.j, .int .i64 h.y.n, (.slice ahy h.y.kids.length chy)] du (fun _ h => sees_blk Hx1.out (by have := Z0.out; omega) (sees_of (kept_trans Kk11.out Kk18.out) h)) (by rfl) rfl (by rfl) (by rfl) hu1 (by cases du <;> first | rfl | exact hu2) size_term) ?_
    (try simp only [Act.put, List.setIfInBounds_toArray, List.set_cons_zero, List.set_cons_succ])
    refine take_at 20 28 hturnr3_20 (v := ?_) (Or.inl ⟨by rfl, ?_⟩) ?_
    rotate_left 1
    · ((intro w hSw; (try dsimp only at hSw); unfold hturnr3_20; go_simp) <;> with_reducible rfl)
    (try simp only [Act.put, List.setIfInBounds_toArray, List.set_cons_zero, List.set_cons_succ])
    refine take_at 21 29 hturnr3_21 (yields_part (w.heap.size) 21 32 (.tmp 28) #[.int .i64 h.h.k, .int .i64 h.h.i, .int .i64 h.h.j, .int .i64 h.h.n, (.slice ahh h.h.kids.length chh)] du (fun _ h => sees_blk Hx1.out (by have := Z0.out; omega) (sees_of (kept_trans Kk11.out Kk18.out) h)) (by rfl) rfl (by rfl) (by rfl) hu1 (by cases du <;> first | rfl | exact hu2) size_term) ?_
    (try simp only [Act.put, List.setIfInBounds_toArray, List.set_cons_zero, List.set_cons_succ])
    refine wpAnyH_ready (rs := [5, 24]) (by kernel_rfl) (by simp) ?_
    refine AllReadyH.cons (o := hturnr3_5) rfl (fun K hK => ?_) ?_
    · unfold hturnr3_5
      go_simp
      refine (hpoints_any h.i (Par w V0.heap.size [] P) _ Gh.out.1).mono ?_
      obtain ⟨U26, hU26⟩ : ∃ qu, pointsT h.i = qu := ⟨_, rfl⟩
      rw [hU26]
      have HU26 := Lib.hid hU26
      clear hU26
      rintro e w19 ⟨s21, rfl, hl22, k20⟩
      obtain ⟨a23, c24, S25, rfl, -⟩ := hl22.out
      have Kk27 := Lib.hid k20
      clear k20
      have Hhl22 : Hid (LiesQ w19 (Par w V0.heap.size [] P) U26.kids _) := par_give hl22 (Below.size (kept_trans Kk11.out Kk18.out)) (xlt_nil _)
      clear hl22
      clear hHeld
      refine hK.out _ _ ?_ (fun hHeld => ?_)
      · (try dsimp only)
        exact sees_kept _ Kk27.out
      clear hK K
      (try simp only [Act.put, List.setIfInBounds_toArray, List.set_cons_zero, List.set_cons_succ])
      refine wpAnyH_ready (rs := [12, 24]) (by kernel_rfl) (by simp) ?_
      refine AllReadyH.cons (o := hturnr3_12) rfl (fun K hK => ?_) ?_
      · unfold hturnr3_12
        go_simp
        refine (hpoint_any h.i h.a h.x (Par w V0.heap.size [] P) _ (.slice aha h.a.kids.length cha) (.slice ahx h.x.kids.length chx) Gh.out.1 Gh.out.2.1 (HLha.out.later (kept_trans Kk11.out (kept_trans Kk18.out Kk27.out))) Gh.out.2.2.2.1 (HLhx.out.later (kept_trans Kk11.out (kept_trans Kk18.out Kk27.out))) (heR_pl Hhb9.out _ (by simp)) (heR_pl Hhb9.out _ (by simp))).mono ?_
        obtain ⟨U35, hU35⟩ : ∃ qu, pointT h.i h.a h.x = qu := ⟨_, rfl⟩
        rw [hU35]
        have HU35 := Lib.hid hU35
        clear hU35
        rintro e w28 ⟨s30, rfl, hl31, k29⟩
        obtain ⟨a32, c33, S34, rfl, -⟩ := hl31.out
        have Kk36 := Lib.hid k29
        clear k29
        have Hhl31 : Hid (LiesQ w28 (Par w V0.heap.size [] P) U35.kids _) := par_give hl31 (Below.size (kept_trans Kk11.out (kept_trans Kk18.out Kk27.out))) (xlt_nil _)
        clear hl31
        clear hHeld
        refine hK.out _ _ ?_ (fun hHeld => ?_)
        · (try dsimp only)
          exact sees_kept _ (kept_trans Kk27.out Kk36.out)
        clear hK K
        (try simp only [Act.put, List.setIfInBounds_toArray, List.set_cons_zero, List.set_cons_succ])
        refine wpAnyH_ready (rs := [19, 24]) (by kernel_rfl) (by simp) ?_
        refine AllReadyH.cons (o := hturnr3_19) rfl (fun K hK => ?_) ?_
        · unfold hturnr3_19
          go_simp
          refine (hpoint_any h.i h.b h.y (Par w V0.heap.size [] P) _ (.slice ahb h.b.kids.length chb) (.slice ahy h.y.kids.length chy) Gh.out.1 Gh.out.2.2.1 (HLhb.out.later (kept_trans Kk11.out (kept_trans Kk18.out (kept_trans Kk27.out Kk36.out)))) Gh.out.2.2.2.2.1 (HLhy.out.later (kept_trans Kk11.out (kept_trans Kk18.out (kept_trans Kk27.out Kk36.out)))) (heR_pl Hhb9.out _ (by simp)) (heR_pl Hhb9.out _ (by simp))).mono ?_
          obtain ⟨U44, hU44⟩ : ∃ qu, pointT h.i h.b h.y = qu := ⟨_, rfl⟩
          rw [hU44]
          have HU44 := Lib.hid hU44
          clear hU44
          rintro e w37 ⟨s39, rfl, hl40, k38⟩
          obtain ⟨a41, c42, S43, rfl, -⟩ := hl40.out
          have Kk45 := Lib.hid k38
          clear k38
          have Hhl40 : Hid (LiesQ w37 (Par w V0.heap.size [] P) U44.kids _) := par_give hl40 (Below.size (kept_trans Kk11.out (kept_trans Kk18.out (kept_trans Kk27.out Kk36.out)))) (xlt_nil _)
          clear hl40
          clear hHeld
          refine hK.out _ _ ?_ (fun hHeld => ?_)
          · (try dsimp only)
            exact sees_kept _ (kept_trans Kk27.out (kept_trans Kk36.out Kk45.out))
          clear hK K
          (try simp only [Act.put, List.setIfInBounds_toArray, List.set_cons_zero, List.set_cons_succ])
          refine wpAnyH_ready (rs := [22, 24]) (by kernel_rfl) (by simp) ?_
          refine AllReadyH.cons (o := hturnr3_22) rfl (fun K hK => ?_) ?_
          · unfold hturnr3_22
            go_simp
            refine at_K (fun W47 hW47 => ?_)
            obtain ⟨k49, x48, z50⟩ := alloc1 hW47
            have Kk51 := Lib.hid k49
            clear k49
            have Hx48 := Lib.hid x48
            have Hz50 := Lib.hid z50
            clear x48 z50 hW47
            have HR52 : Hid (LiesQ W47 (Par w V0.heap.size [] P) [U26, U35, U44, h.h] (.slice (some ⟨w37.heap.size, 0, none⟩) 4 4)) := q_row [(U26, (.slice a23 U26.kids.length c24)), (U35, (.slice a32 U35.kids.length c33)), (U44, (.slice a41 U44.kids.length c42)), (h.h, (.slice ahh h.h.kids.length chh))] _ rfl Hx48.out (par_new (Below.size (kept_trans Kk11.out (kept_trans Kk18.out (kept_trans Kk27.out (kept_trans Kk36.out Kk45.out))))) (xlt_nil _) (Nat.le_refl _)) (fun p hp => by
              simp only [List.mem_cons, List.not_mem_nil, or_false] at hp
              rcases hp with rfl | rfl | rfl | rfl
              · exact ⟨(by rw [← HU26.out]; exact (right_fine (plain_right (points_plain (heR_lev Hhb9.out))))), (Hhl22.out.later (kept_trans Kk36.out (kept_trans Kk45.out Kk51.out)))⟩
              · exact ⟨(by rw [← HU35.out]; exact (right_fine (plain_right (point_plain (heR_lev Hhb9.out) (heR_pl Hhb9.out _ (by simp)) (heR_pl Hhb9.out _ (by simp)))))), (Hhl31.out.later (kept_trans Kk45.out Kk51.out))⟩
              · exact ⟨(by rw [← HU44.out]; exact (right_fine (plain_right (point_plain (heR_lev Hhb9.out) (heR_pl Hhb9.out _ (by simp)) (heR_pl Hhb9.out _ (by simp)))))), (Hhl40.out.later Kk51.out)⟩
              · exact ⟨Gh.out.2.2.2.2.2, (HLhh.out.later (kept_trans Kk11.out (kept_trans Kk18.out (kept_trans Kk27.out (kept_trans Kk36.out (kept_trans Kk45.out Kk51.out))))))⟩) (Nat.le_of_ble_eq_true rfl)
            clear hHeld
            refine hK.out _ _ ?_ (fun hHeld => ?_)
            · (try dsimp only)
              exact sees_kept _ (kept_trans Kk27.out (kept_trans Kk36.out (kept_trans Kk45.out Kk51.out)))
            clear hK K
            (try simp only [Act.put, List.setIfInBounds_toArray, List.set_cons_zero, List.set_cons_succ])
            refine wpAnyH_ready (rs := [23, 24]) (by kernel_rfl) (by simp) ?_
            refine AllReadyH.cons (o := hturnr3_23) rfl (fun K hK => ?_) ?_
            · unfold hturnr3_23
              go_simp
              refine (huse_any 3 (h.i + 1) [U26, U35, U44, h.h] (Par w V0.heap.size [] P) _ _ (show I64 3 from by unfold I64; decide) (lev_succ (heR_lev Hhb9.out) (by decide)) HR52.out (fun x hx => by
                simp only [List.mem_cons, List.not_mem_nil, or_false] at hx
                rcases hx with rfl | rfl | rfl | rfl
                · exact (by rw [← HU26.out]; exact (points_plain (heR_lev Hhb9.out)))
                · exact (by rw [← HU35.out]; exact (point_plain (heR_lev Hhb9.out) (heR_pl Hhb9.out _ (by simp)) (heR_pl Hhb9.out _ (by simp))))
                · exact (by rw [← HU44.out]; exact (point_plain (heR_lev Hhb9.out) (heR_pl Hhb9.out _ (by simp)) (heR_pl Hhb9.out _ (by simp))))
                · exact (heR_pl Hhb9.out _ (by simp))) (Nat.le_of_ble_eq_true rfl)).mono ?_
              obtain ⟨U60, hU60⟩ : ∃ qu, useT 3 (h.i + 1) 0 [U26, U35, U44, h.h] = qu := ⟨_, rfl⟩
              rw [hU60]
              have HU60 := Lib.hid hU60
              clear hU60
              rintro e w53 ⟨s55, rfl, hl56, k54⟩
              obtain ⟨a57, c58, S59, rfl, -⟩ := hl56.out
              have Kk61 := Lib.hid k54
              clear k54
              have Hhl56 : Hid (LiesQ w53 (Par w V0.heap.size [] P) U60.kids _) := par_give hl56 (Below.size (kept_trans Kk11.out (kept_trans Kk18.out (kept_trans Kk27.out (kept_trans Kk36.out (kept_trans Kk45.out Kk51.out)))))) (xlt_nil _)
              clear hl56
              clear hHeld
              refine hK.out _ _ ?_ (fun hHeld => ?_)
              · (try dsimp only)
                exact sees_kept _ (kept_trans Kk27.out (kept_trans Kk36.out (kept_trans Kk45.out (kept_trans Kk51.out Kk61.out))))
              clear hK K
              (try simp only [Act.put, List.setIfInBounds_toArray, List.set_cons_zero, List.set_cons_succ])
              refine wpAnyH_ready (rs := [24]) (by kernel_rfl) (by simp) ?_
              refine AllReadyH.cons (o := hturnr3_24) rfl (fun K hK => ?_) ?_
              · unfold hturnr3_24
                go_simp
                refine at_K (fun W62 hW62 => ?_)
                obtain ⟨k64, x63, z65⟩ := alloc1 hW62
                have Kk66 := Lib.hid k64
                clear k64
                have Hx63 := Lib.hid x63
                have Hz65 := Lib.hid z65
                clear x63 z65 hW62
                have HG67 : Hid (V0.heap.size ≤ w53.heap.size) := (Below.size (kept_trans Kk11.out (kept_trans Kk18.out (kept_trans Kk27.out (kept_trans Kk36.out (kept_trans Kk45.out (kept_trans Kk51.out Kk61.out)))))))
                have XL68 := Lib.hid (xlt_more (xlt_nil _) Kk66.out (by have := Hz65.out; omega))
                have HL69 : Hid (LiesQ W62 (Par w V0.heap.size (w53.heap.size :: []) P) h.a.kids _) := (par_more (HLha.out.later (kept_trans Kk11.out (kept_trans Kk18.out (kept_trans Kk27.out (kept_trans Kk36.out (kept_trans Kk45.out (kept_trans Kk51.out Kk61.out)))))))).later Kk66.out
                have HL70 : Hid (LiesQ W62 (Par w V0.heap.size (w53.heap.size :: []) P) h.b.kids _) := (par_more (HLhb.out.later (kept_trans Kk11.out (kept_trans Kk18.out (kept_trans Kk27.out (kept_trans Kk36.out (kept_trans Kk45.out (kept_trans Kk51.out Kk61.out)))))))).later Kk66.out
                have HL71 : Hid (LiesQ W62 (Par w V0.heap.size (w53.heap.size :: []) P) h.x.kids _) := (par_more (HLhx.out.later (kept_trans Kk11.out (kept_trans Kk18.out (kept_trans Kk27.out (kept_trans Kk36.out (kept_trans Kk45.out (kept_trans Kk51.out Kk61.out)))))))).later Kk66.out
                have HL72 : Hid (LiesQ W62 (Par w V0.heap.size (w53.heap.size :: []) P) h.y.kids _) := (par_more (HLhy.out.later (kept_trans Kk11.out (kept_trans Kk18.out (kept_trans Kk27.out (kept_trans Kk36.out (kept_trans Kk45.out (kept_trans Kk51.out Kk61.out)))))))).later Kk66.out
                have HL73 : Hid (LiesQ W62 (Par w V0.heap.size (w53.heap.size :: []) P) h.h.kids _) := (par_more (HLhh.out.later (kept_trans Kk11.out (kept_trans Kk18.out (kept_trans Kk27.out (kept_trans Kk36.out (kept_trans Kk45.out (kept_trans Kk51.out Kk61.out)))))))).later Kk66.out
                have HL74 : Hid (LiesQ W62 (Par w V0.heap.size (w53.heap.size :: []) P) U26.kids _) := (par_more (Hhl22.out.later (kept_trans Kk36.out (kept_trans Kk45.out (kept_trans Kk51.out Kk61.out))))).later Kk66.out
                have HL75 : Hid (LiesQ W62 (Par w V0.heap.size (w53.heap.size :: []) P) U35.kids _) := (par_more (Hhl31.out.later (kept_trans Kk45.out (kept_trans Kk51.out Kk61.out)))).later Kk66.out
                have HL76 : Hid (LiesQ W62 (Par w V0.heap.size (w53.heap.size :: []) P) U44.kids _) := (par_more (Hhl40.out.later (kept_trans Kk51.out Kk61.out))).later Kk66.out
                have HL77 : Hid (LiesQ W62 (Par w V0.heap.size (w53.heap.size :: []) P) [U26, U35, U44, h.h] _) := (par_more (HR52.out.later Kk61.out)).later Kk66.out
                have HL78 : Hid (LiesQ W62 (Par w V0.heap.size (w53.heap.size :: []) P) U60.kids _) := (par_more Hhl56.out).later Kk66.out
                clear hHeld
                refine hK.out _ _ ?_ (fun hHeld => ?_)
                · (try dsimp only)
                  exact sees_kept _ (kept_trans Kk27.out (kept_trans Kk36.out (kept_trans Kk45.out (kept_trans Kk51.out (kept_trans Kk61.out Kk66.out)))))
                clear hK K
                (try simp only [Act.put, List.setIfInBounds_toArray, List.set_cons_zero, List.set_cons_succ])
                refine wpAnyH_ready (rs := [25]) (by kernel_rfl) (by simp) ?_
                refine AllReadyH.cons (o := hturnr3_25) rfl (fun K hK => ?_) ?_
                · unfold hturnr3_25
                  refine step_store_part rfl 32 (.tmp 3) (.tmp 31) rfl (w53.heap.size) 0 #[.int .i64 U60.k, .int .i64 U60.i, .int .i64 U60.j, .int .i64 U60.n, (.slice a57 U60.kids.length c58)] rfl rfl 32 size_term (row_ok rfl) _ #[.int .i64 U60.k, .int .i64 U60.i, .int .i64 U60.j, .int .i64 U60.n, (.slice a57 U60.kids.length c58)] Hx63.out rfl (Nat.le_of_ble_eq_true rfl) ?_
                  intro W79 hW79
                  have KB80 := Lib.hid (kept_set (kept_trans Kk5.out (kept_trans Kk11.out (kept_trans Kk18.out (kept_trans Kk27.out (kept_trans Kk36.out (kept_trans Kk45.out (kept_trans Kk51.out (kept_trans Kk61.out Kk66.out)))))))) hW79 (by have := HG67.out; have := Z0.out; omega))
                  have KB81 := Lib.hid (kept_set (kept_trans Kk11.out (kept_trans Kk18.out (kept_trans Kk27.out (kept_trans Kk36.out (kept_trans Kk45.out (kept_trans Kk51.out (kept_trans Kk61.out Kk66.out))))))) hW79 HG67.out)
                  have KB82 := Lib.hid (kept_set (kept_trans Kk27.out (kept_trans Kk36.out (kept_trans Kk45.out (kept_trans Kk51.out (kept_trans Kk61.out Kk66.out))))) hW79 (Below.size (kept_trans Kk27.out (kept_trans Kk36.out (kept_trans Kk45.out (kept_trans Kk51.out Kk61.out))))))
                  have HL83 : Hid (LiesQ W79 (Par w V0.heap.size (w53.heap.size :: []) P) h.a.kids _) := par_set HL69.out hW79 (List.mem_cons_self ..) (by have := HG67.out; have := Z0.out; omega)
                  have HL84 : Hid (LiesQ W79 (Par w V0.heap.size (w53.heap.size :: []) P) h.b.kids _) := par_set HL70.out hW79 (List.mem_cons_self ..) (by have := HG67.out; have := Z0.out; omega)
                  have HL85 : Hid (LiesQ W79 (Par w V0.heap.size (w53.heap.size :: []) P) h.x.kids _) := par_set HL71.out hW79 (List.mem_cons_self ..) (by have := HG67.out; have := Z0.out; omega)
                  have HL86 : Hid (LiesQ W79 (Par w V0.heap.size (w53.heap.size :: []) P) h.y.kids _) := par_set HL72.out hW79 (List.mem_cons_self ..) (by have := HG67.out; have := Z0.out; omega)
                  have HL87 : Hid (LiesQ W79 (Par w V0.heap.size (w53.heap.size :: []) P) h.h.kids _) := par_set HL73.out hW79 (List.mem_cons_self ..) (by have := HG67.out; have := Z0.out; omega)
                  have HL88 : Hid (LiesQ W79 (Par w V0.heap.size (w53.heap.size :: []) P) U26.kids _) := par_set HL74.out hW79 (List.mem_cons_self ..) (by have := HG67.out; have := Z0.out; omega)
                  have HL89 : Hid (LiesQ W79 (Par w V0.heap.size (w53.heap.size :: []) P) U35.kids _) := par_set HL75.out hW79 (List.mem_cons_self ..) (by have := HG67.out; have := Z0.out; omega)
                  have HL90 : Hid (LiesQ W79 (Par w V0.heap.size (w53.heap.size :: []) P) U44.kids _) := par_set HL76.out hW79 (List.mem_cons_self ..) (by have := HG67.out; have := Z0.out; omega)
                  have HL91 : Hid (LiesQ W79 (Par w V0.heap.size (w53.heap.size :: []) P) [U26, U35, U44, h.h] _) := par_set HL77.out hW79 (List.mem_cons_self ..) (by have := HG67.out; have := Z0.out; omega)
                  have HL92 : Hid (LiesQ W79 (Par w V0.heap.size (w53.heap.size :: []) P) U60.kids _) := par_set HL78.out hW79 (List.mem_cons_self ..) (by have := HG67.out; have := Z0.out; omega)
                  have XL93 := Lib.hid (xlt_set XL68.out hW79)
                  have HX94 := Lib.hid (blk_same Hx63.out hW79)
                  clear hW79
                  clear hHeld
                  refine hK.out _ _ ?_ (fun hHeld => ?_)
                  · (try dsimp only)
                    exact sees_kept _ KB82.out
                  clear hK K
                  (try simp only [Act.put])
                  refine wpAnyH_done (by kernel_rfl) ?_ _
                  clear hHeld
                  have kvV0 : Sees V0 (w.heap.size + 1) W79 := sees_kept _ KB81.out
                  have kvW79 : Sees W79 (w.heap.size + 1) W79 := sees_kept _ (kept_refl _)
                  go_wp2_with (refine stop_load 32 (.tmp 34) rfl ?_)
                  intro _
                  refine wpList_load_part (w.heap.size) 6 32 (.tmp 34) #[.int .i64 h.b.k, .int .i64 h.b.i, .int .i64 h.b.j, .int .i64 h.b.n, (.slice ahb h.b.kids.length chb)] du (blk_at Hx1.out KB81.out) (by rfl) rfl (by rfl) (by rfl) hu1 (by cases du <;> first | rfl | exact hu2) size_term ?_
                  go_wp2_with (refine stop_load 32 (.tmp 36) rfl ?_)
                  intro _
                  refine wpList_load_part (w.heap.size) 1 32 (.tmp 36) #[.int .i64 h.a.k, .int .i64 h.a.i, .int .i64 h.a.j, .int .i64 h.a.n, (.slice aha h.a.kids.length cha)] du (blk_at Hx1.out KB81.out) (by rfl) rfl (by rfl) (by rfl) hu1 (by cases du <;> first | rfl | exact hu2) size_term ?_
                  go_wp2_with (refine stop_load 32 (.tmp 38) rfl ?_)
                  intro _
                  refine wpList_load_part (w.heap.size) 16 32 (.tmp 38) #[.int .i64 h.y.k, .int .i64 h.y.i, .int .i64 h.y.j, .int .i64 h.y.n, (.slice ahy h.y.kids.length chy)] du (blk_at Hx1.out KB81.out) (by rfl) rfl (by rfl) (by rfl) hu1 (by cases du <;> first | rfl | exact hu2) size_term ?_
                  go_wp2_with (refine stop_load 32 (.tmp 40) rfl ?_)
                  intro _
                  refine wpList_load_part (w.heap.size) 11 32 (.tmp 40) #[.int .i64 h.x.k, .int .i64 h.x.i, .int .i64 h.x.j, .int .i64 h.x.n, (.slice ahx h.x.kids.length chx)] du (blk_at Hx1.out KB81.out) (by rfl) rfl (by rfl) (by rfl) hu1 (by cases du <;> first | rfl | exact hu2) size_term ?_
                  go_wp2_with (refine stop_load 32 (.tmp 3) rfl ?_)
                  intro _
                  refine wpList_load_part (w53.heap.size) 0 32 (.tmp 3) #[.int .i64 U60.k, .int .i64 U60.i, .int .i64 U60.j, .int .i64 U60.n, (.slice a57 U60.kids.length c58)] du HX94.out (by rfl) rfl (by rfl) (by rfl) hu1 (by cases du <;> first | rfl | exact hu2) size_term ?_
                  go_wp2_with fail
                  clear kvV0
                  clear kvW79
                  refine (hfresh_any (⟨h.i, h.b, h.a, h.y, h.x, U60⟩ : He) (Par w V0.heap.size (w53.heap.size :: []) P) _ (.slice ahb h.b.kids.length chb) (.slice aha h.a.kids.length cha) (.slice ahy h.y.kids.length chy) (.slice ahx h.x.kids.length chx) (.slice a57 U60.kids.length c58) ⟨Gh.out.1, Gh.out.2.2.1, Gh.out.2.1, Gh.out.2.2.2.2.1, Gh.out.2.2.2.1, (by rw [← HU60.out]; exact (use_fine (show I64 3 from by unfold I64; decide) (lev_succ (heR_lev Hhb9.out) (by decide)) (by unfold I64; decide)))⟩ ⟨HL84.out, HL83.out, HL86.out, HL85.out, HL92.out⟩ (heR_pl Hhb9.out _ (by simp)) (heR_pl Hhb9.out _ (by simp)) (heR_pl Hhb9.out _ (by simp)) (heR_pl Hhb9.out _ (by simp))).mono ?_
                  obtain ⟨U97, hU97⟩ : ∃ qu, (⟨h.i, h.b, h.a, h.y, h.x, U60⟩ : He) = qu := ⟨_, rfl⟩
                  rw [hU97]
                  have HU97 := Lib.hid hU97
                  clear hU97
                  rintro e w95 ⟨s98, s99, s100, s101, s102, rfl, ⟨hl103, hl104, hl105, hl106, hl107⟩, k96⟩
                  obtain ⟨a108, c109, S110, rfl, -⟩ := hl103.out
                  obtain ⟨a111, c112, S113, rfl, -⟩ := hl104.out
                  obtain ⟨a114, c115, S116, rfl, -⟩ := hl105.out
                  obtain ⟨a117, c118, S119, rfl, -⟩ := hl106.out
                  obtain ⟨a120, c121, S122, rfl, -⟩ := hl107.out
                  have Kk123 := Lib.hid k96
                  clear k96
                  have Hhl103 : Hid (LiesQ w95 (Par w V0.heap.size (w53.heap.size :: []) P) U97.a.kids _) := par_give hl103 (Below.size KB81.out) XL93.out
                  have Hhl104 : Hid (LiesQ w95 (Par w V0.heap.size (w53.heap.size :: []) P) U97.b.kids _) := par_give hl104 (Below.size KB81.out) XL93.out
                  have Hhl105 : Hid (LiesQ w95 (Par w V0.heap.size (w53.heap.size :: []) P) U97.x.kids _) := par_give hl105 (Below.size KB81.out) XL93.out
                  have Hhl106 : Hid (LiesQ w95 (Par w V0.heap.size (w53.heap.size :: []) P) U97.y.kids _) := par_give hl106 (Below.size KB81.out) XL93.out
                  have Hhl107 : Hid (LiesQ w95 (Par w V0.heap.size (w53.heap.size :: []) P) U97.h.kids _) := par_give hl107 (Below.size KB81.out) XL93.out
                  clear hl103 hl104 hl105 hl106 hl107
                  have kvV0 : Sees V0 (w.heap.size + 1) w95 := sees_kept _ (kept_trans KB81.out Kk123.out)
                  have kvW79 : Sees W79 (w.heap.size + 1) w95 := sees_kept _ Kk123.out
                  go_wp2_with (refine stop_store 51 (.tmp 2) (.tmp 44) rfl ?_)
                  intro _
                  refine wpList_store_part_n (by rfl) 51 (.tmp 2) (.tmp 44) rfl (w.heap.size + 1) 0 #[.int .i64 U97.i, .int .i64 U97.a.k, .int .i64 U97.a.i, .int .i64 U97.a.j, .int .i64 U97.a.n, (.slice a108 U97.a.kids.length c109), .int .i64 U97.b.k, .int .i64 U97.b.i, .int .i64 U97.b.j, .int .i64 U97.b.n, (.slice a111 U97.b.kids.length c112), .int .i64 U97.x.k, .int .i64 U97.x.i, .int .i64 U97.x.j, .int .i64 U97.x.n, (.slice a114 U97.x.kids.length c115), .int .i64 U97.y.k, .int .i64 U97.y.i, .int .i64 U97.y.j, .int .i64 U97.y.n, (.slice a117 U97.y.kids.length c118), .int .i64 U97.h.k, .int .i64 U97.h.i, .int .i64 U97.h.j, .int .i64 U97.h.n, (.slice a120 U97.h.kids.length c121)] (by rfl) (by rfl) 51 (by kernel_rfl) (row_ok rfl) ?_
                  intro W124 hW124
                  clear kvV0
                  clear kvW79
                  subst hW124
                  refine ⟨_, #[.int .i64 U97.i, .int .i64 U97.a.k, .int .i64 U97.a.i, .int .i64 U97.a.j, .int .i64 U97.a.n, (.slice a108 U97.a.kids.length c109), .int .i64 U97.b.k, .int .i64 U97.b.i, .int .i64 U97.b.j, .int .i64 U97.b.n, (.slice a111 U97.b.kids.length c112), .int .i64 U97.x.k, .int .i64 U97.x.i, .int .i64 U97.x.j, .int .i64 U97.x.n, (.slice a114 U97.x.kids.length c115), .int .i64 U97.y.k, .int .i64 U97.y.i, .int .i64 U97.y.j, .int .i64 U97.y.n, (.slice a117 U97.y.kids.length c118), .int .i64 U97.h.k, .int .i64 U97.h.i, .int .i64 U97.h.j, .int .i64 U97.h.n, (.slice a120 U97.h.kids.length c121)], (blk_at Hx2.out (kept_trans KB81.out Kk123.out)), rfl, Nat.le_of_ble_eq_true rfl, ?_⟩
                  intro W125 hW125
                  go_wp2_with fail
                  refine bodyPost_ret (results_cell_row rfl _ _ (w.heap.size + 1) 51 _ _ dh rfl (blk_same (blk_at Hx2.out (kept_trans KB81.out Kk123.out)) hW125) dh1 (by cases dh <;> first | rfl | exact dh2) (by kernel_rfl)) rfl ?_
                  rw [show heTurn h = U97 from by unfold heTurn; rw [Hhb9.out]; rw [← HU97.out]; rw [← HU60.out]; rw [← HU44.out]; rw [← HU35.out]; rw [← HU26.out]; (try rfl)]
                  exact ⟨_, _, _, _, _, rfl, ⟨par_end (par_row' Hhl103.out hW125 (by omega) (by have := Z0.out; omega)) (by have := Z0.out; omega), par_end (par_row' Hhl104.out hW125 (by omega) (by have := Z0.out; omega)) (by have := Z0.out; omega), par_end (par_row' Hhl105.out hW125 (by omega) (by have := Z0.out; omega)) (by have := Z0.out; omega), par_end (par_row' Hhl106.out hW125 (by omega) (by have := Z0.out; omega)) (by have := Z0.out; omega), par_end (par_row' Hhl107.out hW125 (by omega) (by have := Z0.out; omega)) (by have := Z0.out; omega)⟩, kept_set (kept_trans KB80.out Kk123.out) hW125 (by omega)⟩
                exact AllReadyH.nil
              exact AllReadyH.nil
            refine AllReadyH.cons (o := hturnr3_24) rfl (fun K hK => ?_) ?_
            · unfold hturnr3_24
              go_simp
              refine at_K (fun W126 hW126 => ?_)
              obtain ⟨k128, x127, z129⟩ := alloc1 hW126
              have Kk130 := Lib.hid k128
              clear k128
              have Hx127 := Lib.hid x127
              have Hz129 := Lib.hid z129
              clear x127 z129 hW126
              have HG131 : Hid (V0.heap.size ≤ W47.heap.size) := (Below.size (kept_trans Kk11.out (kept_trans Kk18.out (kept_trans Kk27.out (kept_trans Kk36.out (kept_trans Kk45.out Kk51.out))))))
              have XL132 := Lib.hid (xlt_more (xlt_nil _) Kk130.out (by have := Hz129.out; omega))
              have HL133 : Hid (LiesQ W126 (Par w V0.heap.size (W47.heap.size :: []) P) h.a.kids _) := (par_more (HLha.out.later (kept_trans Kk11.out (kept_trans Kk18.out (kept_trans Kk27.out (kept_trans Kk36.out (kept_trans Kk45.out Kk51.out))))))).later Kk130.out
              have HL134 : Hid (LiesQ W126 (Par w V0.heap.size (W47.heap.size :: []) P) h.b.kids _) := (par_more (HLhb.out.later (kept_trans Kk11.out (kept_trans Kk18.out (kept_trans Kk27.out (kept_trans Kk36.out (kept_trans Kk45.out Kk51.out))))))).later Kk130.out
              have HL135 : Hid (LiesQ W126 (Par w V0.heap.size (W47.heap.size :: []) P) h.x.kids _) := (par_more (HLhx.out.later (kept_trans Kk11.out (kept_trans Kk18.out (kept_trans Kk27.out (kept_trans Kk36.out (kept_trans Kk45.out Kk51.out))))))).later Kk130.out
              have HL136 : Hid (LiesQ W126 (Par w V0.heap.size (W47.heap.size :: []) P) h.y.kids _) := (par_more (HLhy.out.later (kept_trans Kk11.out (kept_trans Kk18.out (kept_trans Kk27.out (kept_trans Kk36.out (kept_trans Kk45.out Kk51.out))))))).later Kk130.out
              have HL137 : Hid (LiesQ W126 (Par w V0.heap.size (W47.heap.size :: []) P) h.h.kids _) := (par_more (HLhh.out.later (kept_trans Kk11.out (kept_trans Kk18.out (kept_trans Kk27.out (kept_trans Kk36.out (kept_trans Kk45.out Kk51.out))))))).later Kk130.out
              have HL138 : Hid (LiesQ W126 (Par w V0.heap.size (W47.heap.size :: []) P) U26.kids _) := (par_more (Hhl22.out.later (kept_trans Kk36.out (kept_trans Kk45.out Kk51.out)))).later Kk130.out
              have HL139 : Hid (LiesQ W126 (Par w V0.heap.size (W47.heap.size :: []) P) U35.kids _) := (par_more (Hhl31.out.later (kept_trans Kk45.out Kk51.out))).later Kk130.out
              have HL140 : Hid (LiesQ W126 (Par w V0.heap.size (W47.heap.size :: []) P) U44.kids _) := (par_more (Hhl40.out.later Kk51.out)).later Kk130.out
              have HL141 : Hid (LiesQ W126 (Par w V0.heap.size (W47.heap.size :: []) P) [U26, U35, U44, h.h] _) := (par_more HR52.out).later Kk130.out
              clear hHeld
              refine hK.out _ _ ?_ (fun hHeld => ?_)
              · (try dsimp only)
                exact sees_kept _ (kept_trans Kk27.out (kept_trans Kk36.out (kept_trans Kk45.out (kept_trans Kk51.out Kk130.out))))
              clear hK K
              (try simp only [Act.put, List.setIfInBounds_toArray, List.set_cons_zero, List.set_cons_succ])
              refine wpAnyH_ready (rs := [23]) (by kernel_rfl) (by simp) ?_
              refine AllReadyH.cons (o := hturnr3_23) rfl (fun K hK => ?_) ?_
              · unfold hturnr3_23
                go_simp
                refine (huse_any 3 (h.i + 1) [U26, U35, U44, h.h] (Par w V0.heap.size (W47.heap.size :: []) P) _ _ (show I64 3 from by unfold I64; decide) (lev_succ (heR_lev Hhb9.out) (by decide)) HL141.out (fun x hx => by
                  simp only [List.mem_cons, List.not_mem_nil, or_false] at hx
                  rcases hx with rfl | rfl | rfl | rfl
                  · exact (by rw [← HU26.out]; exact (points_plain (heR_lev Hhb9.out)))
                  · exact (by rw [← HU35.out]; exact (point_plain (heR_lev Hhb9.out) (heR_pl Hhb9.out _ (by simp)) (heR_pl Hhb9.out _ (by simp))))
                  · exact (by rw [← HU44.out]; exact (point_plain (heR_lev Hhb9.out) (heR_pl Hhb9.out _ (by simp)) (heR_pl Hhb9.out _ (by simp))))
                  · exact (heR_pl Hhb9.out _ (by simp))) (Nat.le_of_ble_eq_true rfl)).mono ?_
                obtain ⟨U149, hU149⟩ : ∃ qu, useT 3 (h.i + 1) 0 [U26, U35, U44, h.h] = qu := ⟨_, rfl⟩
                rw [hU149]
                have HU149 := Lib.hid hU149
                clear hU149
                rintro e w142 ⟨s144, rfl, hl145, k143⟩
                obtain ⟨a146, c147, S148, rfl, -⟩ := hl145.out
                have Kk150 := Lib.hid k143
                clear k143
                have Hhl145 : Hid (LiesQ w142 (Par w V0.heap.size (W47.heap.size :: []) P) U149.kids _) := par_give hl145 (Below.size (kept_trans Kk11.out (kept_trans Kk18.out (kept_trans Kk27.out (kept_trans Kk36.out (kept_trans Kk45.out (kept_trans Kk51.out Kk130.out))))))) XL132.out
                clear hl145
                clear hHeld
                refine hK.out _ _ ?_ (fun hHeld => ?_)
                · (try dsimp only)
                  exact sees_kept _ (kept_trans Kk27.out (kept_trans Kk36.out (kept_trans Kk45.out (kept_trans Kk51.out (kept_trans Kk130.out Kk150.out)))))
                clear hK K
                (try simp only [Act.put, List.setIfInBounds_toArray, List.set_cons_zero, List.set_cons_succ])
                refine wpAnyH_ready (rs := [25]) (by kernel_rfl) (by simp) ?_
                refine AllReadyH.cons (o := hturnr3_25) rfl (fun K hK => ?_) ?_
                · unfold hturnr3_25
                  refine step_store_part rfl 32 (.tmp 3) (.tmp 31) rfl (W47.heap.size) 0 #[.int .i64 U149.k, .int .i64 U149.i, .int .i64 U149.j, .int .i64 U149.n, (.slice a146 U149.kids.length c147)] rfl rfl 32 size_term (row_ok rfl) _ #[.int .i64 U149.k, .int .i64 U149.i, .int .i64 U149.j, .int .i64 U149.n, (.slice a146 U149.kids.length c147)] (blk_at Hx127.out Kk150.out) rfl (Nat.le_of_ble_eq_true rfl) ?_
                  intro W151 hW151
                  have KB152 := Lib.hid (kept_set (kept_trans Kk5.out (kept_trans Kk11.out (kept_trans Kk18.out (kept_trans Kk27.out (kept_trans Kk36.out (kept_trans Kk45.out (kept_trans Kk51.out (kept_trans Kk130.out Kk150.out)))))))) hW151 (by have := HG131.out; have := Z0.out; omega))
                  have KB153 := Lib.hid (kept_set (kept_trans Kk11.out (kept_trans Kk18.out (kept_trans Kk27.out (kept_trans Kk36.out (kept_trans Kk45.out (kept_trans Kk51.out (kept_trans Kk130.out Kk150.out))))))) hW151 HG131.out)
                  have KB154 := Lib.hid (kept_set (kept_trans Kk27.out (kept_trans Kk36.out (kept_trans Kk45.out (kept_trans Kk51.out (kept_trans Kk130.out Kk150.out))))) hW151 (Below.size (kept_trans Kk27.out (kept_trans Kk36.out (kept_trans Kk45.out Kk51.out)))))
                  have HL155 : Hid (LiesQ W151 (Par w V0.heap.size (W47.heap.size :: []) P) h.a.kids _) := par_set (HL133.out.later Kk150.out) hW151 (List.mem_cons_self ..) (by have := HG131.out; have := Z0.out; omega)
                  have HL156 : Hid (LiesQ W151 (Par w V0.heap.size (W47.heap.size :: []) P) h.b.kids _) := par_set (HL134.out.later Kk150.out) hW151 (List.mem_cons_self ..) (by have := HG131.out; have := Z0.out; omega)
                  have HL157 : Hid (LiesQ W151 (Par w V0.heap.size (W47.heap.size :: []) P) h.x.kids _) := par_set (HL135.out.later Kk150.out) hW151 (List.mem_cons_self ..) (by have := HG131.out; have := Z0.out; omega)
                  have HL158 : Hid (LiesQ W151 (Par w V0.heap.size (W47.heap.size :: []) P) h.y.kids _) := par_set (HL136.out.later Kk150.out) hW151 (List.mem_cons_self ..) (by have := HG131.out; have := Z0.out; omega)
                  have HL159 : Hid (LiesQ W151 (Par w V0.heap.size (W47.heap.size :: []) P) h.h.kids _) := par_set (HL137.out.later Kk150.out) hW151 (List.mem_cons_self ..) (by have := HG131.out; have := Z0.out; omega)
                  have HL160 : Hid (LiesQ W151 (Par w V0.heap.size (W47.heap.size :: []) P) U26.kids _) := par_set (HL138.out.later Kk150.out) hW151 (List.mem_cons_self ..) (by have := HG131.out; have := Z0.out; omega)
                  have HL161 : Hid (LiesQ W151 (Par w V0.heap.size (W47.heap.size :: []) P) U35.kids _) := par_set (HL139.out.later Kk150.out) hW151 (List.mem_cons_self ..) (by have := HG131.out; have := Z0.out; omega)
                  have HL162 : Hid (LiesQ W151 (Par w V0.heap.size (W47.heap.size :: []) P) U44.kids _) := par_set (HL140.out.later Kk150.out) hW151 (List.mem_cons_self ..) (by have := HG131.out; have := Z0.out; omega)
                  have HL163 : Hid (LiesQ W151 (Par w V0.heap.size (W47.heap.size :: []) P) [U26, U35, U44, h.h] _) := par_set (HL141.out.later Kk150.out) hW151 (List.mem_cons_self ..) (by have := HG131.out; have := Z0.out; omega)
                  have HL164 : Hid (LiesQ W151 (Par w V0.heap.size (W47.heap.size :: []) P) U149.kids _) := par_set Hhl145.out hW151 (List.mem_cons_self ..) (by have := HG131.out; have := Z0.out; omega)
                  have XL165 := Lib.hid (xlt_set (xlt_later XL132.out Kk150.out) hW151)
                  have HX166 := Lib.hid (blk_same (blk_at Hx127.out Kk150.out) hW151)
                  clear hW151
                  clear hHeld
                  refine hK.out _ _ ?_ (fun hHeld => ?_)
                  · (try dsimp only)
                    exact sees_kept _ KB154.out
                  clear hK K
                  (try simp only [Act.put])
                  refine wpAnyH_done (by kernel_rfl) ?_ _
                  clear hHeld
                  have kvV0 : Sees V0 (w.heap.size + 1) W151 := sees_kept _ KB153.out
                  have kvW151 : Sees W151 (w.heap.size + 1) W151 := sees_kept _ (kept_refl _)
                  go_wp2_with (refine stop_load 32 (.tmp 34) rfl ?_)
                  intro _
                  refine wpList_load_part (w.heap.size) 6 32 (.tmp 34) #[.int .i64 h.b.k, .int .i64 h.b.i, .int .i64 h.b.j, .int .i64 h.b.n, (.slice ahb h.b.kids.length chb)] du (blk_at Hx1.out KB153.out) (by rfl) rfl (by rfl) (by rfl) hu1 (by cases du <;> first | rfl | exact hu2) size_term ?_
                  go_wp2_with (refine stop_load 32 (.tmp 36) rfl ?_)
                  intro _
                  refine wpList_load_part (w.heap.size) 1 32 (.tmp 36) #[.int .i64 h.a.k, .int .i64 h.a.i, .int .i64 h.a.j, .int .i64 h.a.n, (.slice aha h.a.kids.length cha)] du (blk_at Hx1.out KB153.out) (by rfl) rfl (by rfl) (by rfl) hu1 (by cases du <;> first | rfl | exact hu2) size_term ?_
                  go_wp2_with (refine stop_load 32 (.tmp 38) rfl ?_)
                  intro _
                  refine wpList_load_part (w.heap.size) 16 32 (.tmp 38) #[.int .i64 h.y.k, .int .i64 h.y.i, .int .i64 h.y.j, .int .i64 h.y.n, (.slice ahy h.y.kids.length chy)] du (blk_at Hx1.out KB153.out) (by rfl) rfl (by rfl) (by rfl) hu1 (by cases du <;> first | rfl | exact hu2) size_term ?_
                  go_wp2_with (refine stop_load 32 (.tmp 40) rfl ?_)
                  intro _
                  refine wpList_load_part (w.heap.size) 11 32 (.tmp 40) #[.int .i64 h.x.k, .int .i64 h.x.i, .int .i64 h.x.j, .int .i64 h.x.n, (.slice ahx h.x.kids.length chx)] du (blk_at Hx1.out KB153.out) (by rfl) rfl (by rfl) (by rfl) hu1 (by cases du <;> first | rfl | exact hu2) size_term ?_
                  go_wp2_with (refine stop_load 32 (.tmp 3) rfl ?_)
                  intro _
                  refine wpList_load_part (W47.heap.size) 0 32 (.tmp 3) #[.int .i64 U149.k, .int .i64 U149.i, .int .i64 U149.j, .int .i64 U149.n, (.slice a146 U149.kids.length c147)] du HX166.out (by rfl) rfl (by rfl) (by rfl) hu1 (by cases du <;> first | rfl | exact hu2) size_term ?_
                  go_wp2_with fail
                  clear kvV0
                  clear kvW151
                  refine (hfresh_any (⟨h.i, h.b, h.a, h.y, h.x, U149⟩ : He) (Par w V0.heap.size (W47.heap.size :: []) P) _ (.slice ahb h.b.kids.length chb) (.slice aha h.a.kids.length cha) (.slice ahy h.y.kids.length chy) (.slice ahx h.x.kids.length chx) (.slice a146 U149.kids.length c147) ⟨Gh.out.1, Gh.out.2.2.1, Gh.out.2.1, Gh.out.2.2.2.2.1, Gh.out.2.2.2.1, (by rw [← HU149.out]; exact (use_fine (show I64 3 from by unfold I64; decide) (lev_succ (heR_lev Hhb9.out) (by decide)) (by unfold I64; decide)))⟩ ⟨HL156.out, HL155.out, HL158.out, HL157.out, HL164.out⟩ (heR_pl Hhb9.out _ (by simp)) (heR_pl Hhb9.out _ (by simp)) (heR_pl Hhb9.out _ (by simp)) (heR_pl Hhb9.out _ (by simp))).mono ?_
                  obtain ⟨U169, hU169⟩ : ∃ qu, (⟨h.i, h.b, h.a, h.y, h.x, U149⟩ : He) = qu := ⟨_, rfl⟩
                  rw [hU169]
                  have HU169 := Lib.hid hU169
                  clear hU169
                  rintro e w167 ⟨s170, s171, s172, s173, s174, rfl, ⟨hl175, hl176, hl177, hl178, hl179⟩, k168⟩
                  obtain ⟨a180, c181, S182, rfl, -⟩ := hl175.out
                  obtain ⟨a183, c184, S185, rfl, -⟩ := hl176.out
                  obtain ⟨a186, c187, S188, rfl, -⟩ := hl177.out
                  obtain ⟨a189, c190, S191, rfl, -⟩ := hl178.out
                  obtain ⟨a192, c193, S194, rfl, -⟩ := hl179.out
                  have Kk195 := Lib.hid k168
                  clear k168
                  have Hhl175 : Hid (LiesQ w167 (Par w V0.heap.size (W47.heap.size :: []) P) U169.a.kids _) := par_give hl175 (Below.size KB153.out) XL165.out
                  have Hhl176 : Hid (LiesQ w167 (Par w V0.heap.size (W47.heap.size :: []) P) U169.b.kids _) := par_give hl176 (Below.size KB153.out) XL165.out
                  have Hhl177 : Hid (LiesQ w167 (Par w V0.heap.size (W47.heap.size :: []) P) U169.x.kids _) := par_give hl177 (Below.size KB153.out) XL165.out
                  have Hhl178 : Hid (LiesQ w167 (Par w V0.heap.size (W47.heap.size :: []) P) U169.y.kids _) := par_give hl178 (Below.size KB153.out) XL165.out
                  have Hhl179 : Hid (LiesQ w167 (Par w V0.heap.size (W47.heap.size :: []) P) U169.h.kids _) := par_give hl179 (Below.size KB153.out) XL165.out
                  clear hl175 hl176 hl177 hl178 hl179
                  have kvV0 : Sees V0 (w.heap.size + 1) w167 := sees_kept _ (kept_trans KB153.out Kk195.out)
                  have kvW151 : Sees W151 (w.heap.size + 1) w167 := sees_kept _ Kk195.out
                  go_wp2_with (refine stop_store 51 (.tmp 2) (.tmp 44) rfl ?_)
                  intro _
                  refine wpList_store_part_n (by rfl) 51 (.tmp 2) (.tmp 44) rfl (w.heap.size + 1) 0 #[.int .i64 U169.i, .int .i64 U169.a.k, .int .i64 U169.a.i, .int .i64 U169.a.j, .int .i64 U169.a.n, (.slice a180 U169.a.kids.length c181), .int .i64 U169.b.k, .int .i64 U169.b.i, .int .i64 U169.b.j, .int .i64 U169.b.n, (.slice a183 U169.b.kids.length c184), .int .i64 U169.x.k, .int .i64 U169.x.i, .int .i64 U169.x.j, .int .i64 U169.x.n, (.slice a186 U169.x.kids.length c187), .int .i64 U169.y.k, .int .i64 U169.y.i, .int .i64 U169.y.j, .int .i64 U169.y.n, (.slice a189 U169.y.kids.length c190), .int .i64 U169.h.k, .int .i64 U169.h.i, .int .i64 U169.h.j, .int .i64 U169.h.n, (.slice a192 U169.h.kids.length c193)] (by rfl) (by rfl) 51 (by kernel_rfl) (row_ok rfl) ?_
                  intro W196 hW196
                  clear kvV0
                  clear kvW151
                  subst hW196
                  refine ⟨_, #[.int .i64 U169.i, .int .i64 U169.a.k, .int .i64 U169.a.i, .int .i64 U169.a.j, .int .i64 U169.a.n, (.slice a180 U169.a.kids.length c181), .int .i64 U169.b.k, .int .i64 U169.b.i, .int .i64 U169.b.j, .int .i64 U169.b.n, (.slice a183 U169.b.kids.length c184), .int .i64 U169.x.k, .int .i64 U169.x.i, .int .i64 U169.x.j, .int .i64 U169.x.n, (.slice a186 U169.x.kids.length c187), .int .i64 U169.y.k, .int .i64 U169.y.i, .int .i64 U169.y.j, .int .i64 U169.y.n, (.slice a189 U169.y.kids.length c190), .int .i64 U169.h.k, .int .i64 U169.h.i, .int .i64 U169.h.j, .int .i64 U169.h.n, (.slice a192 U169.h.kids.length c193)], (blk_at Hx2.out (kept_trans KB153.out Kk195.out)), rfl, Nat.le_of_ble_eq_true rfl, ?_⟩
                  intro W197 hW197
                  go_wp2_with fail
                  refine bodyPost_ret (results_cell_row rfl _ _ (w.heap.size + 1) 51 _ _ dh rfl (blk_same (blk_at Hx2.out (kept_trans KB153.out Kk195.out)) hW197) dh1 (by cases dh <;> first | rfl | exact dh2) (by kernel_rfl)) rfl ?_
                  rw [show heTurn h = U169 from by unfold heTurn; rw [Hhb9.out]; rw [← HU169.out]; rw [← HU149.out]; rw [← HU44.out]; rw [← HU35.out]; rw [← HU26.out]; (try rfl)]
                  exact ⟨_, _, _, _, _, rfl, ⟨par_end (par_row' Hhl175.out hW197 (by omega) (by have := Z0.out; omega)) (by have := Z0.out; omega), par_end (par_row' Hhl176.out hW197 (by omega) (by have := Z0.out; omega)) (by have := Z0.out; omega), par_end (par_row' Hhl177.out hW197 (by omega) (by have := Z0.out; omega)) (by have := Z0.out; omega), par_end (par_row' Hhl178.out hW197 (by omega) (by have := Z0.out; omega)) (by have := Z0.out; omega), par_end (par_row' Hhl179.out hW197 (by omega) (by have := Z0.out; omega)) (by have := Z0.out; omega)⟩, kept_set (kept_trans KB152.out Kk195.out) hW197 (by omega)⟩
                exact AllReadyH.nil
              exact AllReadyH.nil
            exact AllReadyH.nil
          refine AllReadyH.cons (o := hturnr3_24) rfl (fun K hK => ?_) ?_
          · unfold hturnr3_24
            go_simp
            refine at_K (fun W198 hW198 => ?_)
            obtain ⟨k200, x199, z201⟩ := alloc1 hW198
            have Kk202 := Lib.hid k200
            clear k200
            have Hx199 := Lib.hid x199
            have Hz201 := Lib.hid z201
            clear x199 z201 hW198
            have HG203 : Hid (V0.heap.size ≤ w37.heap.size) := (Below.size (kept_trans Kk11.out (kept_trans Kk18.out (kept_trans Kk27.out (kept_trans Kk36.out Kk45.out)))))
            have XL204 := Lib.hid (xlt_more (xlt_nil _) Kk202.out (by have := Hz201.out; omega))
            have HL205 : Hid (LiesQ W198 (Par w V0.heap.size (w37.heap.size :: []) P) h.a.kids _) := (par_more (HLha.out.later (kept_trans Kk11.out (kept_trans Kk18.out (kept_trans Kk27.out (kept_trans Kk36.out Kk45.out)))))).later Kk202.out
            have HL206 : Hid (LiesQ W198 (Par w V0.heap.size (w37.heap.size :: []) P) h.b.kids _) := (par_more (HLhb.out.later (kept_trans Kk11.out (kept_trans Kk18.out (kept_trans Kk27.out (kept_trans Kk36.out Kk45.out)))))).later Kk202.out
            have HL207 : Hid (LiesQ W198 (Par w V0.heap.size (w37.heap.size :: []) P) h.x.kids _) := (par_more (HLhx.out.later (kept_trans Kk11.out (kept_trans Kk18.out (kept_trans Kk27.out (kept_trans Kk36.out Kk45.out)))))).later Kk202.out
            have HL208 : Hid (LiesQ W198 (Par w V0.heap.size (w37.heap.size :: []) P) h.y.kids _) := (par_more (HLhy.out.later (kept_trans Kk11.out (kept_trans Kk18.out (kept_trans Kk27.out (kept_trans Kk36.out Kk45.out)))))).later Kk202.out
            have HL209 : Hid (LiesQ W198 (Par w V0.heap.size (w37.heap.size :: []) P) h.h.kids _) := (par_more (HLhh.out.later (kept_trans Kk11.out (kept_trans Kk18.out (kept_trans Kk27.out (kept_trans Kk36.out Kk45.out)))))).later Kk202.out
            have HL210 : Hid (LiesQ W198 (Par w V0.heap.size (w37.heap.size :: []) P) U26.kids _) := (par_more (Hhl22.out.later (kept_trans Kk36.out Kk45.out))).later Kk202.out
            have HL211 : Hid (LiesQ W198 (Par w V0.heap.size (w37.heap.size :: []) P) U35.kids _) := (par_more (Hhl31.out.later Kk45.out)).later Kk202.out
            have HL212 : Hid (LiesQ W198 (Par w V0.heap.size (w37.heap.size :: []) P) U44.kids _) := (par_more Hhl40.out).later Kk202.out
            clear hHeld
            refine hK.out _ _ ?_ (fun hHeld => ?_)
            · (try dsimp only)
              exact sees_kept _ (kept_trans Kk27.out (kept_trans Kk36.out (kept_trans Kk45.out Kk202.out)))
            clear hK K
            (try simp only [Act.put, List.setIfInBounds_toArray, List.set_cons_zero, List.set_cons_succ])
            refine wpAnyH_ready (rs := [22]) (by kernel_rfl) (by simp) ?_
            refine AllReadyH.cons (o := hturnr3_22) rfl (fun K hK => ?_) ?_
            · unfold hturnr3_22
              go_simp
              refine at_K (fun W214 hW214 => ?_)
              obtain ⟨k216, x215, z217⟩ := alloc1 hW214
              have Kk218 := Lib.hid k216
              clear k216
              have Hx215 := Lib.hid x215
              have Hz217 := Lib.hid z217
              clear x215 z217 hW214
              have HR219 : Hid (LiesQ W214 (Par w V0.heap.size (w37.heap.size :: []) P) [U26, U35, U44, h.h] (.slice (some ⟨W198.heap.size, 0, none⟩) 4 4)) := q_row [(U26, (.slice a23 U26.kids.length c24)), (U35, (.slice a32 U35.kids.length c33)), (U44, (.slice a41 U44.kids.length c42)), (h.h, (.slice ahh h.h.kids.length chh))] _ rfl Hx215.out (par_new (Below.size (kept_trans Kk11.out (kept_trans Kk18.out (kept_trans Kk27.out (kept_trans Kk36.out (kept_trans Kk45.out Kk202.out)))))) XL204.out (Nat.le_refl _)) (fun p hp => by
                simp only [List.mem_cons, List.not_mem_nil, or_false] at hp
                rcases hp with rfl | rfl | rfl | rfl
                · exact ⟨(by rw [← HU26.out]; exact (right_fine (plain_right (points_plain (heR_lev Hhb9.out))))), (HL210.out.later Kk218.out)⟩
                · exact ⟨(by rw [← HU35.out]; exact (right_fine (plain_right (point_plain (heR_lev Hhb9.out) (heR_pl Hhb9.out _ (by simp)) (heR_pl Hhb9.out _ (by simp)))))), (HL211.out.later Kk218.out)⟩
                · exact ⟨(by rw [← HU44.out]; exact (right_fine (plain_right (point_plain (heR_lev Hhb9.out) (heR_pl Hhb9.out _ (by simp)) (heR_pl Hhb9.out _ (by simp)))))), (HL212.out.later Kk218.out)⟩
                · exact ⟨Gh.out.2.2.2.2.2, (HL209.out.later Kk218.out)⟩) (Nat.le_of_ble_eq_true rfl)
              clear hHeld
              refine hK.out _ _ ?_ (fun hHeld => ?_)
              · (try dsimp only)
                exact sees_kept _ (kept_trans Kk27.out (kept_trans Kk36.out (kept_trans Kk45.out (kept_trans Kk202.out Kk218.out))))
              clear hK K
              (try simp only [Act.put, List.setIfInBounds_toArray, List.set_cons_zero, List.set_cons_succ])
              refine wpAnyH_ready (rs := [23]) (by kernel_rfl) (by simp) ?_
              refine AllReadyH.cons (o := hturnr3_23) rfl (fun K hK => ?_) ?_
              · unfold hturnr3_23
                go_simp
                refine (huse_any 3 (h.i + 1) [U26, U35, U44, h.h] (Par w V0.heap.size (w37.heap.size :: []) P) _ _ (show I64 3 from by unfold I64; decide) (lev_succ (heR_lev Hhb9.out) (by decide)) HR219.out (fun x hx => by
                  simp only [List.mem_cons, List.not_mem_nil, or_false] at hx
                  rcases hx with rfl | rfl | rfl | rfl
                  · exact (by rw [← HU26.out]; exact (points_plain (heR_lev Hhb9.out)))
                  · exact (by rw [← HU35.out]; exact (point_plain (heR_lev Hhb9.out) (heR_pl Hhb9.out _ (by simp)) (heR_pl Hhb9.out _ (by simp))))
                  · exact (by rw [← HU44.out]; exact (point_plain (heR_lev Hhb9.out) (heR_pl Hhb9.out _ (by simp)) (heR_pl Hhb9.out _ (by simp))))
                  · exact (heR_pl Hhb9.out _ (by simp))) (Nat.le_of_ble_eq_true rfl)).mono ?_
                obtain ⟨U227, hU227⟩ : ∃ qu, useT 3 (h.i + 1) 0 [U26, U35, U44, h.h] = qu := ⟨_, rfl⟩
                rw [hU227]
                have HU227 := Lib.hid hU227
                clear hU227
                rintro e w220 ⟨s222, rfl, hl223, k221⟩
                obtain ⟨a224, c225, S226, rfl, -⟩ := hl223.out
                have Kk228 := Lib.hid k221
                clear k221
                have Hhl223 : Hid (LiesQ w220 (Par w V0.heap.size (w37.heap.size :: []) P) U227.kids _) := par_give hl223 (Below.size (kept_trans Kk11.out (kept_trans Kk18.out (kept_trans Kk27.out (kept_trans Kk36.out (kept_trans Kk45.out (kept_trans Kk202.out Kk218.out))))))) (xlt_later XL204.out Kk218.out)
                clear hl223
                clear hHeld
                refine hK.out _ _ ?_ (fun hHeld => ?_)
                · (try dsimp only)
                  exact sees_kept _ (kept_trans Kk27.out (kept_trans Kk36.out (kept_trans Kk45.out (kept_trans Kk202.out (kept_trans Kk218.out Kk228.out)))))
                clear hK K
                (try simp only [Act.put, List.setIfInBounds_toArray, List.set_cons_zero, List.set_cons_succ])
                refine wpAnyH_ready (rs := [25]) (by kernel_rfl) (by simp) ?_
                refine AllReadyH.cons (o := hturnr3_25) rfl (fun K hK => ?_) ?_
                · unfold hturnr3_25
                  refine step_store_part rfl 32 (.tmp 3) (.tmp 31) rfl (w37.heap.size) 0 #[.int .i64 U227.k, .int .i64 U227.i, .int .i64 U227.j, .int .i64 U227.n, (.slice a224 U227.kids.length c225)] rfl rfl 32 size_term (row_ok rfl) _ #[.int .i64 U227.k, .int .i64 U227.i, .int .i64 U227.j, .int .i64 U227.n, (.slice a224 U227.kids.length c225)] (blk_at Hx199.out (kept_trans Kk218.out Kk228.out)) rfl (Nat.le_of_ble_eq_true rfl) ?_
                  intro W229 hW229
                  have KB230 := Lib.hid (kept_set (kept_trans Kk5.out (kept_trans Kk11.out (kept_trans Kk18.out (kept_trans Kk27.out (kept_trans Kk36.out (kept_trans Kk45.out (kept_trans Kk202.out (kept_trans Kk218.out Kk228.out)))))))) hW229 (by have := HG203.out; have := Z0.out; omega))
                  have KB231 := Lib.hid (kept_set (kept_trans Kk11.out (kept_trans Kk18.out (kept_trans Kk27.out (kept_trans Kk36.out (kept_trans Kk45.out (kept_trans Kk202.out (kept_trans Kk218.out Kk228.out))))))) hW229 HG203.out)
                  have KB232 := Lib.hid (kept_set (kept_trans Kk27.out (kept_trans Kk36.out (kept_trans Kk45.out (kept_trans Kk202.out (kept_trans Kk218.out Kk228.out))))) hW229 (Below.size (kept_trans Kk27.out (kept_trans Kk36.out Kk45.out))))
                  have HL233 : Hid (LiesQ W229 (Par w V0.heap.size (w37.heap.size :: []) P) h.a.kids _) := par_set (HL205.out.later (kept_trans Kk218.out Kk228.out)) hW229 (List.mem_cons_self ..) (by have := HG203.out; have := Z0.out; omega)
                  have HL234 : Hid (LiesQ W229 (Par w V0.heap.size (w37.heap.size :: []) P) h.b.kids _) := par_set (HL206.out.later (kept_trans Kk218.out Kk228.out)) hW229 (List.mem_cons_self ..) (by have := HG203.out; have := Z0.out; omega)
                  have HL235 : Hid (LiesQ W229 (Par w V0.heap.size (w37.heap.size :: []) P) h.x.kids _) := par_set (HL207.out.later (kept_trans Kk218.out Kk228.out)) hW229 (List.mem_cons_self ..) (by have := HG203.out; have := Z0.out; omega)
                  have HL236 : Hid (LiesQ W229 (Par w V0.heap.size (w37.heap.size :: []) P) h.y.kids _) := par_set (HL208.out.later (kept_trans Kk218.out Kk228.out)) hW229 (List.mem_cons_self ..) (by have := HG203.out; have := Z0.out; omega)
                  have HL237 : Hid (LiesQ W229 (Par w V0.heap.size (w37.heap.size :: []) P) h.h.kids _) := par_set (HL209.out.later (kept_trans Kk218.out Kk228.out)) hW229 (List.mem_cons_self ..) (by have := HG203.out; have := Z0.out; omega)
                  have HL238 : Hid (LiesQ W229 (Par w V0.heap.size (w37.heap.size :: []) P) U26.kids _) := par_set (HL210.out.later (kept_trans Kk218.out Kk228.out)) hW229 (List.mem_cons_self ..) (by have := HG203.out; have := Z0.out; omega)
                  have HL239 : Hid (LiesQ W229 (Par w V0.heap.size (w37.heap.size :: []) P) U35.kids _) := par_set (HL211.out.later (kept_trans Kk218.out Kk228.out)) hW229 (List.mem_cons_self ..) (by have := HG203.out; have := Z0.out; omega)
                  have HL240 : Hid (LiesQ W229 (Par w V0.heap.size (w37.heap.size :: []) P) U44.kids _) := par_set (HL212.out.later (kept_trans Kk218.out Kk228.out)) hW229 (List.mem_cons_self ..) (by have := HG203.out; have := Z0.out; omega)
                  have HL241 : Hid (LiesQ W229 (Par w V0.heap.size (w37.heap.size :: []) P) [U26, U35, U44, h.h] _) := par_set (HR219.out.later Kk228.out) hW229 (List.mem_cons_self ..) (by have := HG203.out; have := Z0.out; omega)
                  have HL242 : Hid (LiesQ W229 (Par w V0.heap.size (w37.heap.size :: []) P) U227.kids _) := par_set Hhl223.out hW229 (List.mem_cons_self ..) (by have := HG203.out; have := Z0.out; omega)
                  have XL243 := Lib.hid (xlt_set (xlt_later XL204.out (kept_trans Kk218.out Kk228.out)) hW229)
                  have HX244 := Lib.hid (blk_same (blk_at Hx199.out (kept_trans Kk218.out Kk228.out)) hW229)
                  clear hW229
                  clear hHeld
                  refine hK.out _ _ ?_ (fun hHeld => ?_)
                  · (try dsimp only)
                    exact sees_kept _ KB232.out
                  clear hK K
                  (try simp only [Act.put])
                  refine wpAnyH_done (by kernel_rfl) ?_ _
                  clear hHeld
                  have kvV0 : Sees V0 (w.heap.size + 1) W229 := sees_kept _ KB231.out
                  have kvW229 : Sees W229 (w.heap.size + 1) W229 := sees_kept _ (kept_refl _)
                  go_wp2_with (refine stop_load 32 (.tmp 34) rfl ?_)
                  intro _
                  refine wpList_load_part (w.heap.size) 6 32 (.tmp 34) #[.int .i64 h.b.k, .int .i64 h.b.i, .int .i64 h.b.j, .int .i64 h.b.n, (.slice ahb h.b.kids.length chb)] du (blk_at Hx1.out KB231.out) (by rfl) rfl (by rfl) (by rfl) hu1 (by cases du <;> first | rfl | exact hu2) size_term ?_
                  go_wp2_with (refine stop_load 32 (.tmp 36) rfl ?_)
                  intro _
                  refine wpList_load_part (w.heap.size) 1 32 (.tmp 36) #[.int .i64 h.a.k, .int .i64 h.a.i, .int .i64 h.a.j, .int .i64 h.a.n, (.slice aha h.a.kids.length cha)] du (blk_at Hx1.out KB231.out) (by rfl) rfl (by rfl) (by rfl) hu1 (by cases du <;> first | rfl | exact hu2) size_term ?_
                  go_wp2_with (refine stop_load 32 (.tmp 38) rfl ?_)
                  intro _
                  refine wpList_load_part (w.heap.size) 16 32 (.tmp 38) #[.int .i64 h.y.k, .int .i64 h.y.i, .int .i64 h.y.j, .int .i64 h.y.n, (.slice ahy h.y.kids.length chy)] du (blk_at Hx1.out KB231.out) (by rfl) rfl (by rfl) (by rfl) hu1 (by cases du <;> first | rfl | exact hu2) size_term ?_
                  go_wp2_with (refine stop_load 32 (.tmp 40) rfl ?_)
                  intro _
                  refine wpList_load_part (w.heap.size) 11 32 (.tmp 40) #[.int .i64 h.x.k, .int .i64 h.x.i, .int .i64 h.x.j, .int .i64 h.x.n, (.slice ahx h.x.kids.length chx)] du (blk_at Hx1.out KB231.out) (by rfl) rfl (by rfl) (by rfl) hu1 (by cases du <;> first | rfl | exact hu2) size_term ?_
                  go_wp2_with (refine stop_load 32 (.tmp 3) rfl ?_)
                  intro _
                  refine wpList_load_part (w37.heap.size) 0 32 (.tmp 3) #[.int .i64 U227.k, .int .i64 U227.i, .int .i64 U227.j, .int .i64 U227.n, (.slice a224 U227.kids.length c225)] du HX244.out (by rfl) rfl (by rfl) (by rfl) hu1 (by cases du <;> first | rfl | exact hu2) size_term ?_
                  go_wp2_with fail
                  clear kvV0
                  clear kvW229
                  refine (hfresh_any (⟨h.i, h.b, h.a, h.y, h.x, U227⟩ : He) (Par w V0.heap.size (w37.heap.size :: []) P) _ (.slice ahb h.b.kids.length chb) (.slice aha h.a.kids.length cha) (.slice ahy h.y.kids.length chy) (.slice ahx h.x.kids.length chx) (.slice a224 U227.kids.length c225) ⟨Gh.out.1, Gh.out.2.2.1, Gh.out.2.1, Gh.out.2.2.2.2.1, Gh.out.2.2.2.1, (by rw [← HU227.out]; exact (use_fine (show I64 3 from by unfold I64; decide) (lev_succ (heR_lev Hhb9.out) (by decide)) (by unfold I64; decide)))⟩ ⟨HL234.out, HL233.out, HL236.out, HL235.out, HL242.out⟩ (heR_pl Hhb9.out _ (by simp)) (heR_pl Hhb9.out _ (by simp)) (heR_pl Hhb9.out _ (by simp)) (heR_pl Hhb9.out _ (by simp))).mono ?_
                  obtain ⟨U247, hU247⟩ : ∃ qu, (⟨h.i, h.b, h.a, h.y, h.x, U227⟩ : He) = qu := ⟨_, rfl⟩
                  rw [hU247]
                  have HU247 := Lib.hid hU247
                  clear hU247
                  rintro e w245 ⟨s248, s249, s250, s251, s252, rfl, ⟨hl253, hl254, hl255, hl256, hl257⟩, k246⟩
                  obtain ⟨a258, c259, S260, rfl, -⟩ := hl253.out
                  obtain ⟨a261, c262, S263, rfl, -⟩ := hl254.out
                  obtain ⟨a264, c265, S266, rfl, -⟩ := hl255.out
                  obtain ⟨a267, c268, S269, rfl, -⟩ := hl256.out
                  obtain ⟨a270, c271, S272, rfl, -⟩ := hl257.out
                  have Kk273 := Lib.hid k246
                  clear k246
                  have Hhl253 : Hid (LiesQ w245 (Par w V0.heap.size (w37.heap.size :: []) P) U247.a.kids _) := par_give hl253 (Below.size KB231.out) XL243.out
                  have Hhl254 : Hid (LiesQ w245 (Par w V0.heap.size (w37.heap.size :: []) P) U247.b.kids _) := par_give hl254 (Below.size KB231.out) XL243.out
                  have Hhl255 : Hid (LiesQ w245 (Par w V0.heap.size (w37.heap.size :: []) P) U247.x.kids _) := par_give hl255 (Below.size KB231.out) XL243.out
                  have Hhl256 : Hid (LiesQ w245 (Par w V0.heap.size (w37.heap.size :: []) P) U247.y.kids _) := par_give hl256 (Below.size KB231.out) XL243.out
                  have Hhl257 : Hid (LiesQ w245 (Par w V0.heap.size (w37.heap.size :: []) P) U247.h.kids _) := par_give hl257 (Below.size KB231.out) XL243.out
                  clear hl253 hl254 hl255 hl256 hl257
                  have kvV0 : Sees V0 (w.heap.size + 1) w245 := sees_kept _ (kept_trans KB231.out Kk273.out)
                  have kvW229 : Sees W229 (w.heap.size + 1) w245 := sees_kept _ Kk273.out
                  go_wp2_with (refine stop_store 51 (.tmp 2) (.tmp 44) rfl ?_)
                  intro _
                  refine wpList_store_part_n (by rfl) 51 (.tmp 2) (.tmp 44) rfl (w.heap.size + 1) 0 #[.int .i64 U247.i, .int .i64 U247.a.k, .int .i64 U247.a.i, .int .i64 U247.a.j, .int .i64 U247.a.n, (.slice a258 U247.a.kids.length c259), .int .i64 U247.b.k, .int .i64 U247.b.i, .int .i64 U247.b.j, .int .i64 U247.b.n, (.slice a261 U247.b.kids.length c262), .int .i64 U247.x.k, .int .i64 U247.x.i, .int .i64 U247.x.j, .int .i64 U247.x.n, (.slice a264 U247.x.kids.length c265), .int .i64 U247.y.k, .int .i64 U247.y.i, .int .i64 U247.y.j, .int .i64 U247.y.n, (.slice a267 U247.y.kids.length c268), .int .i64 U247.h.k, .int .i64 U247.h.i, .int .i64 U247.h.j, .int .i64 U247.h.n, (.slice a270 U247.h.kids.length c271)] (by rfl) (by rfl) 51 (by kernel_rfl) (row_ok rfl) ?_
                  intro W274 hW274
                  clear kvV0
                  clear kvW229
                  subst hW274
                  refine ⟨_, #[.int .i64 U247.i, .int .i64 U247.a.k, .int .i64 U247.a.i, .int .i64 U247.a.j, .int .i64 U247.a.n, (.slice a258 U247.a.kids.length c259), .int .i64 U247.b.k, .int .i64 U247.b.i, .int .i64 U247.b.j, .int .i64 U247.b.n, (.slice a261 U247.b.kids.length c262), .int .i64 U247.x.k, .int .i64 U247.x.i, .int .i64 U247.x.j, .int .i64 U247.x.n, (.slice a264 U247.x.kids.length c265), .int .i64 U247.y.k, .int .i64 U247.y.i, .int .i64 U247.y.j, .int .i64 U247.y.n, (.slice a267 U247.y.kids.length c268), .int .i64 U247.h.k, .int .i64 U247.h.i, .int .i64 U247.h.j, .int .i64 U247.h.n, (.slice a270 U247.h.kids.length c271)], (blk_at Hx2.out (kept_trans KB231.out Kk273.out)), rfl, Nat.le_of_ble_eq_true rfl, ?_⟩
                  intro W275 hW275
                  go_wp2_with fail
                  refine bodyPost_ret (results_cell_row rfl _ _ (w.heap.size + 1) 51 _ _ dh rfl (blk_same (blk_at Hx2.out (kept_trans KB231.out Kk273.out)) hW275) dh1 (by cases dh <;> first | rfl | exact dh2) (by kernel_rfl)) rfl ?_
                  rw [show heTurn h = U247 from by unfold heTurn; rw [Hhb9.out]; rw [← HU247.out]; rw [← HU227.out]; rw [← HU44.out]; rw [← HU35.out]; rw [← HU26.out]; (try rfl)]
                  exact ⟨_, _, _, _, _, rfl, ⟨par_end (par_row' Hhl253.out hW275 (by omega) (by have := Z0.out; omega)) (by have := Z0.out; omega), par_end (par_row' Hhl254.out hW275 (by omega) (by have := Z0.out; omega)) (by have := Z0.out; omega), par_end (par_row' Hhl255.out hW275 (by omega) (by have := Z0.out; omega)) (by have := Z0.out; omega), par_end (par_row' Hhl256.out hW275 (by omega) (by have := Z0.out; omega)) (by have := Z0.out; omega), par_end (par_row' Hhl257.out hW275 (by omega) (by have := Z0.out; omega)) (by have := Z0.out; omega)⟩, kept_set (kept_trans KB230.out Kk273.out) hW275 (by omega)⟩
                exact AllReadyH.nil
              exact AllReadyH.nil
            exact AllReadyH.nil
          exact AllReadyH.nil
        refine AllReadyH.cons (o := hturnr3_24) rfl (fun K hK => ?_) ?_
        · unfold hturnr3_24
          go_simp
          refine at_K (fun W276 hW276 => ?_)
          obtain ⟨k278, x277, z279⟩ := alloc1 hW276
          have Kk280 := Lib.hid k278
          clear k278
          have Hx277 := Lib.hid x277
          have Hz279 := Lib.hid z279
          clear x277 z279 hW276
          have HG281 : Hid (V0.heap.size ≤ w28.heap.size) := (Below.size (kept_trans Kk11.out (kept_trans Kk18.out (kept_trans Kk27.out Kk36.out))))
          have XL282 := Lib.hid (xlt_more (xlt_nil _) Kk280.out (by have := Hz279.out; omega))
          have HL283 : Hid (LiesQ W276 (Par w V0.heap.size (w28.heap.size :: []) P) h.a.kids _) := (par_more (HLha.out.later (kept_trans Kk11.out (kept_trans Kk18.out (kept_trans Kk27.out Kk36.out))))).later Kk280.out
          have HL284 : Hid (LiesQ W276 (Par w V0.heap.size (w28.heap.size :: []) P) h.b.kids _) := (par_more (HLhb.out.later (kept_trans Kk11.out (kept_trans Kk18.out (kept_trans Kk27.out Kk36.out))))).later Kk280.out
          have HL285 : Hid (LiesQ W276 (Par w V0.heap.size (w28.heap.size :: []) P) h.x.kids _) := (par_more (HLhx.out.later (kept_trans Kk11.out (kept_trans Kk18.out (kept_trans Kk27.out Kk36.out))))).later Kk280.out
          have HL286 : Hid (LiesQ W276 (Par w V0.heap.size (w28.heap.size :: []) P) h.y.kids _) := (par_more (HLhy.out.later (kept_trans Kk11.out (kept_trans Kk18.out (kept_trans Kk27.out Kk36.out))))).later Kk280.out
          have HL287 : Hid (LiesQ W276 (Par w V0.heap.size (w28.heap.size :: []) P) h.h.kids _) := (par_more (HLhh.out.later (kept_trans Kk11.out (kept_trans Kk18.out (kept_trans Kk27.out Kk36.out))))).later Kk280.out
          have HL288 : Hid (LiesQ W276 (Par w V0.heap.size (w28.heap.size :: []) P) U26.kids _) := (par_more (Hhl22.out.later Kk36.out)).later Kk280.out
          have HL289 : Hid (LiesQ W276 (Par w V0.heap.size (w28.heap.size :: []) P) U35.kids _) := (par_more Hhl31.out).later Kk280.out
          clear hHeld
          refine hK.out _ _ ?_ (fun hHeld => ?_)
          · (try dsimp only)
            exact sees_kept _ (kept_trans Kk27.out (kept_trans Kk36.out Kk280.out))
          clear hK K
          (try simp only [Act.put, List.setIfInBounds_toArray, List.set_cons_zero, List.set_cons_succ])
          refine wpAnyH_ready (rs := [19]) (by kernel_rfl) (by simp) ?_
          refine AllReadyH.cons (o := hturnr3_19) rfl (fun K hK => ?_) ?_
          · unfold hturnr3_19
            go_simp
            refine (hpoint_any h.i h.b h.y (Par w V0.heap.size (w28.heap.size :: []) P) _ (.slice ahb h.b.kids.length chb) (.slice ahy h.y.kids.length chy) Gh.out.1 Gh.out.2.2.1 HL284.out Gh.out.2.2.2.2.1 HL286.out (heR_pl Hhb9.out _ (by simp)) (heR_pl Hhb9.out _ (by simp))).mono ?_
            obtain ⟨U297, hU297⟩ : ∃ qu, pointT h.i h.b h.y = qu := ⟨_, rfl⟩
            rw [hU297]
            have HU297 := Lib.hid hU297
            clear hU297
            rintro e w290 ⟨s292, rfl, hl293, k291⟩
            obtain ⟨a294, c295, S296, rfl, -⟩ := hl293.out
            have Kk298 := Lib.hid k291
            clear k291
            have Hhl293 : Hid (LiesQ w290 (Par w V0.heap.size (w28.heap.size :: []) P) U297.kids _) := par_give hl293 (Below.size (kept_trans Kk11.out (kept_trans Kk18.out (kept_trans Kk27.out (kept_trans Kk36.out Kk280.out))))) XL282.out
            clear hl293
            clear hHeld
            refine hK.out _ _ ?_ (fun hHeld => ?_)
            · (try dsimp only)
              exact sees_kept _ (kept_trans Kk27.out (kept_trans Kk36.out (kept_trans Kk280.out Kk298.out)))
            clear hK K
            (try simp only [Act.put, List.setIfInBounds_toArray, List.set_cons_zero, List.set_cons_succ])
            refine wpAnyH_ready (rs := [22]) (by kernel_rfl) (by simp) ?_
            refine AllReadyH.cons (o := hturnr3_22) rfl (fun K hK => ?_) ?_
            · unfold hturnr3_22
              go_simp
              refine at_K (fun W300 hW300 => ?_)
              obtain ⟨k302, x301, z303⟩ := alloc1 hW300
              have Kk304 := Lib.hid k302
              clear k302
              have Hx301 := Lib.hid x301
              have Hz303 := Lib.hid z303
              clear x301 z303 hW300
              have HR305 : Hid (LiesQ W300 (Par w V0.heap.size (w28.heap.size :: []) P) [U26, U35, U297, h.h] (.slice (some ⟨w290.heap.size, 0, none⟩) 4 4)) := q_row [(U26, (.slice a23 U26.kids.length c24)), (U35, (.slice a32 U35.kids.length c33)), (U297, (.slice a294 U297.kids.length c295)), (h.h, (.slice ahh h.h.kids.length chh))] _ rfl Hx301.out (par_new (Below.size (kept_trans Kk11.out (kept_trans Kk18.out (kept_trans Kk27.out (kept_trans Kk36.out (kept_trans Kk280.out Kk298.out)))))) (xlt_later XL282.out Kk298.out) (Nat.le_refl _)) (fun p hp => by
                simp only [List.mem_cons, List.not_mem_nil, or_false] at hp
                rcases hp with rfl | rfl | rfl | rfl
                · exact ⟨(by rw [← HU26.out]; exact (right_fine (plain_right (points_plain (heR_lev Hhb9.out))))), (HL288.out.later (kept_trans Kk298.out Kk304.out))⟩
                · exact ⟨(by rw [← HU35.out]; exact (right_fine (plain_right (point_plain (heR_lev Hhb9.out) (heR_pl Hhb9.out _ (by simp)) (heR_pl Hhb9.out _ (by simp)))))), (HL289.out.later (kept_trans Kk298.out Kk304.out))⟩
                · exact ⟨(by rw [← HU297.out]; exact (right_fine (plain_right (point_plain (heR_lev Hhb9.out) (heR_pl Hhb9.out _ (by simp)) (heR_pl Hhb9.out _ (by simp)))))), (Hhl293.out.later Kk304.out)⟩
                · exact ⟨Gh.out.2.2.2.2.2, (HL287.out.later (kept_trans Kk298.out Kk304.out))⟩) (Nat.le_of_ble_eq_true rfl)
              clear hHeld
              refine hK.out _ _ ?_ (fun hHeld => ?_)
              · (try dsimp only)
                exact sees_kept _ (kept_trans Kk27.out (kept_trans Kk36.out (kept_trans Kk280.out (kept_trans Kk298.out Kk304.out))))
              clear hK K
              (try simp only [Act.put, List.setIfInBounds_toArray, List.set_cons_zero, List.set_cons_succ])
              refine wpAnyH_ready (rs := [23]) (by kernel_rfl) (by simp) ?_
              refine AllReadyH.cons (o := hturnr3_23) rfl (fun K hK => ?_) ?_
              · unfold hturnr3_23
                go_simp
                refine (huse_any 3 (h.i + 1) [U26, U35, U297, h.h] (Par w V0.heap.size (w28.heap.size :: []) P) _ _ (show I64 3 from by unfold I64; decide) (lev_succ (heR_lev Hhb9.out) (by decide)) HR305.out (fun x hx => by
                  simp only [List.mem_cons, List.not_mem_nil, or_false] at hx
                  rcases hx with rfl | rfl | rfl | rfl
                  · exact (by rw [← HU26.out]; exact (points_plain (heR_lev Hhb9.out)))
                  · exact (by rw [← HU35.out]; exact (point_plain (heR_lev Hhb9.out) (heR_pl Hhb9.out _ (by simp)) (heR_pl Hhb9.out _ (by simp))))
                  · exact (by rw [← HU297.out]; exact (point_plain (heR_lev Hhb9.out) (heR_pl Hhb9.out _ (by simp)) (heR_pl Hhb9.out _ (by simp))))
                  · exact (heR_pl Hhb9.out _ (by simp))) (Nat.le_of_ble_eq_true rfl)).mono ?_
                obtain ⟨U313, hU313⟩ : ∃ qu, useT 3 (h.i + 1) 0 [U26, U35, U297, h.h] = qu := ⟨_, rfl⟩
                rw [hU313]
                have HU313 := Lib.hid hU313
                clear hU313
                rintro e w306 ⟨s308, rfl, hl309, k307⟩
                obtain ⟨a310, c311, S312, rfl, -⟩ := hl309.out
                have Kk314 := Lib.hid k307
                clear k307
                have Hhl309 : Hid (LiesQ w306 (Par w V0.heap.size (w28.heap.size :: []) P) U313.kids _) := par_give hl309 (Below.size (kept_trans Kk11.out (kept_trans Kk18.out (kept_trans Kk27.out (kept_trans Kk36.out (kept_trans Kk280.out (kept_trans Kk298.out Kk304.out))))))) (xlt_later XL282.out (kept_trans Kk298.out Kk304.out))
                clear hl309
                clear hHeld
                refine hK.out _ _ ?_ (fun hHeld => ?_)
                · (try dsimp only)
                  exact sees_kept _ (kept_trans Kk27.out (kept_trans Kk36.out (kept_trans Kk280.out (kept_trans Kk298.out (kept_trans Kk304.out Kk314.out)))))
                clear hK K
                (try simp only [Act.put, List.setIfInBounds_toArray, List.set_cons_zero, List.set_cons_succ])
                refine wpAnyH_ready (rs := [25]) (by kernel_rfl) (by simp) ?_
                refine AllReadyH.cons (o := hturnr3_25) rfl (fun K hK => ?_) ?_
                · unfold hturnr3_25
                  refine step_store_part rfl 32 (.tmp 3) (.tmp 31) rfl (w28.heap.size) 0 #[.int .i64 U313.k, .int .i64 U313.i, .int .i64 U313.j, .int .i64 U313.n, (.slice a310 U313.kids.length c311)] rfl rfl 32 size_term (row_ok rfl) _ #[.int .i64 U313.k, .int .i64 U313.i, .int .i64 U313.j, .int .i64 U313.n, (.slice a310 U313.kids.length c311)] (blk_at Hx277.out (kept_trans Kk298.out (kept_trans Kk304.out Kk314.out))) rfl (Nat.le_of_ble_eq_true rfl) ?_
                  intro W315 hW315
                  have KB316 := Lib.hid (kept_set (kept_trans Kk5.out (kept_trans Kk11.out (kept_trans Kk18.out (kept_trans Kk27.out (kept_trans Kk36.out (kept_trans Kk280.out (kept_trans Kk298.out (kept_trans Kk304.out Kk314.out)))))))) hW315 (by have := HG281.out; have := Z0.out; omega))
                  have KB317 := Lib.hid (kept_set (kept_trans Kk11.out (kept_trans Kk18.out (kept_trans Kk27.out (kept_trans Kk36.out (kept_trans Kk280.out (kept_trans Kk298.out (kept_trans Kk304.out Kk314.out))))))) hW315 HG281.out)
                  have KB318 := Lib.hid (kept_set (kept_trans Kk27.out (kept_trans Kk36.out (kept_trans Kk280.out (kept_trans Kk298.out (kept_trans Kk304.out Kk314.out))))) hW315 (Below.size (kept_trans Kk27.out Kk36.out)))
                  have HL319 : Hid (LiesQ W315 (Par w V0.heap.size (w28.heap.size :: []) P) h.a.kids _) := par_set (HL283.out.later (kept_trans Kk298.out (kept_trans Kk304.out Kk314.out))) hW315 (List.mem_cons_self ..) (by have := HG281.out; have := Z0.out; omega)
                  have HL320 : Hid (LiesQ W315 (Par w V0.heap.size (w28.heap.size :: []) P) h.b.kids _) := par_set (HL284.out.later (kept_trans Kk298.out (kept_trans Kk304.out Kk314.out))) hW315 (List.mem_cons_self ..) (by have := HG281.out; have := Z0.out; omega)
                  have HL321 : Hid (LiesQ W315 (Par w V0.heap.size (w28.heap.size :: []) P) h.x.kids _) := par_set (HL285.out.later (kept_trans Kk298.out (kept_trans Kk304.out Kk314.out))) hW315 (List.mem_cons_self ..) (by have := HG281.out; have := Z0.out; omega)
                  have HL322 : Hid (LiesQ W315 (Par w V0.heap.size (w28.heap.size :: []) P) h.y.kids _) := par_set (HL286.out.later (kept_trans Kk298.out (kept_trans Kk304.out Kk314.out))) hW315 (List.mem_cons_self ..) (by have := HG281.out; have := Z0.out; omega)
                  have HL323 : Hid (LiesQ W315 (Par w V0.heap.size (w28.heap.size :: []) P) h.h.kids _) := par_set (HL287.out.later (kept_trans Kk298.out (kept_trans Kk304.out Kk314.out))) hW315 (List.mem_cons_self ..) (by have := HG281.out; have := Z0.out; omega)
                  have HL324 : Hid (LiesQ W315 (Par w V0.heap.size (w28.heap.size :: []) P) U26.kids _) := par_set (HL288.out.later (kept_trans Kk298.out (kept_trans Kk304.out Kk314.out))) hW315 (List.mem_cons_self ..) (by have := HG281.out; have := Z0.out; omega)
                  have HL325 : Hid (LiesQ W315 (Par w V0.heap.size (w28.heap.size :: []) P) U35.kids _) := par_set (HL289.out.later (kept_trans Kk298.out (kept_trans Kk304.out Kk314.out))) hW315 (List.mem_cons_self ..) (by have := HG281.out; have := Z0.out; omega)
                  have HL326 : Hid (LiesQ W315 (Par w V0.heap.size (w28.heap.size :: []) P) U297.kids _) := par_set (Hhl293.out.later (kept_trans Kk304.out Kk314.out)) hW315 (List.mem_cons_self ..) (by have := HG281.out; have := Z0.out; omega)
                  have HL327 : Hid (LiesQ W315 (Par w V0.heap.size (w28.heap.size :: []) P) [U26, U35, U297, h.h] _) := par_set (HR305.out.later Kk314.out) hW315 (List.mem_cons_self ..) (by have := HG281.out; have := Z0.out; omega)
                  have HL328 : Hid (LiesQ W315 (Par w V0.heap.size (w28.heap.size :: []) P) U313.kids _) := par_set Hhl309.out hW315 (List.mem_cons_self ..) (by have := HG281.out; have := Z0.out; omega)
                  have XL329 := Lib.hid (xlt_set (xlt_later XL282.out (kept_trans Kk298.out (kept_trans Kk304.out Kk314.out))) hW315)
                  have HX330 := Lib.hid (blk_same (blk_at Hx277.out (kept_trans Kk298.out (kept_trans Kk304.out Kk314.out))) hW315)
                  clear hW315
                  clear hHeld
                  refine hK.out _ _ ?_ (fun hHeld => ?_)
                  · (try dsimp only)
                    exact sees_kept _ KB318.out
                  clear hK K
                  (try simp only [Act.put])
                  refine wpAnyH_done (by kernel_rfl) ?_ _
                  clear hHeld
                  have kvV0 : Sees V0 (w.heap.size + 1) W315 := sees_kept _ KB317.out
                  have kvW315 : Sees W315 (w.heap.size + 1) W315 := sees_kept _ (kept_refl _)
                  go_wp2_with (refine stop_load 32 (.tmp 34) rfl ?_)
                  intro _
                  refine wpList_load_part (w.heap.size) 6 32 (.tmp 34) #[.int .i64 h.b.k, .int .i64 h.b.i, .int .i64 h.b.j, .int .i64 h.b.n, (.slice ahb h.b.kids.length chb)] du (blk_at Hx1.out KB317.out) (by rfl) rfl (by rfl) (by rfl) hu1 (by cases du <;> first | rfl | exact hu2) size_term ?_
                  go_wp2_with (refine stop_load 32 (.tmp 36) rfl ?_)
                  intro _
                  refine wpList_load_part (w.heap.size) 1 32 (.tmp 36) #[.int .i64 h.a.k, .int .i64 h.a.i, .int .i64 h.a.j, .int .i64 h.a.n, (.slice aha h.a.kids.length cha)] du (blk_at Hx1.out KB317.out) (by rfl) rfl (by rfl) (by rfl) hu1 (by cases du <;> first | rfl | exact hu2) size_term ?_
                  go_wp2_with (refine stop_load 32 (.tmp 38) rfl ?_)
                  intro _
                  refine wpList_load_part (w.heap.size) 16 32 (.tmp 38) #[.int .i64 h.y.k, .int .i64 h.y.i, .int .i64 h.y.j, .int .i64 h.y.n, (.slice ahy h.y.kids.length chy)] du (blk_at Hx1.out KB317.out) (by rfl) rfl (by rfl) (by rfl) hu1 (by cases du <;> first | rfl | exact hu2) size_term ?_
                  go_wp2_with (refine stop_load 32 (.tmp 40) rfl ?_)
                  intro _
                  refine wpList_load_part (w.heap.size) 11 32 (.tmp 40) #[.int .i64 h.x.k, .int .i64 h.x.i, .int .i64 h.x.j, .int .i64 h.x.n, (.slice ahx h.x.kids.length chx)] du (blk_at Hx1.out KB317.out) (by rfl) rfl (by rfl) (by rfl) hu1 (by cases du <;> first | rfl | exact hu2) size_term ?_
                  go_wp2_with (refine stop_load 32 (.tmp 3) rfl ?_)
                  intro _
                  refine wpList_load_part (w28.heap.size) 0 32 (.tmp 3) #[.int .i64 U313.k, .int .i64 U313.i, .int .i64 U313.j, .int .i64 U313.n, (.slice a310 U313.kids.length c311)] du HX330.out (by rfl) rfl (by rfl) (by rfl) hu1 (by cases du <;> first | rfl | exact hu2) size_term ?_
                  go_wp2_with fail
                  clear kvV0
                  clear kvW315
                  refine (hfresh_any (⟨h.i, h.b, h.a, h.y, h.x, U313⟩ : He) (Par w V0.heap.size (w28.heap.size :: []) P) _ (.slice ahb h.b.kids.length chb) (.slice aha h.a.kids.length cha) (.slice ahy h.y.kids.length chy) (.slice ahx h.x.kids.length chx) (.slice a310 U313.kids.length c311) ⟨Gh.out.1, Gh.out.2.2.1, Gh.out.2.1, Gh.out.2.2.2.2.1, Gh.out.2.2.2.1, (by rw [← HU313.out]; exact (use_fine (show I64 3 from by unfold I64; decide) (lev_succ (heR_lev Hhb9.out) (by decide)) (by unfold I64; decide)))⟩ ⟨HL320.out, HL319.out, HL322.out, HL321.out, HL328.out⟩ (heR_pl Hhb9.out _ (by simp)) (heR_pl Hhb9.out _ (by simp)) (heR_pl Hhb9.out _ (by simp)) (heR_pl Hhb9.out _ (by simp))).mono ?_
                  obtain ⟨U333, hU333⟩ : ∃ qu, (⟨h.i, h.b, h.a, h.y, h.x, U313⟩ : He) = qu := ⟨_, rfl⟩
                  rw [hU333]
                  have HU333 := Lib.hid hU333
                  clear hU333
                  rintro e w331 ⟨s334, s335, s336, s337, s338, rfl, ⟨hl339, hl340, hl341, hl342, hl343⟩, k332⟩
                  obtain ⟨a344, c345, S346, rfl, -⟩ := hl339.out
                  obtain ⟨a347, c348, S349, rfl, -⟩ := hl340.out
                  obtain ⟨a350, c351, S352, rfl, -⟩ := hl341.out
                  obtain ⟨a353, c354, S355, rfl, -⟩ := hl342.out
                  obtain ⟨a356, c357, S358, rfl, -⟩ := hl343.out
                  have Kk359 := Lib.hid k332
                  clear k332
                  have Hhl339 : Hid (LiesQ w331 (Par w V0.heap.size (w28.heap.size :: []) P) U333.a.kids _) := par_give hl339 (Below.size KB317.out) XL329.out
                  have Hhl340 : Hid (LiesQ w331 (Par w V0.heap.size (w28.heap.size :: []) P) U333.b.kids _) := par_give hl340 (Below.size KB317.out) XL329.out
                  have Hhl341 : Hid (LiesQ w331 (Par w V0.heap.size (w28.heap.size :: []) P) U333.x.kids _) := par_give hl341 (Below.size KB317.out) XL329.out
                  have Hhl342 : Hid (LiesQ w331 (Par w V0.heap.size (w28.heap.size :: []) P) U333.y.kids _) := par_give hl342 (Below.size KB317.out) XL329.out
                  have Hhl343 : Hid (LiesQ w331 (Par w V0.heap.size (w28.heap.size :: []) P) U333.h.kids _) := par_give hl343 (Below.size KB317.out) XL329.out
                  clear hl339 hl340 hl341 hl342 hl343
                  have kvV0 : Sees V0 (w.heap.size + 1) w331 := sees_kept _ (kept_trans KB317.out Kk359.out)
                  have kvW315 : Sees W315 (w.heap.size + 1) w331 := sees_kept _ Kk359.out
                  go_wp2_with (refine stop_store 51 (.tmp 2) (.tmp 44) rfl ?_)
                  intro _
                  refine wpList_store_part_n (by rfl) 51 (.tmp 2) (.tmp 44) rfl (w.heap.size + 1) 0 #[.int .i64 U333.i, .int .i64 U333.a.k, .int .i64 U333.a.i, .int .i64 U333.a.j, .int .i64 U333.a.n, (.slice a344 U333.a.kids.length c345), .int .i64 U333.b.k, .int .i64 U333.b.i, .int .i64 U333.b.j, .int .i64 U333.b.n, (.slice a347 U333.b.kids.length c348), .int .i64 U333.x.k, .int .i64 U333.x.i, .int .i64 U333.x.j, .int .i64 U333.x.n, (.slice a350 U333.x.kids.length c351), .int .i64 U333.y.k, .int .i64 U333.y.i, .int .i64 U333.y.j, .int .i64 U333.y.n, (.slice a353 U333.y.kids.length c354), .int .i64 U333.h.k, .int .i64 U333.h.i, .int .i64 U333.h.j, .int .i64 U333.h.n, (.slice a356 U333.h.kids.length c357)] (by rfl) (by rfl) 51 (by kernel_rfl) (row_ok rfl) ?_
                  intro W360 hW360
                  clear kvV0
                  clear kvW315
                  subst hW360
                  refine ⟨_, #[.int .i64 U333.i, .int .i64 U333.a.k, .int .i64 U333.a.i, .int .i64 U333.a.j, .int .i64 U333.a.n, (.slice a344 U333.a.kids.length c345), .int .i64 U333.b.k, .int .i64 U333.b.i, .int .i64 U333.b.j, .int .i64 U333.b.n, (.slice a347 U333.b.kids.length c348), .int .i64 U333.x.k, .int .i64 U333.x.i, .int .i64 U333.x.j, .int .i64 U333.x.n, (.slice a350 U333.x.kids.length c351), .int .i64 U333.y.k, .int .i64 U333.y.i, .int .i64 U333.y.j, .int .i64 U333.y.n, (.slice a353 U333.y.kids.length c354), .int .i64 U333.h.k, .int .i64 U333.h.i, .int .i64 U333.h.j, .int .i64 U333.h.n, (.slice a356 U333.h.kids.length c357)], (blk_at Hx2.out (kept_trans KB317.out Kk359.out)), rfl, Nat.le_of_ble_eq_true rfl, ?_⟩
                  intro W361 hW361
                  go_wp2_with fail
                  refine bodyPost_ret (results_cell_row rfl _ _ (w.heap.size + 1) 51 _ _ dh rfl (blk_same (blk_at Hx2.out (kept_trans KB317.out Kk359.out)) hW361) dh1 (by cases dh <;> first | rfl | exact dh2) (by kernel_rfl)) rfl ?_
                  rw [show heTurn h = U333 from by unfold heTurn; rw [Hhb9.out]; rw [← HU333.out]; rw [← HU313.out]; rw [← HU297.out]; rw [← HU35.out]; rw [← HU26.out]; (try rfl)]
                  exact ⟨_, _, _, _, _, rfl, ⟨par_end (par_row' Hhl339.out hW361 (by omega) (by have := Z0.out; omega)) (by have := Z0.out; omega), par_end (par_row' Hhl340.out hW361 (by omega) (by have := Z0.out; omega)) (by have := Z0.out; omega), par_end (par_row' Hhl341.out hW361 (by omega) (by have := Z0.out; omega)) (by have := Z0.out; omega), par_end (par_row' Hhl342.out hW361 (by omega) (by have := Z0.out; omega)) (by have := Z0.out; omega), par_end (par_row' Hhl343.out hW361 (by omega) (by have := Z0.out; omega)) (by have := Z0.out; omega)⟩, kept_set (kept_trans KB316.out Kk359.out) hW361 (by omega)⟩
                exact AllReadyH.nil
              exact AllReadyH.nil
            exact AllReadyH.nil
          exact AllReadyH.nil
        exact AllReadyH.nil
      refine AllReadyH.cons (o := hturnr3_24) rfl (fun K hK => ?_) ?_
      · unfold hturnr3_24
        go_simp
        refine at_K (fun W362 hW362 => ?_)
        obtain ⟨k364, x363, z365⟩ := alloc1 hW362
        have Kk366 := Lib.hid k364
        clear k364
        have Hx363 := Lib.hid x363
        have Hz365 := Lib.hid z365
        clear x363 z365 hW362
        have HG367 : Hid (V0.heap.size ≤ w19.heap.size) := (Below.size (kept_trans Kk11.out (kept_trans Kk18.out Kk27.out)))
        have XL368 := Lib.hid (xlt_more (xlt_nil _) Kk366.out (by have := Hz365.out; omega))
        have HL369 : Hid (LiesQ W362 (Par w V0.heap.size (w19.heap.size :: []) P) h.a.kids _) := (par_more (HLha.out.later (kept_trans Kk11.out (kept_trans Kk18.out Kk27.out)))).later Kk366.out
        have HL370 : Hid (LiesQ W362 (Par w V0.heap.size (w19.heap.size :: []) P) h.b.kids _) := (par_more (HLhb.out.later (kept_trans Kk11.out (kept_trans Kk18.out Kk27.out)))).later Kk366.out
        have HL371 : Hid (LiesQ W362 (Par w V0.heap.size (w19.heap.size :: []) P) h.x.kids _) := (par_more (HLhx.out.later (kept_trans Kk11.out (kept_trans Kk18.out Kk27.out)))).later Kk366.out
        have HL372 : Hid (LiesQ W362 (Par w V0.heap.size (w19.heap.size :: []) P) h.y.kids _) := (par_more (HLhy.out.later (kept_trans Kk11.out (kept_trans Kk18.out Kk27.out)))).later Kk366.out
        have HL373 : Hid (LiesQ W362 (Par w V0.heap.size (w19.heap.size :: []) P) h.h.kids _) := (par_more (HLhh.out.later (kept_trans Kk11.out (kept_trans Kk18.out Kk27.out)))).later Kk366.out
        have HL374 : Hid (LiesQ W362 (Par w V0.heap.size (w19.heap.size :: []) P) U26.kids _) := (par_more Hhl22.out).later Kk366.out
        clear hHeld
        refine hK.out _ _ ?_ (fun hHeld => ?_)
        · (try dsimp only)
          exact sees_kept _ (kept_trans Kk27.out Kk366.out)
        clear hK K
        (try simp only [Act.put, List.setIfInBounds_toArray, List.set_cons_zero, List.set_cons_succ])
        refine wpAnyH_ready (rs := [12]) (by kernel_rfl) (by simp) ?_
        refine AllReadyH.cons (o := hturnr3_12) rfl (fun K hK => ?_) ?_
        · unfold hturnr3_12
          go_simp
          refine (hpoint_any h.i h.a h.x (Par w V0.heap.size (w19.heap.size :: []) P) _ (.slice aha h.a.kids.length cha) (.slice ahx h.x.kids.length chx) Gh.out.1 Gh.out.2.1 HL369.out Gh.out.2.2.2.1 HL371.out (heR_pl Hhb9.out _ (by simp)) (heR_pl Hhb9.out _ (by simp))).mono ?_
          obtain ⟨U382, hU382⟩ : ∃ qu, pointT h.i h.a h.x = qu := ⟨_, rfl⟩
          rw [hU382]
          have HU382 := Lib.hid hU382
          clear hU382
          rintro e w375 ⟨s377, rfl, hl378, k376⟩
          obtain ⟨a379, c380, S381, rfl, -⟩ := hl378.out
          have Kk383 := Lib.hid k376
          clear k376
          have Hhl378 : Hid (LiesQ w375 (Par w V0.heap.size (w19.heap.size :: []) P) U382.kids _) := par_give hl378 (Below.size (kept_trans Kk11.out (kept_trans Kk18.out (kept_trans Kk27.out Kk366.out)))) XL368.out
          clear hl378
          clear hHeld
          refine hK.out _ _ ?_ (fun hHeld => ?_)
          · (try dsimp only)
            exact sees_kept _ (kept_trans Kk27.out (kept_trans Kk366.out Kk383.out))
          clear hK K
          (try simp only [Act.put, List.setIfInBounds_toArray, List.set_cons_zero, List.set_cons_succ])
          refine wpAnyH_ready (rs := [19]) (by kernel_rfl) (by simp) ?_
          refine AllReadyH.cons (o := hturnr3_19) rfl (fun K hK => ?_) ?_
          · unfold hturnr3_19
            go_simp
            refine (hpoint_any h.i h.b h.y (Par w V0.heap.size (w19.heap.size :: []) P) _ (.slice ahb h.b.kids.length chb) (.slice ahy h.y.kids.length chy) Gh.out.1 Gh.out.2.2.1 (HL370.out.later Kk383.out) Gh.out.2.2.2.2.1 (HL372.out.later Kk383.out) (heR_pl Hhb9.out _ (by simp)) (heR_pl Hhb9.out _ (by simp))).mono ?_
            obtain ⟨U391, hU391⟩ : ∃ qu, pointT h.i h.b h.y = qu := ⟨_, rfl⟩
            rw [hU391]
            have HU391 := Lib.hid hU391
            clear hU391
            rintro e w384 ⟨s386, rfl, hl387, k385⟩
            obtain ⟨a388, c389, S390, rfl, -⟩ := hl387.out
            have Kk392 := Lib.hid k385
            clear k385
            have Hhl387 : Hid (LiesQ w384 (Par w V0.heap.size (w19.heap.size :: []) P) U391.kids _) := par_give hl387 (Below.size (kept_trans Kk11.out (kept_trans Kk18.out (kept_trans Kk27.out (kept_trans Kk366.out Kk383.out))))) (xlt_later XL368.out Kk383.out)
            clear hl387
            clear hHeld
            refine hK.out _ _ ?_ (fun hHeld => ?_)
            · (try dsimp only)
              exact sees_kept _ (kept_trans Kk27.out (kept_trans Kk366.out (kept_trans Kk383.out Kk392.out)))
            clear hK K
            (try simp only [Act.put, List.setIfInBounds_toArray, List.set_cons_zero, List.set_cons_succ])
            refine wpAnyH_ready (rs := [22]) (by kernel_rfl) (by simp) ?_
            refine AllReadyH.cons (o := hturnr3_22) rfl (fun K hK => ?_) ?_
            · unfold hturnr3_22
              go_simp
              refine at_K (fun W394 hW394 => ?_)
              obtain ⟨k396, x395, z397⟩ := alloc1 hW394
              have Kk398 := Lib.hid k396
              clear k396
              have Hx395 := Lib.hid x395
              have Hz397 := Lib.hid z397
              clear x395 z397 hW394
              have HR399 : Hid (LiesQ W394 (Par w V0.heap.size (w19.heap.size :: []) P) [U26, U382, U391, h.h] (.slice (some ⟨w384.heap.size, 0, none⟩) 4 4)) := q_row [(U26, (.slice a23 U26.kids.length c24)), (U382, (.slice a379 U382.kids.length c380)), (U391, (.slice a388 U391.kids.length c389)), (h.h, (.slice ahh h.h.kids.length chh))] _ rfl Hx395.out (par_new (Below.size (kept_trans Kk11.out (kept_trans Kk18.out (kept_trans Kk27.out (kept_trans Kk366.out (kept_trans Kk383.out Kk392.out)))))) (xlt_later XL368.out (kept_trans Kk383.out Kk392.out)) (Nat.le_refl _)) (fun p hp => by
                simp only [List.mem_cons, List.not_mem_nil, or_false] at hp
                rcases hp with rfl | rfl | rfl | rfl
                · exact ⟨(by rw [← HU26.out]; exact (right_fine (plain_right (points_plain (heR_lev Hhb9.out))))), (HL374.out.later (kept_trans Kk383.out (kept_trans Kk392.out Kk398.out)))⟩
                · exact ⟨(by rw [← HU382.out]; exact (right_fine (plain_right (point_plain (heR_lev Hhb9.out) (heR_pl Hhb9.out _ (by simp)) (heR_pl Hhb9.out _ (by simp)))))), (Hhl378.out.later (kept_trans Kk392.out Kk398.out))⟩
                · exact ⟨(by rw [← HU391.out]; exact (right_fine (plain_right (point_plain (heR_lev Hhb9.out) (heR_pl Hhb9.out _ (by simp)) (heR_pl Hhb9.out _ (by simp)))))), (Hhl387.out.later Kk398.out)⟩
                · exact ⟨Gh.out.2.2.2.2.2, (HL373.out.later (kept_trans Kk383.out (kept_trans Kk392.out Kk398.out)))⟩) (Nat.le_of_ble_eq_true rfl)
              clear hHeld
              refine hK.out _ _ ?_ (fun hHeld => ?_)
              · (try dsimp only)
                exact sees_kept _ (kept_trans Kk27.out (kept_trans Kk366.out (kept_trans Kk383.out (kept_trans Kk392.out Kk398.out))))
              clear hK K
              (try simp only [Act.put, List.setIfInBounds_toArray, List.set_cons_zero, List.set_cons_succ])
              refine wpAnyH_ready (rs := [23]) (by kernel_rfl) (by simp) ?_
              refine AllReadyH.cons (o := hturnr3_23) rfl (fun K hK => ?_) ?_
              · unfold hturnr3_23
                go_simp
                refine (huse_any 3 (h.i + 1) [U26, U382, U391, h.h] (Par w V0.heap.size (w19.heap.size :: []) P) _ _ (show I64 3 from by unfold I64; decide) (lev_succ (heR_lev Hhb9.out) (by decide)) HR399.out (fun x hx => by
                  simp only [List.mem_cons, List.not_mem_nil, or_false] at hx
                  rcases hx with rfl | rfl | rfl | rfl
                  · exact (by rw [← HU26.out]; exact (points_plain (heR_lev Hhb9.out)))
                  · exact (by rw [← HU382.out]; exact (point_plain (heR_lev Hhb9.out) (heR_pl Hhb9.out _ (by simp)) (heR_pl Hhb9.out _ (by simp))))
                  · exact (by rw [← HU391.out]; exact (point_plain (heR_lev Hhb9.out) (heR_pl Hhb9.out _ (by simp)) (heR_pl Hhb9.out _ (by simp))))
                  · exact (heR_pl Hhb9.out _ (by simp))) (Nat.le_of_ble_eq_true rfl)).mono ?_
                obtain ⟨U407, hU407⟩ : ∃ qu, useT 3 (h.i + 1) 0 [U26, U382, U391, h.h] = qu := ⟨_, rfl⟩
                rw [hU407]
                have HU407 := Lib.hid hU407
                clear hU407
                rintro e w400 ⟨s402, rfl, hl403, k401⟩
                obtain ⟨a404, c405, S406, rfl, -⟩ := hl403.out
                have Kk408 := Lib.hid k401
                clear k401
                have Hhl403 : Hid (LiesQ w400 (Par w V0.heap.size (w19.heap.size :: []) P) U407.kids _) := par_give hl403 (Below.size (kept_trans Kk11.out (kept_trans Kk18.out (kept_trans Kk27.out (kept_trans Kk366.out (kept_trans Kk383.out (kept_trans Kk392.out Kk398.out))))))) (xlt_later XL368.out (kept_trans Kk383.out (kept_trans Kk392.out Kk398.out)))
                clear hl403
                clear hHeld
                refine hK.out _ _ ?_ (fun hHeld => ?_)
                · (try dsimp only)
                  exact sees_kept _ (kept_trans Kk27.out (kept_trans Kk366.out (kept_trans Kk383.out (kept_trans Kk392.out (kept_trans Kk398.out Kk408.out)))))
                clear hK K
                (try simp only [Act.put, List.setIfInBounds_toArray, List.set_cons_zero, List.set_cons_succ])
                refine wpAnyH_ready (rs := [25]) (by kernel_rfl) (by simp) ?_
                refine AllReadyH.cons (o := hturnr3_25) rfl (fun K hK => ?_) ?_
                · unfold hturnr3_25
                  refine step_store_part rfl 32 (.tmp 3) (.tmp 31) rfl (w19.heap.size) 0 #[.int .i64 U407.k, .int .i64 U407.i, .int .i64 U407.j, .int .i64 U407.n, (.slice a404 U407.kids.length c405)] rfl rfl 32 size_term (row_ok rfl) _ #[.int .i64 U407.k, .int .i64 U407.i, .int .i64 U407.j, .int .i64 U407.n, (.slice a404 U407.kids.length c405)] (blk_at Hx363.out (kept_trans Kk383.out (kept_trans Kk392.out (kept_trans Kk398.out Kk408.out)))) rfl (Nat.le_of_ble_eq_true rfl) ?_
                  intro W409 hW409
                  have KB410 := Lib.hid (kept_set (kept_trans Kk5.out (kept_trans Kk11.out (kept_trans Kk18.out (kept_trans Kk27.out (kept_trans Kk366.out (kept_trans Kk383.out (kept_trans Kk392.out (kept_trans Kk398.out Kk408.out)))))))) hW409 (by have := HG367.out; have := Z0.out; omega))
                  have KB411 := Lib.hid (kept_set (kept_trans Kk11.out (kept_trans Kk18.out (kept_trans Kk27.out (kept_trans Kk366.out (kept_trans Kk383.out (kept_trans Kk392.out (kept_trans Kk398.out Kk408.out))))))) hW409 HG367.out)
                  have KB412 := Lib.hid (kept_set (kept_trans Kk27.out (kept_trans Kk366.out (kept_trans Kk383.out (kept_trans Kk392.out (kept_trans Kk398.out Kk408.out))))) hW409 (Below.size Kk27.out))
                  have HL413 : Hid (LiesQ W409 (Par w V0.heap.size (w19.heap.size :: []) P) h.a.kids _) := par_set (HL369.out.later (kept_trans Kk383.out (kept_trans Kk392.out (kept_trans Kk398.out Kk408.out)))) hW409 (List.mem_cons_self ..) (by have := HG367.out; have := Z0.out; omega)
                  have HL414 : Hid (LiesQ W409 (Par w V0.heap.size (w19.heap.size :: []) P) h.b.kids _) := par_set (HL370.out.later (kept_trans Kk383.out (kept_trans Kk392.out (kept_trans Kk398.out Kk408.out)))) hW409 (List.mem_cons_self ..) (by have := HG367.out; have := Z0.out; omega)
                  have HL415 : Hid (LiesQ W409 (Par w V0.heap.size (w19.heap.size :: []) P) h.x.kids _) := par_set (HL371.out.later (kept_trans Kk383.out (kept_trans Kk392.out (kept_trans Kk398.out Kk408.out)))) hW409 (List.mem_cons_self ..) (by have := HG367.out; have := Z0.out; omega)
                  have HL416 : Hid (LiesQ W409 (Par w V0.heap.size (w19.heap.size :: []) P) h.y.kids _) := par_set (HL372.out.later (kept_trans Kk383.out (kept_trans Kk392.out (kept_trans Kk398.out Kk408.out)))) hW409 (List.mem_cons_self ..) (by have := HG367.out; have := Z0.out; omega)
                  have HL417 : Hid (LiesQ W409 (Par w V0.heap.size (w19.heap.size :: []) P) h.h.kids _) := par_set (HL373.out.later (kept_trans Kk383.out (kept_trans Kk392.out (kept_trans Kk398.out Kk408.out)))) hW409 (List.mem_cons_self ..) (by have := HG367.out; have := Z0.out; omega)
                  have HL418 : Hid (LiesQ W409 (Par w V0.heap.size (w19.heap.size :: []) P) U26.kids _) := par_set (HL374.out.later (kept_trans Kk383.out (kept_trans Kk392.out (kept_trans Kk398.out Kk408.out)))) hW409 (List.mem_cons_self ..) (by have := HG367.out; have := Z0.out; omega)
                  have HL419 : Hid (LiesQ W409 (Par w V0.heap.size (w19.heap.size :: []) P) U382.kids _) := par_set (Hhl378.out.later (kept_trans Kk392.out (kept_trans Kk398.out Kk408.out))) hW409 (List.mem_cons_self ..) (by have := HG367.out; have := Z0.out; omega)
                  have HL420 : Hid (LiesQ W409 (Par w V0.heap.size (w19.heap.size :: []) P) U391.kids _) := par_set (Hhl387.out.later (kept_trans Kk398.out Kk408.out)) hW409 (List.mem_cons_self ..) (by have := HG367.out; have := Z0.out; omega)
                  have HL421 : Hid (LiesQ W409 (Par w V0.heap.size (w19.heap.size :: []) P) [U26, U382, U391, h.h] _) := par_set (HR399.out.later Kk408.out) hW409 (List.mem_cons_self ..) (by have := HG367.out; have := Z0.out; omega)
                  have HL422 : Hid (LiesQ W409 (Par w V0.heap.size (w19.heap.size :: []) P) U407.kids _) := par_set Hhl403.out hW409 (List.mem_cons_self ..) (by have := HG367.out; have := Z0.out; omega)
                  have XL423 := Lib.hid (xlt_set (xlt_later XL368.out (kept_trans Kk383.out (kept_trans Kk392.out (kept_trans Kk398.out Kk408.out)))) hW409)
                  have HX424 := Lib.hid (blk_same (blk_at Hx363.out (kept_trans Kk383.out (kept_trans Kk392.out (kept_trans Kk398.out Kk408.out)))) hW409)
                  clear hW409
                  clear hHeld
                  refine hK.out _ _ ?_ (fun hHeld => ?_)
                  · (try dsimp only)
                    exact sees_kept _ KB412.out
                  clear hK K
                  (try simp only [Act.put])
                  refine wpAnyH_done (by kernel_rfl) ?_ _
                  clear hHeld
                  have kvV0 : Sees V0 (w.heap.size + 1) W409 := sees_kept _ KB411.out
                  have kvW409 : Sees W409 (w.heap.size + 1) W409 := sees_kept _ (kept_refl _)
                  go_wp2_with (refine stop_load 32 (.tmp 34) rfl ?_)
                  intro _
                  refine wpList_load_part (w.heap.size) 6 32 (.tmp 34) #[.int .i64 h.b.k, .int .i64 h.b.i, .int .i64 h.b.j, .int .i64 h.b.n, (.slice ahb h.b.kids.length chb)] du (blk_at Hx1.out KB411.out) (by rfl) rfl (by rfl) (by rfl) hu1 (by cases du <;> first | rfl | exact hu2) size_term ?_
                  go_wp2_with (refine stop_load 32 (.tmp 36) rfl ?_)
                  intro _
                  refine wpList_load_part (w.heap.size) 1 32 (.tmp 36) #[.int .i64 h.a.k, .int .i64 h.a.i, .int .i64 h.a.j, .int .i64 h.a.n, (.slice aha h.a.kids.length cha)] du (blk_at Hx1.out KB411.out) (by rfl) rfl (by rfl) (by rfl) hu1 (by cases du <;> first | rfl | exact hu2) size_term ?_
                  go_wp2_with (refine stop_load 32 (.tmp 38) rfl ?_)
                  intro _
                  refine wpList_load_part (w.heap.size) 16 32 (.tmp 38) #[.int .i64 h.y.k, .int .i64 h.y.i, .int .i64 h.y.j, .int .i64 h.y.n, (.slice ahy h.y.kids.length chy)] du (blk_at Hx1.out KB411.out) (by rfl) rfl (by rfl) (by rfl) hu1 (by cases du <;> first | rfl | exact hu2) size_term ?_
                  go_wp2_with (refine stop_load 32 (.tmp 40) rfl ?_)
                  intro _
                  refine wpList_load_part (w.heap.size) 11 32 (.tmp 40) #[.int .i64 h.x.k, .int .i64 h.x.i, .int .i64 h.x.j, .int .i64 h.x.n, (.slice ahx h.x.kids.length chx)] du (blk_at Hx1.out KB411.out) (by rfl) rfl (by rfl) (by rfl) hu1 (by cases du <;> first | rfl | exact hu2) size_term ?_
                  go_wp2_with (refine stop_load 32 (.tmp 3) rfl ?_)
                  intro _
                  refine wpList_load_part (w19.heap.size) 0 32 (.tmp 3) #[.int .i64 U407.k, .int .i64 U407.i, .int .i64 U407.j, .int .i64 U407.n, (.slice a404 U407.kids.length c405)] du HX424.out (by rfl) rfl (by rfl) (by rfl) hu1 (by cases du <;> first | rfl | exact hu2) size_term ?_
                  go_wp2_with fail
                  clear kvV0
                  clear kvW409
                  refine (hfresh_any (⟨h.i, h.b, h.a, h.y, h.x, U407⟩ : He) (Par w V0.heap.size (w19.heap.size :: []) P) _ (.slice ahb h.b.kids.length chb) (.slice aha h.a.kids.length cha) (.slice ahy h.y.kids.length chy) (.slice ahx h.x.kids.length chx) (.slice a404 U407.kids.length c405) ⟨Gh.out.1, Gh.out.2.2.1, Gh.out.2.1, Gh.out.2.2.2.2.1, Gh.out.2.2.2.1, (by rw [← HU407.out]; exact (use_fine (show I64 3 from by unfold I64; decide) (lev_succ (heR_lev Hhb9.out) (by decide)) (by unfold I64; decide)))⟩ ⟨HL414.out, HL413.out, HL416.out, HL415.out, HL422.out⟩ (heR_pl Hhb9.out _ (by simp)) (heR_pl Hhb9.out _ (by simp)) (heR_pl Hhb9.out _ (by simp)) (heR_pl Hhb9.out _ (by simp))).mono ?_
                  obtain ⟨U427, hU427⟩ : ∃ qu, (⟨h.i, h.b, h.a, h.y, h.x, U407⟩ : He) = qu := ⟨_, rfl⟩
                  rw [hU427]
                  have HU427 := Lib.hid hU427
                  clear hU427
                  rintro e w425 ⟨s428, s429, s430, s431, s432, rfl, ⟨hl433, hl434, hl435, hl436, hl437⟩, k426⟩
                  obtain ⟨a438, c439, S440, rfl, -⟩ := hl433.out
                  obtain ⟨a441, c442, S443, rfl, -⟩ := hl434.out
                  obtain ⟨a444, c445, S446, rfl, -⟩ := hl435.out
                  obtain ⟨a447, c448, S449, rfl, -⟩ := hl436.out
                  obtain ⟨a450, c451, S452, rfl, -⟩ := hl437.out
                  have Kk453 := Lib.hid k426
                  clear k426
                  have Hhl433 : Hid (LiesQ w425 (Par w V0.heap.size (w19.heap.size :: []) P) U427.a.kids _) := par_give hl433 (Below.size KB411.out) XL423.out
                  have Hhl434 : Hid (LiesQ w425 (Par w V0.heap.size (w19.heap.size :: []) P) U427.b.kids _) := par_give hl434 (Below.size KB411.out) XL423.out
                  have Hhl435 : Hid (LiesQ w425 (Par w V0.heap.size (w19.heap.size :: []) P) U427.x.kids _) := par_give hl435 (Below.size KB411.out) XL423.out
                  have Hhl436 : Hid (LiesQ w425 (Par w V0.heap.size (w19.heap.size :: []) P) U427.y.kids _) := par_give hl436 (Below.size KB411.out) XL423.out
                  have Hhl437 : Hid (LiesQ w425 (Par w V0.heap.size (w19.heap.size :: []) P) U427.h.kids _) := par_give hl437 (Below.size KB411.out) XL423.out
                  clear hl433 hl434 hl435 hl436 hl437
                  have kvV0 : Sees V0 (w.heap.size + 1) w425 := sees_kept _ (kept_trans KB411.out Kk453.out)
                  have kvW409 : Sees W409 (w.heap.size + 1) w425 := sees_kept _ Kk453.out
                  go_wp2_with (refine stop_store 51 (.tmp 2) (.tmp 44) rfl ?_)
                  intro _
                  refine wpList_store_part_n (by rfl) 51 (.tmp 2) (.tmp 44) rfl (w.heap.size + 1) 0 #[.int .i64 U427.i, .int .i64 U427.a.k, .int .i64 U427.a.i, .int .i64 U427.a.j, .int .i64 U427.a.n, (.slice a438 U427.a.kids.length c439), .int .i64 U427.b.k, .int .i64 U427.b.i, .int .i64 U427.b.j, .int .i64 U427.b.n, (.slice a441 U427.b.kids.length c442), .int .i64 U427.x.k, .int .i64 U427.x.i, .int .i64 U427.x.j, .int .i64 U427.x.n, (.slice a444 U427.x.kids.length c445), .int .i64 U427.y.k, .int .i64 U427.y.i, .int .i64 U427.y.j, .int .i64 U427.y.n, (.slice a447 U427.y.kids.length c448), .int .i64 U427.h.k, .int .i64 U427.h.i, .int .i64 U427.h.j, .int .i64 U427.h.n, (.slice a450 U427.h.kids.length c451)] (by rfl) (by rfl) 51 (by kernel_rfl) (row_ok rfl) ?_
                  intro W454 hW454
                  clear kvV0
                  clear kvW409
                  subst hW454
                  refine ⟨_, #[.int .i64 U427.i, .int .i64 U427.a.k, .int .i64 U427.a.i, .int .i64 U427.a.j, .int .i64 U427.a.n, (.slice a438 U427.a.kids.length c439), .int .i64 U427.b.k, .int .i64 U427.b.i, .int .i64 U427.b.j, .int .i64 U427.b.n, (.slice a441 U427.b.kids.length c442), .int .i64 U427.x.k, .int .i64 U427.x.i, .int .i64 U427.x.j, .int .i64 U427.x.n, (.slice a444 U427.x.kids.length c445), .int .i64 U427.y.k, .int .i64 U427.y.i, .int .i64 U427.y.j, .int .i64 U427.y.n, (.slice a447 U427.y.kids.length c448), .int .i64 U427.h.k, .int .i64 U427.h.i, .int .i64 U427.h.j, .int .i64 U427.h.n, (.slice a450 U427.h.kids.length c451)], (blk_at Hx2.out (kept_trans KB411.out Kk453.out)), rfl, Nat.le_of_ble_eq_true rfl, ?_⟩
                  intro W455 hW455
                  go_wp2_with fail
                  refine bodyPost_ret (results_cell_row rfl _ _ (w.heap.size + 1) 51 _ _ dh rfl (blk_same (blk_at Hx2.out (kept_trans KB411.out Kk453.out)) hW455) dh1 (by cases dh <;> first | rfl | exact dh2) (by kernel_rfl)) rfl ?_
                  rw [show heTurn h = U427 from by unfold heTurn; rw [Hhb9.out]; rw [← HU427.out]; rw [← HU407.out]; rw [← HU391.out]; rw [← HU382.out]; rw [← HU26.out]; (try rfl)]
                  exact ⟨_, _, _, _, _, rfl, ⟨par_end (par_row' Hhl433.out hW455 (by omega) (by have := Z0.out; omega)) (by have := Z0.out; omega), par_end (par_row' Hhl434.out hW455 (by omega) (by have := Z0.out; omega)) (by have := Z0.out; omega), par_end (par_row' Hhl435.out hW455 (by omega) (by have := Z0.out; omega)) (by have := Z0.out; omega), par_end (par_row' Hhl436.out hW455 (by omega) (by have := Z0.out; omega)) (by have := Z0.out; omega), par_end (par_row' Hhl437.out hW455 (by omega) (by have := Z0.out; omega)) (by have := Z0.out; omega)⟩, kept_set (kept_trans KB410.out Kk453.out) hW455 (by omega)⟩
                exact AllReadyH.nil
              exact AllReadyH.nil
            exact AllReadyH.nil
          exact AllReadyH.nil
        exact AllReadyH.nil
      exact AllReadyH.nil
    refine AllReadyH.cons (o := hturnr3_24) rfl (fun K hK => ?_) ?_
    · unfold hturnr3_24
      go_simp
      refine at_K (fun W456 hW456 => ?_)
      obtain ⟨k458, x457, z459⟩ := alloc1 hW456
      have Kk460 := Lib.hid k458
      clear k458
      have Hx457 := Lib.hid x457
      have Hz459 := Lib.hid z459
      clear x457 z459 hW456
      have HG461 : Hid (V0.heap.size ≤ W15.heap.size) := (Below.size (kept_trans Kk11.out Kk18.out))
      have XL462 := Lib.hid (xlt_more (xlt_nil _) Kk460.out (by have := Hz459.out; omega))
      have HL463 : Hid (LiesQ W456 (Par w V0.heap.size (W15.heap.size :: []) P) h.a.kids _) := (par_more (HLha.out.later (kept_trans Kk11.out Kk18.out))).later Kk460.out
      have HL464 : Hid (LiesQ W456 (Par w V0.heap.size (W15.heap.size :: []) P) h.b.kids _) := (par_more (HLhb.out.later (kept_trans Kk11.out Kk18.out))).later Kk460.out
      have HL465 : Hid (LiesQ W456 (Par w V0.heap.size (W15.heap.size :: []) P) h.x.kids _) := (par_more (HLhx.out.later (kept_trans Kk11.out Kk18.out))).later Kk460.out
      have HL466 : Hid (LiesQ W456 (Par w V0.heap.size (W15.heap.size :: []) P) h.y.kids _) := (par_more (HLhy.out.later (kept_trans Kk11.out Kk18.out))).later Kk460.out
      have HL467 : Hid (LiesQ W456 (Par w V0.heap.size (W15.heap.size :: []) P) h.h.kids _) := (par_more (HLhh.out.later (kept_trans Kk11.out Kk18.out))).later Kk460.out
      clear hHeld
      refine hK.out _ _ ?_ (fun hHeld => ?_)
      · (try dsimp only)
        exact sees_kept _ Kk460.out
      clear hK K
      (try simp only [Act.put, List.setIfInBounds_toArray, List.set_cons_zero, List.set_cons_succ])
      refine wpAnyH_ready (rs := [5]) (by kernel_rfl) (by simp) ?_
      refine AllReadyH.cons (o := hturnr3_5) rfl (fun K hK => ?_) ?_
      · unfold hturnr3_5
        go_simp
        refine (hpoints_any h.i (Par w V0.heap.size (W15.heap.size :: []) P) _ Gh.out.1).mono ?_
        obtain ⟨U475, hU475⟩ : ∃ qu, pointsT h.i = qu := ⟨_, rfl⟩
        rw [hU475]
        have HU475 := Lib.hid hU475
        clear hU475
        rintro e w468 ⟨s470, rfl, hl471, k469⟩
        obtain ⟨a472, c473, S474, rfl, -⟩ := hl471.out
        have Kk476 := Lib.hid k469
        clear k469
        have Hhl471 : Hid (LiesQ w468 (Par w V0.heap.size (W15.heap.size :: []) P) U475.kids _) := par_give hl471 (Below.size (kept_trans Kk11.out (kept_trans Kk18.out Kk460.out))) XL462.out
        clear hl471
        clear hHeld
        refine hK.out _ _ ?_ (fun hHeld => ?_)
        · (try dsimp only)
          exact sees_kept _ (kept_trans Kk460.out Kk476.out)
        clear hK K
        (try simp only [Act.put, List.setIfInBounds_toArray, List.set_cons_zero, List.set_cons_succ])
        refine wpAnyH_ready (rs := [12]) (by kernel_rfl) (by simp) ?_
        refine AllReadyH.cons (o := hturnr3_12) rfl (fun K hK => ?_) ?_
        · unfold hturnr3_12
          go_simp
          refine (hpoint_any h.i h.a h.x (Par w V0.heap.size (W15.heap.size :: []) P) _ (.slice aha h.a.kids.length cha) (.slice ahx h.x.kids.length chx) Gh.out.1 Gh.out.2.1 (HL463.out.later Kk476.out) Gh.out.2.2.2.1 (HL465.out.later Kk476.out) (heR_pl Hhb9.out _ (by simp)) (heR_pl Hhb9.out _ (by simp))).mono ?_
          obtain ⟨U484, hU484⟩ : ∃ qu, pointT h.i h.a h.x = qu := ⟨_, rfl⟩
          rw [hU484]
          have HU484 := Lib.hid hU484
          clear hU484
          rintro e w477 ⟨s479, rfl, hl480, k478⟩
          obtain ⟨a481, c482, S483, rfl, -⟩ := hl480.out
          have Kk485 := Lib.hid k478
          clear k478
          have Hhl480 : Hid (LiesQ w477 (Par w V0.heap.size (W15.heap.size :: []) P) U484.kids _) := par_give hl480 (Below.size (kept_trans Kk11.out (kept_trans Kk18.out (kept_trans Kk460.out Kk476.out)))) (xlt_later XL462.out Kk476.out)
          clear hl480
          clear hHeld
          refine hK.out _ _ ?_ (fun hHeld => ?_)
          · (try dsimp only)
            exact sees_kept _ (kept_trans Kk460.out (kept_trans Kk476.out Kk485.out))
          clear hK K
          (try simp only [Act.put, List.setIfInBounds_toArray, List.set_cons_zero, List.set_cons_succ])
          refine wpAnyH_ready (rs := [19]) (by kernel_rfl) (by simp) ?_
          refine AllReadyH.cons (o := hturnr3_19) rfl (fun K hK => ?_) ?_
          · unfold hturnr3_19
            go_simp
            refine (hpoint_any h.i h.b h.y (Par w V0.heap.size (W15.heap.size :: []) P) _ (.slice ahb h.b.kids.length chb) (.slice ahy h.y.kids.length chy) Gh.out.1 Gh.out.2.2.1 (HL464.out.later (kept_trans Kk476.out Kk485.out)) Gh.out.2.2.2.2.1 (HL466.out.later (kept_trans Kk476.out Kk485.out)) (heR_pl Hhb9.out _ (by simp)) (heR_pl Hhb9.out _ (by simp))).mono ?_
            obtain ⟨U493, hU493⟩ : ∃ qu, pointT h.i h.b h.y = qu := ⟨_, rfl⟩
            rw [hU493]
            have HU493 := Lib.hid hU493
            clear hU493
            rintro e w486 ⟨s488, rfl, hl489, k487⟩
            obtain ⟨a490, c491, S492, rfl, -⟩ := hl489.out
            have Kk494 := Lib.hid k487
            clear k487
            have Hhl489 : Hid (LiesQ w486 (Par w V0.heap.size (W15.heap.size :: []) P) U493.kids _) := par_give hl489 (Below.size (kept_trans Kk11.out (kept_trans Kk18.out (kept_trans Kk460.out (kept_trans Kk476.out Kk485.out))))) (xlt_later XL462.out (kept_trans Kk476.out Kk485.out))
            clear hl489
            clear hHeld
            refine hK.out _ _ ?_ (fun hHeld => ?_)
            · (try dsimp only)
              exact sees_kept _ (kept_trans Kk460.out (kept_trans Kk476.out (kept_trans Kk485.out Kk494.out)))
            clear hK K
            (try simp only [Act.put, List.setIfInBounds_toArray, List.set_cons_zero, List.set_cons_succ])
            refine wpAnyH_ready (rs := [22]) (by kernel_rfl) (by simp) ?_
            refine AllReadyH.cons (o := hturnr3_22) rfl (fun K hK => ?_) ?_
            · unfold hturnr3_22
              go_simp
              refine at_K (fun W496 hW496 => ?_)
              obtain ⟨k498, x497, z499⟩ := alloc1 hW496
              have Kk500 := Lib.hid k498
              clear k498
              have Hx497 := Lib.hid x497
              have Hz499 := Lib.hid z499
              clear x497 z499 hW496
              have HR501 : Hid (LiesQ W496 (Par w V0.heap.size (W15.heap.size :: []) P) [U475, U484, U493, h.h] (.slice (some ⟨w486.heap.size, 0, none⟩) 4 4)) := q_row [(U475, (.slice a472 U475.kids.length c473)), (U484, (.slice a481 U484.kids.length c482)), (U493, (.slice a490 U493.kids.length c491)), (h.h, (.slice ahh h.h.kids.length chh))] _ rfl Hx497.out (par_new (Below.size (kept_trans Kk11.out (kept_trans Kk18.out (kept_trans Kk460.out (kept_trans Kk476.out (kept_trans Kk485.out Kk494.out)))))) (xlt_later XL462.out (kept_trans Kk476.out (kept_trans Kk485.out Kk494.out))) (Nat.le_refl _)) (fun p hp => by
                simp only [List.mem_cons, List.not_mem_nil, or_false] at hp
                rcases hp with rfl | rfl | rfl | rfl
                · exact ⟨(by rw [← HU475.out]; exact (right_fine (plain_right (points_plain (heR_lev Hhb9.out))))), (Hhl471.out.later (kept_trans Kk485.out (kept_trans Kk494.out Kk500.out)))⟩
                · exact ⟨(by rw [← HU484.out]; exact (right_fine (plain_right (point_plain (heR_lev Hhb9.out) (heR_pl Hhb9.out _ (by simp)) (heR_pl Hhb9.out _ (by simp)))))), (Hhl480.out.later (kept_trans Kk494.out Kk500.out))⟩
                · exact ⟨(by rw [← HU493.out]; exact (right_fine (plain_right (point_plain (heR_lev Hhb9.out) (heR_pl Hhb9.out _ (by simp)) (heR_pl Hhb9.out _ (by simp)))))), (Hhl489.out.later Kk500.out)⟩
                · exact ⟨Gh.out.2.2.2.2.2, (HL467.out.later (kept_trans Kk476.out (kept_trans Kk485.out (kept_trans Kk494.out Kk500.out))))⟩) (Nat.le_of_ble_eq_true rfl)
              clear hHeld
              refine hK.out _ _ ?_ (fun hHeld => ?_)
              · (try dsimp only)
                exact sees_kept _ (kept_trans Kk460.out (kept_trans Kk476.out (kept_trans Kk485.out (kept_trans Kk494.out Kk500.out))))
              clear hK K
              (try simp only [Act.put, List.setIfInBounds_toArray, List.set_cons_zero, List.set_cons_succ])
              refine wpAnyH_ready (rs := [23]) (by kernel_rfl) (by simp) ?_
              refine AllReadyH.cons (o := hturnr3_23) rfl (fun K hK => ?_) ?_
              · unfold hturnr3_23
                go_simp
                refine (huse_any 3 (h.i + 1) [U475, U484, U493, h.h] (Par w V0.heap.size (W15.heap.size :: []) P) _ _ (show I64 3 from by unfold I64; decide) (lev_succ (heR_lev Hhb9.out) (by decide)) HR501.out (fun x hx => by
                  simp only [List.mem_cons, List.not_mem_nil, or_false] at hx
                  rcases hx with rfl | rfl | rfl | rfl
                  · exact (by rw [← HU475.out]; exact (points_plain (heR_lev Hhb9.out)))
                  · exact (by rw [← HU484.out]; exact (point_plain (heR_lev Hhb9.out) (heR_pl Hhb9.out _ (by simp)) (heR_pl Hhb9.out _ (by simp))))
                  · exact (by rw [← HU493.out]; exact (point_plain (heR_lev Hhb9.out) (heR_pl Hhb9.out _ (by simp)) (heR_pl Hhb9.out _ (by simp))))
                  · exact (heR_pl Hhb9.out _ (by simp))) (Nat.le_of_ble_eq_true rfl)).mono ?_
                obtain ⟨U509, hU509⟩ : ∃ qu, useT 3 (h.i + 1) 0 [U475, U484, U493, h.h] = qu := ⟨_, rfl⟩
                rw [hU509]
                have HU509 := Lib.hid hU509
                clear hU509
                rintro e w502 ⟨s504, rfl, hl505, k503⟩
                obtain ⟨a506, c507, S508, rfl, -⟩ := hl505.out
                have Kk510 := Lib.hid k503
                clear k503
                have Hhl505 : Hid (LiesQ w502 (Par w V0.heap.size (W15.heap.size :: []) P) U509.kids _) := par_give hl505 (Below.size (kept_trans Kk11.out (kept_trans Kk18.out (kept_trans Kk460.out (kept_trans Kk476.out (kept_trans Kk485.out (kept_trans Kk494.out Kk500.out))))))) (xlt_later XL462.out (kept_trans Kk476.out (kept_trans Kk485.out (kept_trans Kk494.out Kk500.out))))
                clear hl505
                clear hHeld
                refine hK.out _ _ ?_ (fun hHeld => ?_)
                · (try dsimp only)
                  exact sees_kept _ (kept_trans Kk460.out (kept_trans Kk476.out (kept_trans Kk485.out (kept_trans Kk494.out (kept_trans Kk500.out Kk510.out)))))
                clear hK K
                (try simp only [Act.put, List.setIfInBounds_toArray, List.set_cons_zero, List.set_cons_succ])
                refine wpAnyH_ready (rs := [25]) (by kernel_rfl) (by simp) ?_
                refine AllReadyH.cons (o := hturnr3_25) rfl (fun K hK => ?_) ?_
                · unfold hturnr3_25
                  refine step_store_part rfl 32 (.tmp 3) (.tmp 31) rfl (W15.heap.size) 0 #[.int .i64 U509.k, .int .i64 U509.i, .int .i64 U509.j, .int .i64 U509.n, (.slice a506 U509.kids.length c507)] rfl rfl 32 size_term (row_ok rfl) _ #[.int .i64 U509.k, .int .i64 U509.i, .int .i64 U509.j, .int .i64 U509.n, (.slice a506 U509.kids.length c507)] (blk_at Hx457.out (kept_trans Kk476.out (kept_trans Kk485.out (kept_trans Kk494.out (kept_trans Kk500.out Kk510.out))))) rfl (Nat.le_of_ble_eq_true rfl) ?_
                  intro W511 hW511
                  have KB512 := Lib.hid (kept_set (kept_trans Kk5.out (kept_trans Kk11.out (kept_trans Kk18.out (kept_trans Kk460.out (kept_trans Kk476.out (kept_trans Kk485.out (kept_trans Kk494.out (kept_trans Kk500.out Kk510.out)))))))) hW511 (by have := HG461.out; have := Z0.out; omega))
                  have KB513 := Lib.hid (kept_set (kept_trans Kk11.out (kept_trans Kk18.out (kept_trans Kk460.out (kept_trans Kk476.out (kept_trans Kk485.out (kept_trans Kk494.out (kept_trans Kk500.out Kk510.out))))))) hW511 HG461.out)
                  have KB514 := Lib.hid (kept_set (kept_trans Kk460.out (kept_trans Kk476.out (kept_trans Kk485.out (kept_trans Kk494.out (kept_trans Kk500.out Kk510.out))))) hW511 (Below.size (kept_refl _)))
                  have HL515 : Hid (LiesQ W511 (Par w V0.heap.size (W15.heap.size :: []) P) h.a.kids _) := par_set (HL463.out.later (kept_trans Kk476.out (kept_trans Kk485.out (kept_trans Kk494.out (kept_trans Kk500.out Kk510.out))))) hW511 (List.mem_cons_self ..) (by have := HG461.out; have := Z0.out; omega)
                  have HL516 : Hid (LiesQ W511 (Par w V0.heap.size (W15.heap.size :: []) P) h.b.kids _) := par_set (HL464.out.later (kept_trans Kk476.out (kept_trans Kk485.out (kept_trans Kk494.out (kept_trans Kk500.out Kk510.out))))) hW511 (List.mem_cons_self ..) (by have := HG461.out; have := Z0.out; omega)
                  have HL517 : Hid (LiesQ W511 (Par w V0.heap.size (W15.heap.size :: []) P) h.x.kids _) := par_set (HL465.out.later (kept_trans Kk476.out (kept_trans Kk485.out (kept_trans Kk494.out (kept_trans Kk500.out Kk510.out))))) hW511 (List.mem_cons_self ..) (by have := HG461.out; have := Z0.out; omega)
                  have HL518 : Hid (LiesQ W511 (Par w V0.heap.size (W15.heap.size :: []) P) h.y.kids _) := par_set (HL466.out.later (kept_trans Kk476.out (kept_trans Kk485.out (kept_trans Kk494.out (kept_trans Kk500.out Kk510.out))))) hW511 (List.mem_cons_self ..) (by have := HG461.out; have := Z0.out; omega)
                  have HL519 : Hid (LiesQ W511 (Par w V0.heap.size (W15.heap.size :: []) P) h.h.kids _) := par_set (HL467.out.later (kept_trans Kk476.out (kept_trans Kk485.out (kept_trans Kk494.out (kept_trans Kk500.out Kk510.out))))) hW511 (List.mem_cons_self ..) (by have := HG461.out; have := Z0.out; omega)
                  have HL520 : Hid (LiesQ W511 (Par w V0.heap.size (W15.heap.size :: []) P) U475.kids _) := par_set (Hhl471.out.later (kept_trans Kk485.out (kept_trans Kk494.out (kept_trans Kk500.out Kk510.out)))) hW511 (List.mem_cons_self ..) (by have := HG461.out; have := Z0.out; omega)
                  have HL521 : Hid (LiesQ W511 (Par w V0.heap.size (W15.heap.size :: []) P) U484.kids _) := par_set (Hhl480.out.later (kept_trans Kk494.out (kept_trans Kk500.out Kk510.out))) hW511 (List.mem_cons_self ..) (by have := HG461.out; have := Z0.out; omega)
                  have HL522 : Hid (LiesQ W511 (Par w V0.heap.size (W15.heap.size :: []) P) U493.kids _) := par_set (Hhl489.out.later (kept_trans Kk500.out Kk510.out)) hW511 (List.mem_cons_self ..) (by have := HG461.out; have := Z0.out; omega)
                  have HL523 : Hid (LiesQ W511 (Par w V0.heap.size (W15.heap.size :: []) P) [U475, U484, U493, h.h] _) := par_set (HR501.out.later Kk510.out) hW511 (List.mem_cons_self ..) (by have := HG461.out; have := Z0.out; omega)
                  have HL524 : Hid (LiesQ W511 (Par w V0.heap.size (W15.heap.size :: []) P) U509.kids _) := par_set Hhl505.out hW511 (List.mem_cons_self ..) (by have := HG461.out; have := Z0.out; omega)
                  have XL525 := Lib.hid (xlt_set (xlt_later XL462.out (kept_trans Kk476.out (kept_trans Kk485.out (kept_trans Kk494.out (kept_trans Kk500.out Kk510.out))))) hW511)
                  have HX526 := Lib.hid (blk_same (blk_at Hx457.out (kept_trans Kk476.out (kept_trans Kk485.out (kept_trans Kk494.out (kept_trans Kk500.out Kk510.out))))) hW511)
                  clear hW511
                  clear hHeld
                  refine hK.out _ _ ?_ (fun hHeld => ?_)
                  · (try dsimp only)
                    exact sees_kept _ KB514.out
                  clear hK K
                  (try simp only [Act.put])
                  refine wpAnyH_done (by kernel_rfl) ?_ _
                  clear hHeld
                  have kvV0 : Sees V0 (w.heap.size + 1) W511 := sees_kept _ KB513.out
                  have kvW511 : Sees W511 (w.heap.size + 1) W511 := sees_kept _ (kept_refl _)
                  go_wp2_with (refine stop_load 32 (.tmp 34) rfl ?_)
                  intro _
                  refine wpList_load_part (w.heap.size) 6 32 (.tmp 34) #[.int .i64 h.b.k, .int .i64 h.b.i, .int .i64 h.b.j, .int .i64 h.b.n, (.slice ahb h.b.kids.length chb)] du (blk_at Hx1.out KB513.out) (by rfl) rfl (by rfl) (by rfl) hu1 (by cases du <;> first | rfl | exact hu2) size_term ?_
                  go_wp2_with (refine stop_load 32 (.tmp 36) rfl ?_)
                  intro _
                  refine wpList_load_part (w.heap.size) 1 32 (.tmp 36) #[.int .i64 h.a.k, .int .i64 h.a.i, .int .i64 h.a.j, .int .i64 h.a.n, (.slice aha h.a.kids.length cha)] du (blk_at Hx1.out KB513.out) (by rfl) rfl (by rfl) (by rfl) hu1 (by cases du <;> first | rfl | exact hu2) size_term ?_
                  go_wp2_with (refine stop_load 32 (.tmp 38) rfl ?_)
                  intro _
                  refine wpList_load_part (w.heap.size) 16 32 (.tmp 38) #[.int .i64 h.y.k, .int .i64 h.y.i, .int .i64 h.y.j, .int .i64 h.y.n, (.slice ahy h.y.kids.length chy)] du (blk_at Hx1.out KB513.out) (by rfl) rfl (by rfl) (by rfl) hu1 (by cases du <;> first | rfl | exact hu2) size_term ?_
                  go_wp2_with (refine stop_load 32 (.tmp 40) rfl ?_)
                  intro _
                  refine wpList_load_part (w.heap.size) 11 32 (.tmp 40) #[.int .i64 h.x.k, .int .i64 h.x.i, .int .i64 h.x.j, .int .i64 h.x.n, (.slice ahx h.x.kids.length chx)] du (blk_at Hx1.out KB513.out) (by rfl) rfl (by rfl) (by rfl) hu1 (by cases du <;> first | rfl | exact hu2) size_term ?_
                  go_wp2_with (refine stop_load 32 (.tmp 3) rfl ?_)
                  intro _
                  refine wpList_load_part (W15.heap.size) 0 32 (.tmp 3) #[.int .i64 U509.k, .int .i64 U509.i, .int .i64 U509.j, .int .i64 U509.n, (.slice a506 U509.kids.length c507)] du HX526.out (by rfl) rfl (by rfl) (by rfl) hu1 (by cases du <;> first | rfl | exact hu2) size_term ?_
                  go_wp2_with fail
                  clear kvV0
                  clear kvW511
                  refine (hfresh_any (⟨h.i, h.b, h.a, h.y, h.x, U509⟩ : He) (Par w V0.heap.size (W15.heap.size :: []) P) _ (.slice ahb h.b.kids.length chb) (.slice aha h.a.kids.length cha) (.slice ahy h.y.kids.length chy) (.slice ahx h.x.kids.length chx) (.slice a506 U509.kids.length c507) ⟨Gh.out.1, Gh.out.2.2.1, Gh.out.2.1, Gh.out.2.2.2.2.1, Gh.out.2.2.2.1, (by rw [← HU509.out]; exact (use_fine (show I64 3 from by unfold I64; decide) (lev_succ (heR_lev Hhb9.out) (by decide)) (by unfold I64; decide)))⟩ ⟨HL516.out, HL515.out, HL518.out, HL517.out, HL524.out⟩ (heR_pl Hhb9.out _ (by simp)) (heR_pl Hhb9.out _ (by simp)) (heR_pl Hhb9.out _ (by simp)) (heR_pl Hhb9.out _ (by simp))).mono ?_
                  obtain ⟨U529, hU529⟩ : ∃ qu, (⟨h.i, h.b, h.a, h.y, h.x, U509⟩ : He) = qu := ⟨_, rfl⟩
                  rw [hU529]
                  have HU529 := Lib.hid hU529
                  clear hU529
                  rintro e w527 ⟨s530, s531, s532, s533, s534, rfl, ⟨hl535, hl536, hl537, hl538, hl539⟩, k528⟩
                  obtain ⟨a540, c541, S542, rfl, -⟩ := hl535.out
                  obtain ⟨a543, c544, S545, rfl, -⟩ := hl536.out
                  obtain ⟨a546, c547, S548, rfl, -⟩ := hl537.out
                  obtain ⟨a549, c550, S551, rfl, -⟩ := hl538.out
                  obtain ⟨a552, c553, S554, rfl, -⟩ := hl539.out
                  have Kk555 := Lib.hid k528
                  clear k528
                  have Hhl535 : Hid (LiesQ w527 (Par w V0.heap.size (W15.heap.size :: []) P) U529.a.kids _) := par_give hl535 (Below.size KB513.out) XL525.out
                  have Hhl536 : Hid (LiesQ w527 (Par w V0.heap.size (W15.heap.size :: []) P) U529.b.kids _) := par_give hl536 (Below.size KB513.out) XL525.out
                  have Hhl537 : Hid (LiesQ w527 (Par w V0.heap.size (W15.heap.size :: []) P) U529.x.kids _) := par_give hl537 (Below.size KB513.out) XL525.out
                  have Hhl538 : Hid (LiesQ w527 (Par w V0.heap.size (W15.heap.size :: []) P) U529.y.kids _) := par_give hl538 (Below.size KB513.out) XL525.out
                  have Hhl539 : Hid (LiesQ w527 (Par w V0.heap.size (W15.heap.size :: []) P) U529.h.kids _) := par_give hl539 (Below.size KB513.out) XL525.out
                  clear hl535 hl536 hl537 hl538 hl539
                  have kvV0 : Sees V0 (w.heap.size + 1) w527 := sees_kept _ (kept_trans KB513.out Kk555.out)
                  have kvW511 : Sees W511 (w.heap.size + 1) w527 := sees_kept _ Kk555.out
                  go_wp2_with (refine stop_store 51 (.tmp 2) (.tmp 44) rfl ?_)
                  intro _
                  refine wpList_store_part_n (by rfl) 51 (.tmp 2) (.tmp 44) rfl (w.heap.size + 1) 0 #[.int .i64 U529.i, .int .i64 U529.a.k, .int .i64 U529.a.i, .int .i64 U529.a.j, .int .i64 U529.a.n, (.slice a540 U529.a.kids.length c541), .int .i64 U529.b.k, .int .i64 U529.b.i, .int .i64 U529.b.j, .int .i64 U529.b.n, (.slice a543 U529.b.kids.length c544), .int .i64 U529.x.k, .int .i64 U529.x.i, .int .i64 U529.x.j, .int .i64 U529.x.n, (.slice a546 U529.x.kids.length c547), .int .i64 U529.y.k, .int .i64 U529.y.i, .int .i64 U529.y.j, .int .i64 U529.y.n, (.slice a549 U529.y.kids.length c550), .int .i64 U529.h.k, .int .i64 U529.h.i, .int .i64 U529.h.j, .int .i64 U529.h.n, (.slice a552 U529.h.kids.length c553)] (by rfl) (by rfl) 51 (by kernel_rfl) (row_ok rfl) ?_
                  intro W556 hW556
                  clear kvV0
                  clear kvW511
                  subst hW556
                  refine ⟨_, #[.int .i64 U529.i, .int .i64 U529.a.k, .int .i64 U529.a.i, .int .i64 U529.a.j, .int .i64 U529.a.n, (.slice a540 U529.a.kids.length c541), .int .i64 U529.b.k, .int .i64 U529.b.i, .int .i64 U529.b.j, .int .i64 U529.b.n, (.slice a543 U529.b.kids.length c544), .int .i64 U529.x.k, .int .i64 U529.x.i, .int .i64 U529.x.j, .int .i64 U529.x.n, (.slice a546 U529.x.kids.length c547), .int .i64 U529.y.k, .int .i64 U529.y.i, .int .i64 U529.y.j, .int .i64 U529.y.n, (.slice a549 U529.y.kids.length c550), .int .i64 U529.h.k, .int .i64 U529.h.i, .int .i64 U529.h.j, .int .i64 U529.h.n, (.slice a552 U529.h.kids.length c553)], (blk_at Hx2.out (kept_trans KB513.out Kk555.out)), rfl, Nat.le_of_ble_eq_true rfl, ?_⟩
                  intro W557 hW557
                  go_wp2_with fail
                  refine bodyPost_ret (results_cell_row rfl _ _ (w.heap.size + 1) 51 _ _ dh rfl (blk_same (blk_at Hx2.out (kept_trans KB513.out Kk555.out)) hW557) dh1 (by cases dh <;> first | rfl | exact dh2) (by kernel_rfl)) rfl ?_
                  rw [show heTurn h = U529 from by unfold heTurn; rw [Hhb9.out]; rw [← HU529.out]; rw [← HU509.out]; rw [← HU493.out]; rw [← HU484.out]; rw [← HU475.out]; (try rfl)]
                  exact ⟨_, _, _, _, _, rfl, ⟨par_end (par_row' Hhl535.out hW557 (by omega) (by have := Z0.out; omega)) (by have := Z0.out; omega), par_end (par_row' Hhl536.out hW557 (by omega) (by have := Z0.out; omega)) (by have := Z0.out; omega), par_end (par_row' Hhl537.out hW557 (by omega) (by have := Z0.out; omega)) (by have := Z0.out; omega), par_end (par_row' Hhl538.out hW557 (by omega) (by have := Z0.out; omega)) (by have := Z0.out; omega), par_end (par_row' Hhl539.out hW557 (by omega) (by have := Z0.out; omega)) (by have := Z0.out; omega)⟩, kept_set (kept_trans KB512.out Kk555.out) hW557 (by omega)⟩
                exact AllReadyH.nil
              exact AllReadyH.nil
            exact AllReadyH.nil
          exact AllReadyH.nil
        exact AllReadyH.nil
      exact AllReadyH.nil
    exact AllReadyH.nil

def hselfr3_0 : Oper := { dst := some 15, op := Go.Op.move (Go.Operand.tmp 0), type := 3, pos := "het.go:59", after := #[], guard := none }
def hselfr3_1 : Oper := { dst := some 16, op := Go.Op.call { callee := Go.Callee.value (Go.Operand.func 106), args := #[Go.Operand.tmp 15], argTypes := #[3] }, type := 32, pos := "het.go:59", after := #[{ on := 0, ground := Go.Ground.data }], guard := none }
def hselfr3_2 : Oper := { dst := some 17, op := Go.Op.move (Go.Operand.tmp 0), type := 3, pos := "het.go:59", after := #[], guard := none }
def hselfr3_3 : Oper := { dst := some 18, op := Go.Op.load 32 (Go.Operand.tmp 4), type := 32, pos := "het.go:59", after := #[], guard := none }
def hselfr3_4 : Oper := { dst := some 19, op := Go.Op.load 32 (Go.Operand.tmp 5), type := 32, pos := "het.go:59", after := #[], guard := none }
def hselfr3_5 : Oper := { dst := some 20, op := Go.Op.call { callee := Go.Callee.value (Go.Operand.func 100), args := #[Go.Operand.tmp 17, Go.Operand.tmp 18, Go.Operand.tmp 19], argTypes := #[3, 32, 32] }, type := 32, pos := "het.go:59", after := #[{ on := 2, ground := Go.Ground.data }, { on := 3, ground := Go.Ground.data }, { on := 4, ground := Go.Ground.data }, { on := 1, ground := Go.Ground.chain }], guard := none }
def hselfr3_6 : Oper := { dst := some 21, op := Go.Op.buildSlice 30 2 #[(0, Go.Operand.tmp 16), (1, Go.Operand.tmp 20)], type := 30, pos := "het.go:59", after := #[{ on := 1, ground := Go.Ground.data }, { on := 5, ground := Go.Ground.data }], guard := none }
def hselfr3_7 : Oper := { dst := some 22, op := Go.Op.build 32 #[(0, Go.Operand.const (Go.Value.int Go.IntKind.i64 21)), (4, Go.Operand.tmp 21)], type := 32, pos := "het.go:59", after := #[{ on := 6, ground := Go.Ground.data }], guard := none }
def hselfr3_8 : Oper := { dst := some 7, op := Go.Op.alloc 32, type := 0, pos := "het.go:59", after := #[], guard := none }
def hselfr3_9 : Oper := { dst := none, op := Go.Op.store 32 (Go.Operand.tmp 7) (Go.Operand.tmp 22), type := 0, pos := "het.go:59", after := #[{ on := 8, ground := Go.Ground.data }, { on := 7, ground := Go.Ground.data }, { on := 5, ground := Go.Ground.chain }, { on := 0, ground := Go.Ground.phase }, { on := 1, ground := Go.Ground.phase }, { on := 2, ground := Go.Ground.phase }, { on := 3, ground := Go.Ground.phase }, { on := 4, ground := Go.Ground.phase }, { on := 5, ground := Go.Ground.phase }, { on := 6, ground := Go.Ground.phase }, { on := 7, ground := Go.Ground.phase }, { on := 8, ground := Go.Ground.phase }], guard := none }
end Go.Proofs.Ytkdceahmknhojaa
