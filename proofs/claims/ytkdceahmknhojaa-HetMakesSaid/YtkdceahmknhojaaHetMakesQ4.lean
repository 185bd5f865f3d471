/-
  Facts and contracts that the proof of HetMakes uses.
-/
import Derived.Test.YtkdceahmknhojaaRows
import Derived.WalkKit
import Derived.Lib.Hide
import Derived.KernelRfl
import Derived.Deep.RegionWith
import Derived.Deep.RegionHeld3
import Derived.Deep.AppendLies
import Derived.Laws.Rows
import Derived.Laws.IdiomCopy
import Derived.Deep.Slices
import Derived.Lib.QuietBelow
import Derived.StillTailTactics
import Derived.BigQuiet
import Derived.IntWalk
import Derived.OwnWalk
import Derived.Deep.RegionLaw
import Derived.Deep.QuietTactic
import Derived.Deep.LoopGhost
import Derived.Deep.DeepCutAuto
import Derived.Deep.MidRow
import Derived.OrdersHeld
import Derived.Laws.Tables
import Derived.Laws.CopyOwn
import Derived.Laws.CopyRow
import Derived.Deep.RegionHeld
import Derived.ProofKit
import Derived.OpenShut
import Derived.Carry
import Derived.ChangeSlices
import Derived.JoinedOf
import Derived.Test.YtkdceahmknhojaaHetMakesQ3
namespace Go.Proofs.Ytkdceahmknhojaa
open Go.RowKit

theorem lift_fine {t : Tm} (k : Int) (h : t.plainB = true) : (t.liftB k 0).fine := by
  rcases lift_plain k h with ⟨h1, -⟩ | h1
  · exact right_fine (plain_right h1)
  · rw [h1]; exact zero_fine
def hLiftr3_0 : Oper := { dst := some 10, op := Go.Op.fieldAddr 51 (Go.Operand.tmp 2) 0, type := 0, pos := "het.go:111", after := #[], guard := none }
def hLiftr3_1 : Oper := { dst := some 11, op := Go.Op.load 3 (Go.Operand.tmp 10), type := 3, pos := "het.go:111", after := #[{ on := 0, ground := Go.Ground.data }], guard := none }
def hLiftr3_2 : Oper := { dst := some 12, op := Go.Op.fieldAddr 51 (Go.Operand.tmp 2) 1, type := 0, pos := "het.go:111", after := #[], guard := none }
def hLiftr3_3 : Oper := { dst := some 13, op := Go.Op.load 32 (Go.Operand.tmp 12), type := 32, pos := "het.go:111", after := #[{ on := 2, ground := Go.Ground.data }], guard := none }
def hLiftr3_4 : Oper := { dst := some 14, op := Go.Op.move (Go.Operand.tmp 1), type := 3, pos := "het.go:111", after := #[], guard := none }
def hLiftr3_5 : Oper := { dst := some 15, op := Go.Op.call { callee := Go.Callee.value (Go.Operand.func 112), args := #[Go.Operand.tmp 13, Go.Operand.tmp 14, Go.Operand.const (Go.Value.int Go.IntKind.i64 0)], argTypes := #[32, 3, 3] }, type := 32, pos := "het.go:111", after := #[{ on := 3, ground := Go.Ground.data }, { on := 4, ground := Go.Ground.data }], guard := none }
def hLiftr3_6 : Oper := { dst := some 16, op := Go.Op.fieldAddr 51 (Go.Operand.tmp 2) 2, type := 0, pos := "het.go:111", after := #[], guard := none }
def hLiftr3_7 : Oper := { dst := some 17, op := Go.Op.load 32 (Go.Operand.tmp 16), type := 32, pos := "het.go:111", after := #[{ on := 6, ground := Go.Ground.data }], guard := none }
def hLiftr3_8 : Oper := { dst := some 18, op := Go.Op.move (Go.Operand.tmp 1), type := 3, pos := "het.go:111", after := #[], guard := none }
def hLiftr3_9 : Oper := { dst := some 19, op := Go.Op.call { callee := Go.Callee.value (Go.Operand.func 112), args := #[Go.Operand.tmp 17, Go.Operand.tmp 18, Go.Operand.const (Go.Value.int Go.IntKind.i64 0)], argTypes := #[32, 3, 3] }, type := 32, pos := "het.go:111", after := #[{ on := 7, ground := Go.Ground.data }, { on := 8, ground := Go.Ground.data }, { on := 5, ground := Go.Ground.chain }], guard := none }
def hLiftr3_10 : Oper := { dst := some 20, op := Go.Op.fieldAddr 51 (Go.Operand.tmp 2) 3, type := 0, pos := "het.go:111", after := #[], guard := none }
def hLiftr3_11 : Oper := { dst := some 21, op := Go.Op.load 32 (Go.Operand.tmp 20), type := 32, pos := "het.go:111", after := #[{ on := 10, ground := Go.Ground.data }], guard := none }
def hLiftr3_12 : Oper := { dst := some 22, op := Go.Op.move (Go.Operand.tmp 1), type := 3, pos := "het.go:111", after := #[], guard := none }
def hLiftr3_13 : Oper := { dst := some 23, op := Go.Op.call { callee := Go.Callee.value (Go.Operand.func 112), args := #[Go.Operand.tmp 21, Go.Operand.tmp 22, Go.Operand.const (Go.Value.int Go.IntKind.i64 0)], argTypes := #[32, 3, 3] }, type := 32, pos := "het.go:111", after := #[{ on := 11, ground := Go.Ground.data }, { on := 12, ground := Go.Ground.data }, { on := 9, ground := Go.Ground.chain }], guard := none }
def hLiftr3_14 : Oper := { dst := some 24, op := Go.Op.fieldAddr 51 (Go.Operand.tmp 2) 4, type := 0, pos := "het.go:111", after := #[], guard := none }
def hLiftr3_15 : Oper := { dst := some 25, op := Go.Op.load 32 (Go.Operand.tmp 24), type := 32, pos := "het.go:111", after := #[{ on := 14, ground := Go.Ground.data }], guard := none }
def hLiftr3_16 : Oper := { dst := some 26, op := Go.Op.move (Go.Operand.tmp 1), type := 3, pos := "het.go:111", after := #[], guard := none }
def hLiftr3_17 : Oper := { dst := some 27, op := Go.Op.call { callee := Go.Callee.value (Go.Operand.func 112), args := #[Go.Operand.tmp 25, Go.Operand.tmp 26, Go.Operand.const (Go.Value.int Go.IntKind.i64 0)], argTypes := #[32, 3, 3] }, type := 32, pos := "het.go:111", after := #[{ on := 15, ground := Go.Ground.data }, { on := 16, ground := Go.Ground.data }, { on := 13, ground := Go.Ground.chain }], guard := none }
def hLiftr3_18 : Oper := { dst := some 28, op := Go.Op.fieldAddr 51 (Go.Operand.tmp 2) 5, type := 0, pos := "het.go:111", after := #[], guard := none }
def hLiftr3_19 : Oper := { dst := some 29, op := Go.Op.load 32 (Go.Operand.tmp 28), type := 32, pos := "het.go:111", after := #[{ on := 18, ground := Go.Ground.data }], guard := none }
def hLiftr3_20 : Oper := { dst := some 30, op := Go.Op.move (Go.Operand.tmp 1), type := 3, pos := "het.go:111", after := #[], guard := none }
def hLiftr3_21 : Oper := { dst := some 31, op := Go.Op.call { callee := Go.Callee.value (Go.Operand.func 112), args := #[Go.Operand.tmp 29, Go.Operand.tmp 30, Go.Operand.const (Go.Value.int Go.IntKind.i64 0)], argTypes := #[32, 3, 3] }, type := 32, pos := "het.go:111", after := #[{ on := 19, ground := Go.Ground.data }, { on := 20, ground := Go.Ground.data }, { on := 17, ground := Go.Ground.chain }], guard := none }
def hLiftr3_22 : Oper := { dst := some 32, op := Go.Op.build 51 #[(0, Go.Operand.tmp 11), (1, Go.Operand.tmp 15), (2, Go.Operand.tmp 19), (3, Go.Operand.tmp 23), (4, Go.Operand.tmp 27), (5, Go.Operand.tmp 31)], type := 51, pos := "het.go:111", after := #[{ on := 1, ground := Go.Ground.data }, { on := 5, ground := Go.Ground.data }, { on := 9, ground := Go.Ground.data }, { on := 13, ground := Go.Ground.data }, { on := 17, ground := Go.Ground.data }, { on := 21, ground := Go.Ground.data }], guard := none }
def hLiftr3_23 : Oper := { dst := some 5, op := Go.Op.alloc 51, type := 0, pos := "het.go:111", after := #[], guard := none }
def hLiftr3_24 : Oper := { dst := none, op := Go.Op.store 51 (Go.Operand.tmp 5) (Go.Operand.tmp 32), type := 0, pos := "het.go:111", after := #[{ on := 23, ground := Go.Ground.data }, { on := 22, ground := Go.Ground.data }, { on := 21, ground := Go.Ground.chain }, { on := 0, ground := Go.Ground.phase }, { on := 1, ground := Go.Ground.phase }, { on := 2, ground := Go.Ground.phase }, { on := 3, ground := Go.Ground.phase }, { on := 4, ground := Go.Ground.phase }, { on := 5, ground := Go.Ground.phase }, { on := 6, ground := Go.Ground.phase }, { on := 7, ground := Go.Ground.phase }, { on := 8, ground := Go.Ground.phase }, { on := 9, ground := Go.Ground.phase }, { on := 10, ground := Go.Ground.phase }, { on := 11, ground := Go.Ground.phase }, { on := 12, ground := Go.Ground.phase }, { on := 13, ground := Go.Ground.phase }, { on := 14, ground := Go.Ground.phase }, { on := 15, ground := Go.Ground.phase }, { on := 16, ground := Go.Ground.phase }, { on := 17, ground := Go.Ground.phase }, { on := 18, ground := Go.Ground.phase }, { on := 19, ground := Go.Ground.phase }, { on := 20, ground := Go.Ground.phase }, { on := 21, ground := Go.Ground.phase }, { on := 22, ground := Go.Ground.phase }, { on := 23, ground := Go.Ground.phase }], guard := none }
set_option maxRecDepth 20000 in
set_option maxHeartbeats 4000000 in
theorem hLift_any (k : Int) (h : He) (P : Nat → Prop) (w : World) (sha : Value) (shb : Value) (shx : Value) (shy : Value) (shh : Value) (hfh : h.fine) (hlh : HQ w P h sha shb shx shy shh) (hrk : I64 k) (hd : ∀ x ∈ [h.a, h.b, h.x, h.y, h.h], x.deep ≤ 100000) : Calls Try.prog 41 #[hv h sha shb shx shy shh, .int .i64 k] w (GivesHP P (heLift h k) w) := by
  have Gh := Lib.hid hfh
  clear hfh
  obtain ⟨hlha, hlhb, hlhx, hlhy, hlhh⟩ := hlh
  obtain ⟨aha, cha, Sha, rfl, -⟩ := hlha.out
  obtain ⟨ahb, chb, Shb, rfl, -⟩ := hlhb.out
  obtain ⟨ahx, chx, Shx, rfl, -⟩ := hlhx.out
  obtain ⟨ahy, chy, Shy, rfl, -⟩ := hlhy.out
  obtain ⟨ahh, chh, Shh, rfl, -⟩ := hlhh.out
  have Rk := Lib.hid hrk
  clear hrk
  have HD := Lib.hid hd
  clear hd
  obtain ⟨du, hu1, hu2⟩ := under_term
  obtain ⟨dh, dh1, dh2⟩ := under_of 51 (by kernel_rfl)
  unfold hv
  go_enter Try.func41, Try.ntmps41
  go_upto_region 1 with fail
  refine at_code (fun V0 hV0 => ?_)
  obtain ⟨k3, x1, x2, z4⟩ := alloc2 hV0
  have Kk5 := Lib.hid k3
  clear k3
  have Hx1 := Lib.hid x1
  have Hx2 := Lib.hid x2
  have Z0 := Lib.hid z4
  clear z4 x1 x2 hV0
  have HLha : Hid (LiesQ V0 (Par w V0.heap.size [] P) h.a.kids _) := (par_in _ _ hlha).later Kk5.out
  clear hlha
  have HLhb : Hid (LiesQ V0 (Par w V0.heap.size [] P) h.b.kids _) := (par_in _ _ hlhb).later Kk5.out
  clear hlhb
  have HLhx : Hid (LiesQ V0 (Par w V0.heap.size [] P) h.x.kids _) := (par_in _ _ hlhx).later Kk5.out
  clear hlhx
  have HLhy : Hid (LiesQ V0 (Par w V0.heap.size [] P) h.y.kids _) := (par_in _ _ hlhy).later Kk5.out
  clear hlhy
  have HLhh : Hid (LiesQ V0 (Par w V0.heap.size [] P) h.h.kids _) := (par_in _ _ hlhh).later Kk5.out
  clear hlhh
  have ld6 := part_cell (r := (w.heap.size + 1)) Hx1.out (by have := Z0.out; omega) 0 (.int .i64 h.i) rfl
  have kvV0 : Sees V0 (w.heap.size + 1) V0 := sees_kept _ (kept_refl _)
  go_wp2_with (refine stop_load 51 (.tmp 2) rfl ?_)
  intro _
  refine wpList_load_part (w.heap.size) 0 51 (.tmp 2) #[.int .i64 h.i, .int .i64 h.a.k, .int .i64 h.a.i, .int .i64 h.a.j, .int .i64 h.a.n, (.slice aha h.a.kids.length cha), .int .i64 h.b.k, .int .i64 h.b.i, .int .i64 h.b.j, .int .i64 h.b.n, (.slice ahb h.b.kids.length chb), .int .i64 h.x.k, .int .i64 h.x.i, .int .i64 h.x.j, .int .i64 h.x.n, (.slice ahx h.x.kids.length chx), .int .i64 h.y.k, .int .i64 h.y.i, .int .i64 h.y.j, .int .i64 h.y.n, (.slice ahy h.y.kids.length chy), .int .i64 h.h.k, .int .i64 h.h.i, .int .i64 h.h.j, .int .i64 h.h.n, (.slice ahh h.h.kids.length chh)] dh Hx1.out (by rfl) rfl (by rfl) (by rfl) dh1 (by cases dh <;> first | rfl | exact dh2) (by kernel_rfl) ?_
  go_wp2_with fail
  clear kvV0
  refine (hrightHet_any h (Par w V0.heap.size [] P) _ (.slice aha h.a.kids.length cha) (.slice ahb h.b.kids.length chb) (.slice ahx h.x.kids.length chx) (.slice ahy h.y.kids.length chy) (.slice ahh h.h.kids.length chh) ⟨Gh.out.1, Gh.out.2.1, Gh.out.2.2.1, Gh.out.2.2.2.1, Gh.out.2.2.2.2.1, Gh.out.2.2.2.2.2⟩ ⟨HLha.out, HLhb.out, HLhx.out, HLhy.out, HLhh.out⟩).mono ?_
  obtain ⟨rb10, hb9⟩ : ∃ qb, heR h = qb := ⟨_, rfl⟩
  rw [hb9]
  have Hhb9 := Lib.hid hb9
  clear hb9
  rintro e w7 ⟨rfl, k8⟩
  have Kk11 := Lib.hid k8
  clear k8
  cases rb10 with
  | false =>
    have kvV0 : Sees V0 (w.heap.size + 1) w7 := sees_kept _ Kk11.out
    go_wp2_with (refine stop_store 51 (.tmp 4) (.tmp 9) rfl ?_)
    intro _
    refine wpList_store_part_n (by rfl) 51 (.tmp 4) (.tmp 9) rfl (w.heap.size + 1) 0 #[.int .i64 0, .int .i64 0, .int .i64 0, .int .i64 0, .int .i64 0, .slice none 0 0, .int .i64 0, .int .i64 0, .int .i64 0, .int .i64 0, .slice none 0 0, .int .i64 0, .int .i64 0, .int .i64 0, .int .i64 0, .slice none 0 0, .int .i64 0, .int .i64 0, .int .i64 0, .int .i64 0, .slice none 0 0, .int .i64 0, .int .i64 0, .int .i64 0, .int .i64 0, .slice none 0 0] (by rfl) (by rfl) 51 (by kernel_rfl) (row_ok rfl) ?_
    intro W12 hW12
    clear kvV0
    subst hW12
    refine ⟨_, #[.int .i64 0, .int .i64 0, .int .i64 0, .int .i64 0, .int .i64 0, .slice none 0 0, .int .i64 0, .int .i64 0, .int .i64 0, .int .i64 0, .slice none 0 0, .int .i64 0, .int .i64 0, .int .i64 0, .int .i64 0, .slice none 0 0, .int .i64 0, .int .i64 0, .int .i64 0, .int .i64 0, .slice none 0 0, .int .i64 0, .int .i64 0, .int .i64 0, .int .i64 0, .slice none 0 0], (blk_at Hx2.out Kk11.out), rfl, Nat.le_of_ble_eq_true rfl, ?_⟩
    intro W13 hW13
    go_wp2_with fail
    refine bodyPost_ret (results_cell_row rfl _ _ (w.heap.size + 1) 51 _ _ dh rfl (blk_same (blk_at Hx2.out Kk11.out) hW13) dh1 (by cases dh <;> first | rfl | exact dh2) (by kernel_rfl)) rfl ?_
    rw [show heLift h k = (⟨0, (.mk 0 0 0 0 []), (.mk 0 0 0 0 []), (.mk 0 0 0 0 []), (.mk 0 0 0 0 []), (.mk 0 0 0 0 [])⟩ : He) from by unfold heLift heUp; rw [Hhb9.out]; (try rfl)]
    exact ⟨_, _, _, _, _, rfl, ⟨par_end (par_row' (liesQ_nil w7 (Par w V0.heap.size [] P)) hW13 (by omega) (by have := Z0.out; omega)) (by have := Z0.out; omega), par_end (par_row' (liesQ_nil w7 (Par w V0.heap.size [] P)) hW13 (by omega) (by have := Z0.out; omega)) (by have := Z0.out; omega), par_end (par_row' (liesQ_nil w7 (Par w V0.heap.size [] P)) hW13 (by omega) (by have := Z0.out; omega)) (by have := Z0.out; omega), par_end (par_row' (liesQ_nil w7 (Par w V0.heap.size [] P)) hW13 (by omega) (by have := Z0.out; omega)) (by have := Z0.out; omega), par_end (par_row' (liesQ_nil w7 (Par w V0.heap.size [] P)) hW13 (by omega) (by have := Z0.out; omega)) (by have := Z0.out; omega)⟩, kept_set (kept_trans Kk5.out Kk11.out) hW13 (by omega)⟩
  | true =>
    have ew14 : IntKind.i64.wrap (h.i + 1) = h.i + 1 := IntWalk.i64_in _ (by have := levN_true (heR_lev Hhb9.out); omega)
    have kvV0 : Sees V0 (w.heap.size + 1) w7 := sees_kept _ Kk11.out
    go_wp2_with fail
    clear kvV0
    obtain ⟨W15, h16⟩ : ∃ x, World.drew w7 = x := ⟨_, rfl⟩
    have k17 : Kept w7 W15 := by rw [← h16]; exact kept_drew (kept_refl _)
    have Kk18 := Lib.hid k17
    clear k17
    refine wp_region_held_drew (S := Sees W15 (w.heap.size + 1)) (by kernel_rfl) ?_ (fun hHeld => ?_)
    · (try dsimp only)
      rw [h16]
      exact sees_kept _ (kept_refl _)
    rw [h16] at hHeld ⊢
    clear h16
    refine take_at 0 10 hLiftr3_0 (v := ?_) (Or.inl ⟨by rfl, ?_⟩) ?_
    rotate_left 1
    · ((intro w hSw; (try dsimp only at hSw); unfold hLiftr3_0; go_simp) <;> with_reducible rfl)
    (try simp only [Act.put, List.setIfInBounds_toArray, List.set_cons_zero, List.set_cons_succ])
    refine take_at 1 11 hLiftr3_1 (v := ?_) (Or.inl ⟨by rfl, ?_⟩) ?_
    rotate_left 1
    · ((intro w hSw; (try dsimp only at hSw); have qV0 := sees_of (kept_trans Kk11.out Kk18.out) hSw; unfold hLiftr3_1; go_simp) <;> with_reducible rfl)
    (try simp only [Act.put, List.setIfInBounds_toArray, List.set_cons_zero, List.set_cons_succ])
    refine take_at 2 12 hLiftr3_2 (v := ?_) (Or.inl ⟨by rfl, ?_⟩) ?_
    rotate_left 1
    · ((intro w hSw; (try dsimp only at hSw); unfold hLiftr3_2; go_simp) <;> with_reducible rfl)
    (try simp only [Act.put, List.setIfInBounds_toArray, List.set_cons_zero, List.set_cons_succ])
    refine take_at 3 13 hLiftr3_3 (yields_part (w.heap.size) 1 32 (.tmp 12) #[.int .i64 h.a.k, .int .i64 h.a.i, .int .i64 h.a.j, .int .i64 h.a.n, (.slice aha h.a.kids.length cha)] du (fun _ h => sees_blk Hx1.out (by have := Z0.out; omega) (sees_of (kept_trans Kk11.out Kk18.out) h)) (by rfl) rfl (by rfl) (by rfl) hu1 (by cases du <;> first | rfl | exact hu2) size_term) ?_
    (try simp only [Act.put, List.setIfInBounds_toArray, List.set_cons_zero, List.set_cons_succ])
    refine take_at 4 14 hLiftr3_4 (v := ?_) (Or.inl ⟨by rfl, ?_⟩) ?_
    rotate_left 1
    · ((intro w hSw; (try dsimp only at hSw); unfold hLiftr3_4; go_simp) <;> with_reducible rfl)
    (try simp only [Act.put, List.setIfInBounds_toArray, List.set_cons_zero, List.set_cons_succ])
    refine take_at 6 16 hLiftr3_6 (v := ?_) (Or.inl ⟨by rfl, ?_⟩) ?_
    rotate_left 1
    · ((intro w hSw; (try dsimp only at hSw); unfold hLiftr3_6; go_simp) <;> with_reducible rfl)
    (try simp only [Act.put, List.setIfInBounds_toArray, List.set_cons_zero, List.set_cons_succ])
    refine take_at 7 17 hLiftr3_7 (yields_part (w.heap.size) 6 32 (.tmp 16) #[.int .i64 h.b.k, .int .i64 h.b.i, .int .i64 h.b.j, .int .i64 h.b.n, (.slice ahb h.b.kids.length chb)] du (fun _ h => sees_blk Hx1.out (by have := Z0.out; omega) (sees_of (kept_trans Kk11.out Kk18.out) h)) (by rfl) rfl (by rfl) (by rfl) hu1 (by cases du <;> first | rfl | exact hu2) size_term) ?_
    (try simp only [Act.put, List.setIfInBounds_toArray, List.set_cons_zero, List.set_cons_succ])
    refine take_at 8 18 hLiftr3_8 (v := ?_) (Or.inl ⟨by rfl, ?_⟩) ?_
    rotate_left 1
    · ((intro w hSw; (try dsimp only at hSw); unfold hLiftr3_8; go_simp) <;> with_reducible rfl)
    (try simp only [Act.put, List.setIfInBounds_toArray, List.set_cons_zero, List.set_cons_succ])
    refine take_at 10 20 hLiftr3_10 (v := ?_) (Or.inl ⟨by rfl, ?_⟩) ?_
    rotate_left 1
    · ((intro w hSw; (try dsimp only at hSw); unfold hLiftr3_10; go_simp) <;> with_reducible rfl)
    (try simp only [Act.put, List.setIfInBounds_toArray, List.set_cons_zero, List.set_cons_succ])
    refine take_at 11 21 hLiftr3_11 (yields_part (w.heap.size) 11 32 (.tmp 20) #[.int .i64 h.x.k, .int .i64 h.x.i, .int .i64 h.x.j, .int .i64 h.x.n, (.slice ahx h.x.kids.length chx)] du (fun _ h => sees_blk Hx1.out (by have := Z0.out; omega) (sees_of (kept_trans Kk11.out Kk18.out) h)) (by rfl) rfl (by rfl) (by rfl) hu1 (by cases du <;> first | rfl | exact hu2) size_term) ?_
    (try simp only [Act.put, List.setIfInBounds_toArray, List.set_cons_zero, List.set_cons_succ])
    refine take_at 12 22 hLiftr3_12 (v := ?_) (Or.inl ⟨by rfl, ?_⟩) ?_
    rotate_left 1
    · ((intro w hSw; (try dsimp only at hSw); unfold hLiftr3_12; go_simp) <;> with_reducible rfl)
    (try simp only [Act.put, List.setIfInBounds_toArray, List.set_cons_zero, List.set_cons_succ])
    refine take_at 14 24 hLiftr3_14 (v := ?_) (Or.inl ⟨by rfl, ?_⟩) ?_
    rotate_left 1
    · ((intro w hSw; (try dsimp only at hSw); unfold hLiftr3_14; go_simp) <;> with_reducible rfl)
    (try simp only [Act.put, List.setIfInBounds_toArray, List.set_cons_zero, List.set_cons_succ])
    refine take_at 15 25 hLiftr3_15 (yields_part (w.heap.size) 16 32 (.tmp 24) #[.int .i64 h.y.k, .int .i64 h.y.i, .int .i64 h.y.j, .int .i64 h.y.n, (.slice ahy h.y.kids.length chy)] du (fun _ h => sees_blk Hx1.out (by have := Z0.out; omega) (sees_of (kept_trans Kk11.out Kk18.out) h)) (by rfl) rfl (by rfl) (by rfl) hu1 (by cases du <;> first | rfl | exact hu2) size_term) ?_
    (try simp only [Act.put, List.setIfInBounds_toArray, List.set_cons_zero, List.set_cons_succ])
    refine take_at 16 26 hLiftr3_16 (v := ?_) (Or.inl ⟨by rfl, ?_⟩) ?_
    rotate_left 1
    · ((intro w hSw; (try dsimp only at hSw); unfold hLiftr3_16; go_simp) <;> with_reducible rfl)
    (try simp only [Act.put, List.setIfInBounds_toArray, List.set_cons_zero, List.set_cons_succ])
    refine take_at 18 28 hLiftr3_18 (v := ?_) (Or.inl ⟨by rfl, ?_⟩) ?_
    rotate_left 1
    · ((intro w hSw; (try dsimp only at hSw); unfold hLiftr3_18; go_simp) <;> with_reducible rfl)
    (try simp only [Act.put, List.setIfInBounds_toArray, List.set_cons_zero, List.set_cons_succ])
    refine take_at 19 29 hLiftr3_19 (yields_part (w.heap.size) 21 32 (.tmp 28) #[.int .i64 h.h.k, .int .i64 h.h.i, .int .i64 h.h.j, .int .i64 h.h.n, (.slice ahh h.h.kids.length chh)] du (fun _ h => sees_blk Hx1.out (by have := Z0.out; omega) (sees_of (kept_trans Kk11.out Kk18.out) h)) (by rfl) rfl (by rfl) (by rfl) hu1 (by cases du <;> first | rfl | exact hu2) size_term) ?_
    (try simp only [Act.put, List.setIfInBounds_toArray, List.set_cons_zero, List.set_cons_succ])
    refine take_at 20 30 hLiftr3_20 (v := ?_) (Or.inl ⟨by rfl, ?_⟩) ?_
    rotate_left 1
    · ((intro w hSw; (try dsimp only at hSw); unfold hLiftr3_20; go_simp) <;> with_reducible rfl)
    (try simp only [Act.put, List.setIfInBounds_toArray, List.set_cons_zero, List.set_cons_succ])
    refine wpAnyH_ready (rs := [5, 23]) (by kernel_rfl) (by simp) ?_
    refine AllReadyH.cons (o := hLiftr3_5) rfl (fun K hK => ?_) ?_
    · unfold hLiftr3_5
      go_simp
      refine ((lift_any h.a k 0 _ (.slice aha h.a.kids.length cha) (HLha.out.later (kept_trans Kk11.out Kk18.out)).lies Rk.out (by unfold I64; decide) (HD.out _ (by simp))).mono (fun _ _ h => h.givesP (P := (Par w V0.heap.size [] P)))).mono ?_
      obtain ⟨U26, hU26⟩ : ∃ qu, h.a.liftB k 0 = qu := ⟨_, rfl⟩
      rw [hU26]
      have HU26 := Lib.hid hU26
      clear hU26
      rintro e w19 ⟨s21, rfl, hl22, k20⟩
      obtain ⟨a23, c24, S25, rfl, -⟩ := hl22.out
      have Kk27 := Lib.hid k20
      clear k20
      have Hhl22 : Hid (LiesQ w19 (Par w V0.heap.size [] P) U26.kids _) := par_give hl22 (Below.size (kept_trans Kk11.out Kk18.out)) (xlt_nil _)
      clear hl22
      clear hHeld
      refine hK.out _ _ ?_ (fun hHeld => ?_)
      · (try dsimp only)
        exact sees_kept _ Kk27.out
      clear hK K
      (try simp only [Act.put, List.setIfInBounds_toArray, List.set_cons_zero, List.set_cons_succ])
      refine wpAnyH_ready (rs := [9, 23]) (by kernel_rfl) (by simp) ?_
      refine AllReadyH.cons (o := hLiftr3_9) rfl (fun K hK => ?_) ?_
      · unfold hLiftr3_9
        go_simp
        refine ((lift_any h.b k 0 _ (.slice ahb h.b.kids.length chb) (HLhb.out.later (kept_trans Kk11.out (kept_trans Kk18.out Kk27.out))).lies Rk.out (by unfold I64; decide) (HD.out _ (by simp))).mono (fun _ _ h => h.givesP (P := (Par w V0.heap.size [] P)))).mono ?_
        obtain ⟨U35, hU35⟩ : ∃ qu, h.b.liftB k 0 = qu := ⟨_, rfl⟩
        rw [hU35]
        have HU35 := Lib.hid hU35
        clear hU35
        rintro e w28 ⟨s30, rfl, hl31, k29⟩
        obtain ⟨a32, c33, S34, rfl, -⟩ := hl31.out
        have Kk36 := Lib.hid k29
        clear k29
        have Hhl31 : Hid (LiesQ w28 (Par w V0.heap.size [] P) U35.kids _) := par_give hl31 (Below.size (kept_trans Kk11.out (kept_trans Kk18.out Kk27.out))) (xlt_nil _)
        clear hl31
        clear hHeld
        refine hK.out _ _ ?_ (fun hHeld => ?_)
        · (try dsimp only)
          exact sees_kept _ (kept_trans Kk27.out Kk36.out)
        clear hK K
        (try simp only [Act.put, List.setIfInBounds_toArray, List.set_cons_zero, List.set_cons_succ])
        refine wpAnyH_ready (rs := [13, 23]) (by kernel_rfl) (by simp) ?_
        refine AllReadyH.cons (o := hLiftr3_13) rfl (fun K hK => ?_) ?_
        · unfold hLiftr3_13
          go_simp
          refine ((lift_any h.x k 0 _ (.slice ahx h.x.kids.length chx) (HLhx.out.later (kept_trans Kk11.out (kept_trans Kk18.out (kept_trans Kk27.out Kk36.out)))).lies Rk.out (by unfold I64; decide) (HD.out _ (by simp))).mono (fun _ _ h => h.givesP (P := (Par w V0.heap.size [] P)))).mono ?_
          obtain ⟨U44, hU44⟩ : ∃ qu, h.x.liftB k 0 = qu := ⟨_, rfl⟩
          rw [hU44]
          have HU44 := Lib.hid hU44
          clear hU44
          rintro e w37 ⟨s39, rfl, hl40, k38⟩
          obtain ⟨a41, c42, S43, rfl, -⟩ := hl40.out
          have Kk45 := Lib.hid k38
          clear k38
          have Hhl40 : Hid (LiesQ w37 (Par w V0.heap.size [] P) U44.kids _) := par_give hl40 (Below.size (kept_trans Kk11.out (kept_trans Kk18.out (kept_trans Kk27.out Kk36.out)))) (xlt_nil _)
          clear hl40
          clear hHeld
          refine hK.out _ _ ?_ (fun hHeld => ?_)
          · (try dsimp only)
            exact sees_kept _ (kept_trans Kk27.out (kept_trans Kk36.out Kk45.out))
          clear hK K
          (try simp only [Act.put, List.setIfInBounds_toArray, List.set_cons_zero, List.set_cons_succ])
          refine wpAnyH_ready (rs := [17, 23]) (by kernel_rfl) (by simp) ?_
          refine AllReadyH.cons (o := hLiftr3_17) rfl (fun K hK => ?_) ?_
          · unfold hLiftr3_17
            go_simp
            refine ((lift_any h.y k 0 _ (.slice ahy h.y.kids.length chy) (HLhy.out.later (kept_trans Kk11.out (kept_trans Kk18.out (kept_trans Kk27.out (kept_trans Kk36.out Kk45.out))))).lies Rk.out (by unfold I64; decide) (HD.out _ (by simp))).mono (fun _ _ h => h.givesP (P := (Par w V0.heap.size [] P)))).mono ?_
            obtain ⟨U53, hU53⟩ : ∃ qu, h.y.liftB k 0 = qu := ⟨_, rfl⟩
            rw [hU53]
            have HU53 := Lib.hid hU53
            clear hU53
            rintro e w46 ⟨s48, rfl, hl49, k47⟩
            obtain ⟨a50, c51, S52, rfl, -⟩ := hl49.out
            have Kk54 := Lib.hid k47
            clear k47
            have Hhl49 : Hid (LiesQ w46 (Par w V0.heap.size [] P) U53.kids _) := par_give hl49 (Below.size (kept_trans Kk11.out (kept_trans Kk18.out (kept_trans Kk27.out (kept_trans Kk36.out Kk45.out))))) (xlt_nil _)
            clear hl49
            clear hHeld
            refine hK.out _ _ ?_ (fun hHeld => ?_)
            · (try dsimp only)
              exact sees_kept _ (kept_trans Kk27.out (kept_trans Kk36.out (kept_trans Kk45.out Kk54.out)))
            clear hK K
            (try simp only [Act.put, List.setIfInBounds_toArray, List.set_cons_zero, List.set_cons_succ])
            refine wpAnyH_ready (rs := [21, 23]) (by kernel_rfl) (by simp) ?_
            refine AllReadyH.cons (o := hLiftr3_21) rfl (fun K hK => ?_) ?_
            · unfold hLiftr3_21
              go_simp
              refine ((lift_any h.h k 0 _ (.slice ahh h.h.kids.length chh) (HLhh.out.later (kept_trans Kk11.out (kept_trans Kk18.out (kept_trans Kk27.out (kept_trans Kk36.out (kept_trans Kk45.out Kk54.out)))))).lies Rk.out (by unfold I64; decide) (HD.out _ (by simp))).mono (fun _ _ h => h.givesP (P := (Par w V0.heap.size [] P)))).mono ?_
              obtain ⟨U62, hU62⟩ : ∃ qu, h.h.liftB k 0 = qu := ⟨_, rfl⟩
              rw [hU62]
              have HU62 := Lib.hid hU62
              clear hU62
              rintro e w55 ⟨s57, rfl, hl58, k56⟩
              obtain ⟨a59, c60, S61, rfl, -⟩ := hl58.out
              have Kk63 := Lib.hid k56
              clear k56
              have Hhl58 : Hid (LiesQ w55 (Par w V0.heap.size [] P) U62.kids _) := par_give hl58 (Below.size (kept_trans Kk11.out (kept_trans Kk18.out (kept_trans Kk27.out (kept_trans Kk36.out (kept_trans Kk45.out Kk54.out)))))) (xlt_nil _)
              clear hl58
              clear hHeld
              refine hK.out _ _ ?_ (fun hHeld => ?_)
              · (try dsimp only)
                exact sees_kept _ (kept_trans Kk27.out (kept_trans Kk36.out (kept_trans Kk45.out (kept_trans Kk54.out Kk63.out))))
              clear hK K
              (try simp only [Act.put, List.setIfInBounds_toArray, List.set_cons_zero, List.set_cons_succ])
              refine take_at 22 32 hLiftr3_22 (v := ?_) (Or.inl ⟨by rfl, ?_⟩) ?_
              rotate_left 1
              · ((intro w hSw; (try dsimp only at hSw); unfold hLiftr3_22; go_simp) <;> with_reducible rfl)
              (try simp only [Act.put, List.setIfInBounds_toArray, List.set_cons_zero, List.set_cons_succ])
              refine wpAnyH_ready (rs := [23]) (by kernel_rfl) (by simp) ?_
              refine AllReadyH.cons (o := hLiftr3_23) rfl (fun K hK => ?_) ?_
              · unfold hLiftr3_23
                go_simp
                refine at_K (fun W64 hW64 => ?_)
                obtain ⟨k66, x65, z67⟩ := alloc1 hW64
                have Kk68 := Lib.hid k66
                clear k66
                have Hx65 := Lib.hid x65
                have Hz67 := Lib.hid z67
                clear x65 z67 hW64
                have HG69 : Hid (V0.heap.size ≤ w55.heap.size) := (Below.size (kept_trans Kk11.out (kept_trans Kk18.out (kept_trans Kk27.out (kept_trans Kk36.out (kept_trans Kk45.out (kept_trans Kk54.out Kk63.out)))))))
                have XL70 := Lib.hid (xlt_more (xlt_nil _) Kk68.out (by have := Hz67.out; omega))
                have HL71 : Hid (LiesQ W64 (Par w V0.heap.size (w55.heap.size :: []) P) h.a.kids _) := (par_more (HLha.out.later (kept_trans Kk11.out (kept_trans Kk18.out (kept_trans Kk27.out (kept_trans Kk36.out (kept_trans Kk45.out (kept_trans Kk54.out Kk63.out)))))))).later Kk68.out
                have HL72 : Hid (LiesQ W64 (Par w V0.heap.size (w55.heap.size :: []) P) h.b.kids _) := (par_more (HLhb.out.later (kept_trans Kk11.out (kept_trans Kk18.out (kept_trans Kk27.out (kept_trans Kk36.out (kept_trans Kk45.out (kept_trans Kk54.out Kk63.out)))))))).later Kk68.out
                have HL73 : Hid (LiesQ W64 (Par w V0.heap.size (w55.heap.size :: []) P) h.x.kids _) := (par_more (HLhx.out.later (kept_trans Kk11.out (kept_trans Kk18.out (kept_trans Kk27.out (kept_trans Kk36.out (kept_trans Kk45.out (kept_trans Kk54.out Kk63.out)))))))).later Kk68.out
                have HL74 : Hid (LiesQ W64 (Par w V0.heap.size (w55.heap.size :: []) P) h.y.kids _) := (par_more (HLhy.out.later (kept_trans Kk11.out (kept_trans Kk18.out (kept_trans Kk27.out (kept_trans Kk36.out (kept_trans Kk45.out (kept_trans Kk54.out Kk63.out)))))))).later Kk68.out
                have HL75 : Hid (LiesQ W64 (Par w V0.heap.size (w55.heap.size :: []) P) h.h.kids _) := (par_more (HLhh.out.later (kept_trans Kk11.out (kept_trans Kk18.out (kept_trans Kk27.out (kept_trans Kk36.out (kept_trans Kk45.out (kept_trans Kk54.out Kk63.out)))))))).later Kk68.out
                have HL76 : Hid (LiesQ W64 (Par w V0.heap.size (w55.heap.size :: []) P) U26.kids _) := (par_more (Hhl22.out.later (kept_trans Kk36.out (kept_trans Kk45.out (kept_trans Kk54.out Kk63.out))))).later Kk68.out
                have HL77 : Hid (LiesQ W64 (Par w V0.heap.size (w55.heap.size :: []) P) U35.kids _) := (par_more (Hhl31.out.later (kept_trans Kk45.out (kept_trans Kk54.out Kk63.out)))).later Kk68.out
                have HL78 : Hid (LiesQ W64 (Par w V0.heap.size (w55.heap.size :: []) P) U44.kids _) := (par_more (Hhl40.out.later (kept_trans Kk54.out Kk63.out))).later Kk68.out
                have HL79 : Hid (LiesQ W64 (Par w V0.heap.size (w55.heap.size :: []) P) U53.kids _) := (par_more (Hhl49.out.later Kk63.out)).later Kk68.out
                have HL80 : Hid (LiesQ W64 (Par w V0.heap.size (w55.heap.size :: []) P) U62.kids _) := (par_more Hhl58.out).later Kk68.out
                have HD81 : Hid (W15.heap.size ≤ w55.heap.size) := Below.size (kept_trans Kk27.out (kept_trans Kk36.out (kept_trans Kk45.out (kept_trans Kk54.out Kk63.out))))
                clear hHeld
                refine hK.out _ _ ?_ (fun hHeld => ?_)
                · (try dsimp only)
                  exact sees_kept _ (kept_trans Kk27.out (kept_trans Kk36.out (kept_trans Kk45.out (kept_trans Kk54.out (kept_trans Kk63.out Kk68.out)))))
                clear hK K
                (try simp only [Act.put, List.setIfInBounds_toArray, List.set_cons_zero, List.set_cons_succ])
                refine wpAnyH_ready (rs := [24]) (by kernel_rfl) (by simp) ?_
                refine AllReadyH.cons (o := hLiftr3_24) rfl (fun K hK => ?_) ?_
                · unfold hLiftr3_24
                  refine step_store_part rfl 51 (.tmp 5) (.tmp 32) rfl (w55.heap.size) 0 #[.int .i64 h.i, .int .i64 U26.k, .int .i64 U26.i, .int .i64 U26.j, .int .i64 U26.n, (.slice a23 U26.kids.length c24), .int .i64 U35.k, .int .i64 U35.i, .int .i64 U35.j, .int .i64 U35.n, (.slice a32 U35.kids.length c33), .int .i64 U44.k, .int .i64 U44.i, .int .i64 U44.j, .int .i64 U44.n, (.slice a41 U44.kids.length c42), .int .i64 U53.k, .int .i64 U53.i, .int .i64 U53.j, .int .i64 U53.n, (.slice a50 U53.kids.length c51), .int .i64 U62.k, .int .i64 U62.i, .int .i64 U62.j, .int .i64 U62.n, (.slice a59 U62.kids.length c60)] rfl rfl 51 (by kernel_rfl) (row_ok rfl) _ #[.int .i64 h.i, .int .i64 U26.k, .int .i64 U26.i, .int .i64 U26.j, .int .i64 U26.n, (.slice a23 U26.kids.length c24), .int .i64 U35.k, .int .i64 U35.i, .int .i64 U35.j, .int .i64 U35.n, (.slice a32 U35.kids.length c33), .int .i64 U44.k, .int .i64 U44.i, .int .i64 U44.j, .int .i64 U44.n, (.slice a41 U44.kids.length c42), .int .i64 U53.k, .int .i64 U53.i, .int .i64 U53.j, .int .i64 U53.n, (.slice a50 U53.kids.length c51), .int .i64 U62.k, .int .i64 U62.i, .int .i64 U62.j, .int .i64 U62.n, (.slice a59 U62.kids.length c60)] Hx65.out rfl (Nat.le_of_ble_eq_true rfl) ?_
                  intro W82 hW82
                  have KB83 := Lib.hid (kept_set (kept_trans Kk5.out (kept_trans Kk11.out (kept_trans Kk18.out (kept_trans Kk27.out (kept_trans Kk36.out (kept_trans Kk45.out (kept_trans Kk54.out (kept_trans Kk63.out Kk68.out)))))))) hW82 (by have := HG69.out; have := Z0.out; omega))
                  have KB84 := Lib.hid (kept_set (kept_trans Kk11.out (kept_trans Kk18.out (kept_trans Kk27.out (kept_trans Kk36.out (kept_trans Kk45.out (kept_trans Kk54.out (kept_trans Kk63.out Kk68.out))))))) hW82 HG69.out)
                  have KB85 := Lib.hid (kept_set (kept_trans Kk27.out (kept_trans Kk36.out (kept_trans Kk45.out (kept_trans Kk54.out (kept_trans Kk63.out Kk68.out))))) hW82 HD81.out)
                  have HL86 : Hid (LiesQ W82 (Par w V0.heap.size (w55.heap.size :: []) P) h.a.kids _) := par_set HL71.out hW82 (List.mem_cons_self ..) (by have := HG69.out; have := Z0.out; omega)
                  have HL87 : Hid (LiesQ W82 (Par w V0.heap.size (w55.heap.size :: []) P) h.b.kids _) := par_set HL72.out hW82 (List.mem_cons_self ..) (by have := HG69.out; have := Z0.out; omega)
                  have HL88 : Hid (LiesQ W82 (Par w V0.heap.size (w55.heap.size :: []) P) h.x.kids _) := par_set HL73.out hW82 (List.mem_cons_self ..) (by have := HG69.out; have := Z0.out; omega)
                  have HL89 : Hid (LiesQ W82 (Par w V0.heap.size (w55.heap.size :: []) P) h.y.kids _) := par_set HL74.out hW82 (List.mem_cons_self ..) (by have := HG69.out; have := Z0.out; omega)
                  have HL90 : Hid (LiesQ W82 (Par w V0.heap.size (w55.heap.size :: []) P) h.h.kids _) := par_set HL75.out hW82 (List.mem_cons_self ..) (by have := HG69.out; have := Z0.out; omega)
                  have HL91 : Hid (LiesQ W82 (Par w V0.heap.size (w55.heap.size :: []) P) U26.kids _) := par_set HL76.out hW82 (List.mem_cons_self ..) (by have := HG69.out; have := Z0.out; omega)
                  have HL92 : Hid (LiesQ W82 (Par w V0.heap.size (w55.heap.size :: []) P) U35.kids _) := par_set HL77.out hW82 (List.mem_cons_self ..) (by have := HG69.out; have := Z0.out; omega)
                  have HL93 : Hid (LiesQ W82 (Par w V0.heap.size (w55.heap.size :: []) P) U44.kids _) := par_set HL78.out hW82 (List.mem_cons_self ..) (by have := HG69.out; have := Z0.out; omega)
                  have HL94 : Hid (LiesQ W82 (Par w V0.heap.size (w55.heap.size :: []) P) U53.kids _) := par_set HL79.out hW82 (List.mem_cons_self ..) (by have := HG69.out; have := Z0.out; omega)
                  have HL95 : Hid (LiesQ W82 (Par w V0.heap.size (w55.heap.size :: []) P) U62.kids _) := par_set HL80.out hW82 (List.mem_cons_self ..) (by have := HG69.out; have := Z0.out; omega)
                  have XL96 := Lib.hid (xlt_set XL70.out hW82)
                  have HX97 := Lib.hid (blk_same Hx65.out hW82)
                  clear hW82
                  clear hHeld
                  refine hK.out _ _ ?_ (fun hHeld => ?_)
                  · (try dsimp only)
                    exact sees_kept _ KB85.out
                  clear hK K
                  (try simp only [Act.put])
                  refine wpAnyH_done (by kernel_rfl) ?_ _
                  clear hHeld
                  have kvV0 : Sees V0 (w.heap.size + 1) W82 := sees_kept _ KB84.out
                  have kvW82 : Sees W82 (w.heap.size + 1) W82 := sees_kept _ (kept_refl _)
                  go_wp2_with (refine stop_load 51 (.tmp 5) rfl ?_)
                  intro _
                  refine wpList_load_part (w55.heap.size) 0 51 (.tmp 5) #[.int .i64 h.i, .int .i64 U26.k, .int .i64 U26.i, .int .i64 U26.j, .int .i64 U26.n, (.slice a23 U26.kids.length c24), .int .i64 U35.k, .int .i64 U35.i, .int .i64 U35.j, .int .i64 U35.n, (.slice a32 U35.kids.length c33), .int .i64 U44.k, .int .i64 U44.i, .int .i64 U44.j, .int .i64 U44.n, (.slice a41 U44.kids.length c42), .int .i64 U53.k, .int .i64 U53.i, .int .i64 U53.j, .int .i64 U53.n, (.slice a50 U53.kids.length c51), .int .i64 U62.k, .int .i64 U62.i, .int .i64 U62.j, .int .i64 U62.n, (.slice a59 U62.kids.length c60)] dh HX97.out (by rfl) rfl (by rfl) (by rfl) dh1 (by cases dh <;> first | rfl | exact dh2) (by kernel_rfl) ?_
                  go_wp2_with fail
                  clear kvV0
                  clear kvW82
                  refine (hrightHet_any (⟨h.i, U26, U35, U44, U53, U62⟩ : He) (Par w V0.heap.size (w55.heap.size :: []) P) _ (.slice a23 U26.kids.length c24) (.slice a32 U35.kids.length c33) (.slice a41 U44.kids.length c42) (.slice a50 U53.kids.length c51) (.slice a59 U62.kids.length c60) ⟨Gh.out.1, (by rw [← HU26.out]; exact (lift_fine k (heR_pl Hhb9.out _ (by simp)))), (by rw [← HU35.out]; exact (lift_fine k (heR_pl Hhb9.out _ (by simp)))), (by rw [← HU44.out]; exact (lift_fine k (heR_pl Hhb9.out _ (by simp)))), (by rw [← HU53.out]; exact (lift_fine k (heR_pl Hhb9.out _ (by simp)))), (by rw [← HU62.out]; exact (lift_fine k (heR_pl Hhb9.out _ (by simp))))⟩ ⟨HL91.out, HL92.out, HL93.out, HL94.out, HL95.out⟩).mono ?_
                  obtain ⟨rb101, hb100⟩ : ∃ qb, heR (⟨h.i, U26, U35, U44, U53, U62⟩ : He) = qb := ⟨_, rfl⟩
                  rw [hb100]
                  have Hhb100 := Lib.hid hb100
                  clear hb100
                  rintro e w98 ⟨rfl, k99⟩
                  have Kk102 := Lib.hid k99
                  clear k99
                  cases rb101 with
                  | false =>
                    have kvV0 : Sees V0 (w.heap.size + 1) w98 := sees_kept _ (kept_trans KB84.out Kk102.out)
                    have kvW82 : Sees W82 (w.heap.size + 1) w98 := sees_kept _ Kk102.out
                    go_wp2_with (refine stop_store 51 (.tmp 4) (.tmp 36) rfl ?_)
                    intro _
                    refine wpList_store_part_n (by rfl) 51 (.tmp 4) (.tmp 36) rfl (w.heap.size + 1) 0 #[.int .i64 0, .int .i64 0, .int .i64 0, .int .i64 0, .int .i64 0, .slice none 0 0, .int .i64 0, .int .i64 0, .int .i64 0, .int .i64 0, .slice none 0 0, .int .i64 0, .int .i64 0, .int .i64 0, .int .i64 0, .slice none 0 0, .int .i64 0, .int .i64 0, .int .i64 0, .int .i64 0, .slice none 0 0, .int .i64 0, .int .i64 0, .int .i64 0, .int .i64 0, .slice none 0 0] (by rfl) (by rfl) 51 (by kernel_rfl) (row_ok rfl) ?_
                    intro W103 hW103
                    clear kvV0
                    clear kvW82
                    subst hW103
                    refine ⟨_, #[.int .i64 0, .int .i64 0, .int .i64 0, .int .i64 0, .int .i64 0, .slice none 0 0, .int .i64 0, .int .i64 0, .int .i64 0, .int .i64 0, .slice none 0 0, .int .i64 0, .int .i64 0, .int .i64 0, .int .i64 0, .slice none 0 0, .int .i64 0, .int .i64 0, .int .i64 0, .int .i64 0, .slice none 0 0, .int .i64 0, .int .i64 0, .int .i64 0, .int .i64 0, .slice none 0 0], (blk_at Hx2.out (kept_trans KB84.out Kk102.out)), rfl, Nat.le_of_ble_eq_true rfl, ?_⟩
                    intro W104 hW104
                    go_wp2_with fail
                    refine bodyPost_ret (results_cell_row rfl _ _ (w.heap.size + 1) 51 _ _ dh rfl (blk_same (blk_at Hx2.out (kept_trans KB84.out Kk102.out)) hW104) dh1 (by cases dh <;> first | rfl | exact dh2) (by kernel_rfl)) rfl ?_
                    rw [show heLift h k = (⟨0, (.mk 0 0 0 0 []), (.mk 0 0 0 0 []), (.mk 0 0 0 0 []), (.mk 0 0 0 0 []), (.mk 0 0 0 0 [])⟩ : He) from by unfold heLift heUp; rw [HU26.out]; rw [HU35.out]; rw [HU44.out]; rw [HU53.out]; rw [HU62.out]; rw [Hhb9.out, Hhb100.out]; (try rfl)]
                    exact ⟨_, _, _, _, _, rfl, ⟨par_end (par_row' (liesQ_nil w98 (Par w V0.heap.size (w55.heap.size :: []) P)) hW104 (by omega) (by have := Z0.out; omega)) (by have := Z0.out; omega), par_end (par_row' (liesQ_nil w98 (Par w V0.heap.size (w55.heap.size :: []) P)) hW104 (by omega) (by have := Z0.out; omega)) (by have := Z0.out; omega), par_end (par_row' (liesQ_nil w98 (Par w V0.heap.size (w55.heap.size :: []) P)) hW104 (by omega) (by have := Z0.out; omega)) (by have := Z0.out; omega), par_end (par_row' (liesQ_nil w98 (Par w V0.heap.size (w55.heap.size :: []) P)) hW104 (by omega) (by have := Z0.out; omega)) (by have := Z0.out; omega), par_end (par_row' (liesQ_nil w98 (Par w V0.heap.size (w55.heap.size :: []) P)) hW104 (by omega) (by have := Z0.out; omega)) (by have := Z0.out; omega)⟩, kept_set (kept_trans KB83.out Kk102.out) hW104 (by omega)⟩
                  | true =>
                    have kvV0 : Sees V0 (w.heap.size + 1) w98 := sees_kept _ (kept_trans KB84.out Kk102.out)
                    have kvW82 : Sees W82 (w.heap.size + 1) w98 := sees_kept _ Kk102.out
                    go_wp2_with (refine stop_load 51 (.tmp 5) rfl ?_)
                    intro _
                    refine wpList_load_part (w55.heap.size) 0 51 (.tmp 5) #[.int .i64 h.i, .int .i64 U26.k, .int .i64 U26.i, .int .i64 U26.j, .int .i64 U26.n, (.slice a23 U26.kids.length c24), .int .i64 U35.k, .int .i64 U35.i, .int .i64 U35.j, .int .i64 U35.n, (.slice a32 U35.kids.length c33), .int .i64 U44.k, .int .i64 U44.i, .int .i64 U44.j, .int .i64 U44.n, (.slice a41 U44.kids.length c42), .int .i64 U53.k, .int .i64 U53.i, .int .i64 U53.j, .int .i64 U53.n, (.slice a50 U53.kids.length c51), .int .i64 U62.k, .int .i64 U62.i, .int .i64 U62.j, .int .i64 U62.n, (.slice a59 U62.kids.length c60)] dh (blk_at HX97.out Kk102.out) (by rfl) rfl (by rfl) (by rfl) dh1 (by cases dh <;> first | rfl | exact dh2) (by kernel_rfl) ?_
                    go_wp2_with (refine stop_store 51 (.tmp 4) (.tmp 37) rfl ?_)
                    intro _
                    refine wpList_store_part_n (by rfl) 51 (.tmp 4) (.tmp 37) rfl (w.heap.size + 1) 0 #[.int .i64 h.i, .int .i64 U26.k, .int .i64 U26.i, .int .i64 U26.j, .int .i64 U26.n, (.slice a23 U26.kids.length c24), .int .i64 U35.k, .int .i64 U35.i, .int .i64 U35.j, .int .i64 U35.n, (.slice a32 U35.kids.length c33), .int .i64 U44.k, .int .i64 U44.i, .int .i64 U44.j, .int .i64 U44.n, (.slice a41 U44.kids.length c42), .int .i64 U53.k, .int .i64 U53.i, .int .i64 U53.j, .int .i64 U53.n, (.slice a50 U53.kids.length c51), .int .i64 U62.k, .int .i64 U62.i, .int .i64 U62.j, .int .i64 U62.n, (.slice a59 U62.kids.length c60)] (by rfl) (by rfl) 51 (by kernel_rfl) (row_ok rfl) ?_
                    intro W105 hW105
                    clear kvV0
                    clear kvW82
                    subst hW105
                    refine ⟨_, #[.int .i64 h.i, .int .i64 U26.k, .int .i64 U26.i, .int .i64 U26.j, .int .i64 U26.n, (.slice a23 U26.kids.length c24), .int .i64 U35.k, .int .i64 U35.i, .int .i64 U35.j, .int .i64 U35.n, (.slice a32 U35.kids.length c33), .int .i64 U44.k, .int .i64 U44.i, .int .i64 U44.j, .int .i64 U44.n, (.slice a41 U44.kids.length c42), .int .i64 U53.k, .int .i64 U53.i, .int .i64 U53.j, .int .i64 U53.n, (.slice a50 U53.kids.length c51), .int .i64 U62.k, .int .i64 U62.i, .int .i64 U62.j, .int .i64 U62.n, (.slice a59 U62.kids.length c60)], (blk_at Hx2.out (kept_trans KB84.out Kk102.out)), rfl, Nat.le_of_ble_eq_true rfl, ?_⟩
                    intro W106 hW106
                    go_wp2_with fail
                    refine bodyPost_ret (results_cell_row rfl _ _ (w.heap.size + 1) 51 _ _ dh rfl (blk_same (blk_at Hx2.out (kept_trans KB84.out Kk102.out)) hW106) dh1 (by cases dh <;> first | rfl | exact dh2) (by kernel_rfl)) rfl ?_
                    rw [show heLift h k = (⟨h.i, U26, U35, U44, U53, U62⟩ : He) from by unfold heLift heUp; rw [HU26.out]; rw [HU35.out]; rw [HU44.out]; rw [HU53.out]; rw [HU62.out]; rw [Hhb9.out, Hhb100.out]; (try rfl)]
                    exact ⟨_, _, _, _, _, rfl, ⟨par_end (par_row' (HL91.out.later Kk102.out) hW106 (by omega) (by have := Z0.out; omega)) (by have := Z0.out; omega), par_end (par_row' (HL92.out.later Kk102.out) hW106 (by omega) (by have := Z0.out; omega)) (by have := Z0.out; omega), par_end (par_row' (HL93.out.later Kk102.out) hW106 (by omega) (by have := Z0.out; omega)) (by have := Z0.out; omega), par_end (par_row' (HL94.out.later Kk102.out) hW106 (by omega) (by have := Z0.out; omega)) (by have := Z0.out; omega), par_end (par_row' (HL95.out.later Kk102.out) hW106 (by omega) (by have := Z0.out; omega)) (by have := Z0.out; omega)⟩, kept_set (kept_trans KB83.out Kk102.out) hW106 (by omega)⟩
                exact AllReadyH.nil
              exact AllReadyH.nil
            refine AllReadyH.cons (o := hLiftr3_23) rfl (fun K hK => ?_) ?_
            · unfold hLiftr3_23
              go_simp
              refine at_K (fun W107 hW107 => ?_)
              obtain ⟨k109, x108, z110⟩ := alloc1 hW107
              have Kk111 := Lib.hid k109
              clear k109
              have Hx108 := Lib.hid x108
              have Hz110 := Lib.hid z110
              clear x108 z110 hW107
              have HG112 : Hid (V0.heap.size ≤ w46.heap.size) := (Below.size (kept_trans Kk11.out (kept_trans Kk18.out (kept_trans Kk27.out (kept_trans Kk36.out (kept_trans Kk45.out Kk54.out))))))
              have XL113 := Lib.hid (xlt_more (xlt_nil _) Kk111.out (by have := Hz110.out; omega))
              have HL114 : Hid (LiesQ W107 (Par w V0.heap.size (w46.heap.size :: []) P) h.a.kids _) := (par_more (HLha.out.later (kept_trans Kk11.out (kept_trans Kk18.out (kept_trans Kk27.out (kept_trans Kk36.out (kept_trans Kk45.out Kk54.out))))))).later Kk111.out
              have HL115 : Hid (LiesQ W107 (Par w V0.heap.size (w46.heap.size :: []) P) h.b.kids _) := (par_more (HLhb.out.later (kept_trans Kk11.out (kept_trans Kk18.out (kept_trans Kk27.out (kept_trans Kk36.out (kept_trans Kk45.out Kk54.out))))))).later Kk111.out
              have HL116 : Hid (LiesQ W107 (Par w V0.heap.size (w46.heap.size :: []) P) h.x.kids _) := (par_more (HLhx.out.later (kept_trans Kk11.out (kept_trans Kk18.out (kept_trans Kk27.out (kept_trans Kk36.out (kept_trans Kk45.out Kk54.out))))))).later Kk111.out
              have HL117 : Hid (LiesQ W107 (Par w V0.heap.size (w46.heap.size :: []) P) h.y.kids _) := (par_more (HLhy.out.later (kept_trans Kk11.out (kept_trans Kk18.out (kept_trans Kk27.out (kept_trans Kk36.out (kept_trans Kk45.out Kk54.out))))))).later Kk111.out
              have HL118 : Hid (LiesQ W107 (Par w V0.heap.size (w46.heap.size :: []) P) h.h.kids _) := (par_more (HLhh.out.later (kept_trans Kk11.out (kept_trans Kk18.out (kept_trans Kk27.out (kept_trans Kk36.out (kept_trans Kk45.out Kk54.out))))))).later Kk111.out
              have HL119 : Hid (LiesQ W107 (Par w V0.heap.size (w46.heap.size :: []) P) U26.kids _) := (par_more (Hhl22.out.later (kept_trans Kk36.out (kept_trans Kk45.out Kk54.out)))).later Kk111.out
              have HL120 : Hid (LiesQ W107 (Par w V0.heap.size (w46.heap.size :: []) P) U35.kids _) := (par_more (Hhl31.out.later (kept_trans Kk45.out Kk54.out))).later Kk111.out
              have HL121 : Hid (LiesQ W107 (Par w V0.heap.size (w46.heap.size :: []) P) U44.kids _) := (par_more (Hhl40.out.later Kk54.out)).later Kk111.out
              have HL122 : Hid (LiesQ W107 (Par w V0.heap.size (w46.heap.size :: []) P) U53.kids _) := (par_more Hhl49.out).later Kk111.out
              have HD123 : Hid (W15.heap.size ≤ w46.heap.size) := Below.size (kept_trans Kk27.out (kept_trans Kk36.out (kept_trans Kk45.out Kk54.out)))
              clear hHeld
              refine hK.out _ _ ?_ (fun hHeld => ?_)
              · (try dsimp only)
                exact sees_kept _ (kept_trans Kk27.out (kept_trans Kk36.out (kept_trans Kk45.out (kept_trans Kk54.out Kk111.out))))
              clear hK K
              (try simp only [Act.put, List.setIfInBounds_toArray, List.set_cons_zero, List.set_cons_succ])
              refine wpAnyH_ready (rs := [21]) (by kernel_rfl) (by simp) ?_
              refine AllReadyH.cons (o := hLiftr3_21) rfl (fun K hK => ?_) ?_
              · unfold hLiftr3_21
                go_simp
                refine ((lift_any h.h k 0 _ (.slice ahh h.h.kids.length chh) HL118.out.lies Rk.out (by unfold I64; decide) (HD.out _ (by simp))).mono (fun _ _ h => h.givesP (P := (Par w V0.heap.size (w46.heap.size :: []) P)))).mono ?_
                obtain ⟨U131, hU131⟩ : ∃ qu, h.h.liftB k 0 = qu := ⟨_, rfl⟩
                rw [hU131]
                have HU131 := Lib.hid hU131
                clear hU131
                rintro e w124 ⟨s126, rfl, hl127, k125⟩
                obtain ⟨a128, c129, S130, rfl, -⟩ := hl127.out
                have Kk132 := Lib.hid k125
                clear k125
                have Hhl127 : Hid (LiesQ w124 (Par w V0.heap.size (w46.heap.size :: []) P) U131.kids _) := par_give hl127 (Below.size (kept_trans Kk11.out (kept_trans Kk18.out (kept_trans Kk27.out (kept_trans Kk36.out (kept_trans Kk45.out (kept_trans Kk54.out Kk111.out))))))) XL113.out
                clear hl127
                clear hHeld
                refine hK.out _ _ ?_ (fun hHeld => ?_)
                · (try dsimp only)
                  exact sees_kept _ (kept_trans Kk27.out (kept_trans Kk36.out (kept_trans Kk45.out (kept_trans Kk54.out (kept_trans Kk111.out Kk132.out)))))
                clear hK K
                (try simp only [Act.put, List.setIfInBounds_toArray, List.set_cons_zero, List.set_cons_succ])
                refine take_at 22 32 hLiftr3_22 (v := ?_) (Or.inl ⟨by rfl, ?_⟩) ?_
                rotate_left 1
                · ((intro w hSw; (try dsimp only at hSw); unfold hLiftr3_22; go_simp) <;> with_reducible rfl)
                (try simp only [Act.put, List.setIfInBounds_toArray, List.set_cons_zero, List.set_cons_succ])
                refine wpAnyH_ready (rs := [24]) (by kernel_rfl) (by simp) ?_
                refine AllReadyH.cons (o := hLiftr3_24) rfl (fun K hK => ?_) ?_
                · unfold hLiftr3_24
                  refine step_store_part rfl 51 (.tmp 5) (.tmp 32) rfl (w46.heap.size) 0 #[.int .i64 h.i, .int .i64 U26.k, .int .i64 U26.i, .int .i64 U26.j, .int .i64 U26.n, (.slice a23 U26.kids.length c24), .int .i64 U35.k, .int .i64 U35.i, .int .i64 U35.j, .int .i64 U35.n, (.slice a32 U35.kids.length c33), .int .i64 U44.k, .int .i64 U44.i, .int .i64 U44.j, .int .i64 U44.n, (.slice a41 U44.kids.length c42), .int .i64 U53.k, .int .i64 U53.i, .int .i64 U53.j, .int .i64 U53.n, (.slice a50 U53.kids.length c51), .int .i64 U131.k, .int .i64 U131.i, .int .i64 U131.j, .int .i64 U131.n, (.slice a128 U131.kids.length c129)] rfl rfl 51 (by kernel_rfl) (row_ok rfl) _ #[.int .i64 h.i, .int .i64 U26.k, .int .i64 U26.i, .int .i64 U26.j, .int .i64 U26.n, (.slice a23 U26.kids.length c24), .int .i64 U35.k, .int .i64 U35.i, .int .i64 U35.j, .int .i64 U35.n, (.slice a32 U35.kids.length c33), .int .i64 U44.k, .int .i64 U44.i, .int .i64 U44.j, .int .i64 U44.n, (.slice a41 U44.kids.length c42), .int .i64 U53.k, .int .i64 U53.i, .int .i64 U53.j, .int .i64 U53.n, (.slice a50 U53.kids.length c51), .int .i64 U131.k, .int .i64 U131.i, .int .i64 U131.j, .int .i64 U131.n, (.slice a128 U131.kids.length c129)] (blk_at Hx108.out Kk132.out) rfl (Nat.le_of_ble_eq_true rfl) ?_
                  intro W133 hW133
                  have KB134 := Lib.hid (kept_set (kept_trans Kk5.out (kept_trans Kk11.out (kept_trans Kk18.out (kept_trans Kk27.out (kept_trans Kk36.out (kept_trans Kk45.out (kept_trans Kk54.out (kept_trans Kk111.out Kk132.out)))))))) hW133 (by have := HG112.out; have := Z0.out; omega))
                  have KB135 := Lib.hid (kept_set (kept_trans Kk11.out (kept_trans Kk18.out (kept_trans Kk27.out (kept_trans Kk36.out (kept_trans Kk45.out (kept_trans Kk54.out (kept_trans Kk111.out Kk132.out))))))) hW133 HG112.out)
                  have KB136 := Lib.hid (kept_set (kept_trans Kk27.out (kept_trans Kk36.out (kept_trans Kk45.out (kept_trans Kk54.out (kept_trans Kk111.out Kk132.out))))) hW133 HD123.out)
                  have HL137 : Hid (LiesQ W133 (Par w V0.heap.size (w46.heap.size :: []) P) h.a.kids _) := par_set (HL114.out.later Kk132.out) hW133 (List.mem_cons_self ..) (by have := HG112.out; have := Z0.out; omega)
                  have HL138 : Hid (LiesQ W133 (Par w V0.heap.size (w46.heap.size :: []) P) h.b.kids _) := par_set (HL115.out.later Kk132.out) hW133 (List.mem_cons_self ..) (by have := HG112.out; have := Z0.out; omega)
                  have HL139 : Hid (LiesQ W133 (Par w V0.heap.size (w46.heap.size :: []) P) h.x.kids _) := par_set (HL116.out.later Kk132.out) hW133 (List.mem_cons_self ..) (by have := HG112.out; have := Z0.out; omega)
                  have HL140 : Hid (LiesQ W133 (Par w V0.heap.size (w46.heap.size :: []) P) h.y.kids _) := par_set (HL117.out.later Kk132.out) hW133 (List.mem_cons_self ..) (by have := HG112.out; have := Z0.out; omega)
                  have HL141 : Hid (LiesQ W133 (Par w V0.heap.size (w46.heap.size :: []) P) h.h.kids _) := par_set (HL118.out.later Kk132.out) hW133 (List.mem_cons_self ..) (by have := HG112.out; have := Z0.out; omega)
                  have HL142 : Hid (LiesQ W133 (Par w V0.heap.size (w46.heap.size :: []) P) U26.kids _) := par_set (HL119.out.later Kk132.out) hW133 (List.mem_cons_self ..) (by have := HG112.out; have := Z0.out; omega)
                  have HL143 : Hid (LiesQ W133 (Par w V0.heap.size (w46.heap.size :: []) P) U35.kids _) := par_set (HL120.out.later Kk132.out) hW133 (List.mem_cons_self ..) (by have := HG112.out; have := Z0.out; omega)
                  have HL144 : Hid (LiesQ W133 (Par w V0.heap.size (w46.heap.size :: []) P) U44.kids _) := par_set (HL121.out.later Kk132.out) hW133 (List.mem_cons_self ..) (by have := HG112.out; have := Z0.out; omega)
                  have HL145 : Hid (LiesQ W133 (Par w V0.heap.size (w46.heap.size :: []) P) U53.kids _) := par_set (HL122.out.later Kk132.out) hW133 (List.mem_cons_self ..) (by have := HG112.out; have := Z0.out; omega)
                  have HL146 : Hid (LiesQ W133 (Par w V0.heap.size (w46.heap.size :: []) P) U131.kids _) := par_set Hhl127.out hW133 (List.mem_cons_self ..) (by have := HG112.out; have := Z0.out; omega)
                  have XL147 := Lib.hid (xlt_set (xlt_later XL113.out Kk132.out) hW133)
                  have HX148 := Lib.hid (blk_same (blk_at Hx108.out Kk132.out) hW133)
                  clear hW133
                  clear hHeld
                  refine hK.out _ _ ?_ (fun hHeld => ?_)
                  · (try dsimp only)
                    exact sees_kept _ KB136.out
                  clear hK K
                  (try simp only [Act.put])
                  refine wpAnyH_done (by kernel_rfl) ?_ _
                  clear hHeld
                  have kvV0 : Sees V0 (w.heap.size + 1) W133 := sees_kept _ KB135.out
                  have kvW133 : Sees W133 (w.heap.size + 1) W133 := sees_kept _ (kept_refl _)
                  go_wp2_with (refine stop_load 51 (.tmp 5) rfl ?_)
                  intro _
                  refine wpList_load_part (w46.heap.size) 0 51 (.tmp 5) #[.int .i64 h.i, .int .i64 U26.k, .int .i64 U26.i, .int .i64 U26.j, .int .i64 U26.n, (.slice a23 U26.kids.length c24), .int .i64 U35.k, .int .i64 U35.i, .int .i64 U35.j, .int .i64 U35.n, (.slice a32 U35.kids.length c33), .int .i64 U44.k, .int .i64 U44.i, .int .i64 U44.j, .int .i64 U44.n, (.slice a41 U44.kids.length c42), .int .i64 U53.k, .int .i64 U53.i, .int .i64 U53.j, .int .i64 U53.n, (.slice a50 U53.kids.length c51), .int .i64 U131.k, .int .i64 U131.i, .int .i64 U131.j, .int .i64 U131.n, (.slice a128 U131.kids.length c129)] dh HX148.out (by rfl) rfl (by rfl) (by rfl) dh1 (by cases dh <;> first | rfl | exact dh2) (by kernel_rfl) ?_
                  go_wp2_with fail
                  clear kvV0
                  clear kvW133
                  refine (hrightHet_any (⟨h.i, U26, U35, U44, U53, U131⟩ : He) (Par w V0.heap.size (w46.heap.size :: []) P) _ (.slice a23 U26.kids.length c24) (.slice a32 U35.kids.length c33) (.slice a41 U44.kids.length c42) (.slice a50 U53.kids.length c51) (.slice a128 U131.kids.length c129) ⟨Gh.out.1, (by rw [← HU26.out]; exact (lift_fine k (heR_pl Hhb9.out _ (by simp)))), (by rw [← HU35.out]; exact (lift_fine k (heR_pl Hhb9.out _ (by simp)))), (by rw [← HU44.out]; exact (lift_fine k (heR_pl Hhb9.out _ (by simp)))), (by rw [← HU53.out]; exact (lift_fine k (heR_pl Hhb9.out _ (by simp)))), (by rw [← HU131.out]; exact (lift_fine k (heR_pl Hhb9.out _ (by simp))))⟩ ⟨HL142.out, HL143.out, HL144.out, HL145.out, HL146.out⟩).mono ?_
                  obtain ⟨rb152, hb151⟩ : ∃ qb, heR (⟨h.i, U26, U35, U44, U53, U131⟩ : He) = qb := ⟨_, rfl⟩
                  rw [hb151]
                  have Hhb151 := Lib.hid hb151
                  clear hb151
                  rintro e w149 ⟨rfl, k150⟩
                  have Kk153 := Lib.hid k150
                  clear k150
                  cases rb152 with
                  | false =>
                    have kvV0 : Sees V0 (w.heap.size + 1) w149 := sees_kept _ (kept_trans KB135.out Kk153.out)
                    have kvW133 : Sees W133 (w.heap.size + 1) w149 := sees_kept _ Kk153.out
                    go_wp2_with (refine stop_store 51 (.tmp 4) (.tmp 36) rfl ?_)
                    intro _
                    refine wpList_store_part_n (by rfl) 51 (.tmp 4) (.tmp 36) rfl (w.heap.size + 1) 0 #[.int .i64 0, .int .i64 0, .int .i64 0, .int .i64 0, .int .i64 0, .slice none 0 0, .int .i64 0, .int .i64 0, .int .i64 0, .int .i64 0, .slice none 0 0, .int .i64 0, .int .i64 0, .int .i64 0, .int .i64 0, .slice none 0 0, .int .i64 0, .int .i64 0, .int .i64 0, .int .i64 0, .slice none 0 0, .int .i64 0, .int .i64 0, .int .i64 0, .int .i64 0, .slice none 0 0] (by rfl) (by rfl) 51 (by kernel_rfl) (row_ok rfl) ?_
                    intro W154 hW154
                    clear kvV0
                    clear kvW133
                    subst hW154
                    refine ⟨_, #[.int .i64 0, .int .i64 0, .int .i64 0, .int .i64 0, .int .i64 0, .slice none 0 0, .int .i64 0, .int .i64 0, .int .i64 0, .int .i64 0, .slice none 0 0, .int .i64 0, .int .i64 0, .int .i64 0, .int .i64 0, .slice none 0 0, .int .i64 0, .int .i64 0, .int .i64 0, .int .i64 0, .slice none 0 0, .int .i64 0, .int .i64 0, .int .i64 0, .int .i64 0, .slice none 0 0], (blk_at Hx2.out (kept_trans KB135.out Kk153.out)), rfl, Nat.le_of_ble_eq_true rfl, ?_⟩
                    intro W155 hW155
                    go_wp2_with fail
                    refine bodyPost_ret (results_cell_row rfl _ _ (w.heap.size + 1) 51 _ _ dh rfl (blk_same (blk_at Hx2.out (kept_trans KB135.out Kk153.out)) hW155) dh1 (by cases dh <;> first | rfl | exact dh2) (by kernel_rfl)) rfl ?_
                    rw [show heLift h k = (⟨0, (.mk 0 0 0 0 []), (.mk 0 0 0 0 []), (.mk 0 0 0 0 []), (.mk 0 0 0 0 []), (.mk 0 0 0 0 [])⟩ : He) from by unfold heLift heUp; rw [HU26.out]; rw [HU35.out]; rw [HU44.out]; rw [HU53.out]; rw [HU131.out]; rw [Hhb9.out, Hhb151.out]; (try rfl)]
                    exact ⟨_, _, _, _, _, rfl, ⟨par_end (par_row' (liesQ_nil w149 (Par w V0.heap.size (w46.heap.size :: []) P)) hW155 (by omega) (by have := Z0.out; omega)) (by have := Z0.out; omega), par_end (par_row' (liesQ_nil w149 (Par w V0.heap.size (w46.heap.size :: []) P)) hW155 (by omega) (by have := Z0.out; omega)) (by have := Z0.out; omega), par_end (par_row' (liesQ_nil w149 (Par w V0.heap.size (w46.heap.size :: []) P)) hW155 (by omega) (by have := Z0.out; omega)) (by have := Z0.out; omega), par_end (par_row' (liesQ_nil w149 (Par w V0.heap.size (w46.heap.size :: []) P)) hW155 (by omega) (by have := Z0.out; omega)) (by have := Z0.out; omega), par_end (par_row' (liesQ_nil w149 (Par w V0.heap.size (w46.heap.size :: []) P)) hW155 (by omega) (by have := Z0.out; omega)) (by have := Z0.out; omega)⟩, kept_set (kept_trans KB134.out Kk153.out) hW155 (by omega)⟩
                  | true =>
                    have kvV0 : Sees V0 (w.heap.size + 1) w149 := sees_kept _ (kept_trans KB135.out Kk153.out)
                    have kvW133 : Sees W133 (w.heap.size + 1) w149 := sees_kept _ Kk153.out
                    go_wp2_with (refine stop_load 51 (.tmp 5) rfl ?_)
                    intro _
                    refine wpList_load_part (w46.heap.size) 0 51 (.tmp 5) #[.int .i64 h.i, .int .i64 U26.k, .int .i64 U26.i, .int .i64 U26.j, .int .i64 U26.n, (.slice a23 U26.kids.length c24), .int .i64 U35.k, .int .i64 U35.i, .int .i64 U35.j, .int .i64 U35.n, (.slice a32 U35.kids.length c33), .int .i64 U44.k, .int .i64 U44.i, .int .i64 U44.j, .int .i64 U44.n, (.slice a41 U44.kids.length c42), .int .i64 U53.k, .int .i64 U53.i, .int .i64 U53.j, .int .i64 U53.n, (.slice a50 U53.kids.length c51), .int .i64 U131.k, .int .i64 U131.i, .int .i64 U131.j, .int .i64 U131.n, (.slice a128 U131.kids.length c129)] dh (blk_at HX148.out Kk153.out) (by rfl) rfl (by rfl) (by rfl) dh1 (by cases dh <;> first | rfl | exact dh2) (by kernel_rfl) ?_
                    go_wp2_with (refine stop_store 51 (.tmp 4) (.tmp 37) rfl ?_)
                    intro _
                    refine wpList_store_part_n (by rfl) 51 (.tmp 4) (.tmp 37) rfl (w.heap.size + 1) 0 #[.int .i64 h.i, .int .i64 U26.k, .int .i64 U26.i, .int .i64 U26.j, .int .i64 U26.n, (.slice a23 U26.kids.length c24), .int .i64 U35.k, .int .i64 U35.i, .int .i64 U35.j, .int .i64 U35.n, (.slice a32 U35.kids.length c33), .int .i64 U44.k, .int .i64 U44.i, .int .i64 U44.j, .int .i64 U44.n, (.slice a41 U44.kids.length c42), .int .i64 U53.k, .int .i64 U53.i, .int .i64 U53.j, .int .i64 U53.n, (.slice a50 U53.kids.length c51), .int .i64 U131.k, .int .i64 U131.i, .int .i64 U131.j, .int .i64 U131.n, (.slice a128 U131.kids.length c129)] (by rfl) (by rfl) 51 (by kernel_rfl) (row_ok rfl) ?_
                    intro W156 hW156
                    clear kvV0
                    clear kvW133
                    subst hW156
                    refine ⟨_, #[.int .i64 h.i, .int .i64 U26.k, .int .i64 U26.i, .int .i64 U26.j, .int .i64 U26.n, (.slice a23 U26.kids.length c24), .int .i64 U35.k, .int .i64 U35.i, .int .i64 U35.j, .int .i64 U35.n, (.slice a32 U35.kids.length c33), .int .i64 U44.k, .int .i64 U44.i, .int .i64 U44.j, .int .i64 U44.n, (.slice a41 U44.kids.length c42), .int .i64 U53.k, .int .i64 U53.i, .int .i64 U53.j, .int .i64 U53.n, (.slice a50 U53.kids.length c51), .int .i64 U131.k, .int .i64 U131.i, .int .i64 U131.j, .int .i64 U131.n, (.slice a128 U131.kids.length c129)], (blk_at Hx2.out (kept_trans KB135.out Kk153.out)), rfl, Nat.le_of_ble_eq_true rfl, ?_⟩
                    intro W157 hW157
                    go_wp2_with fail
                    refine bodyPost_ret (results_cell_row rfl _ _ (w.heap.size + 1) 51 _ _ dh rfl (blk_same (blk_at Hx2.out (kept_trans KB135.out Kk153.out)) hW157) dh1 (by cases dh <;> first | rfl | exact dh2) (by kernel_rfl)) rfl ?_
                    rw [show heLift h k = (⟨h.i, U26, U35, U44, U53, U131⟩ : He) from by unfold heLift heUp; rw [HU26.out]; rw [HU35.out]; rw [HU44.out]; rw [HU53.out]; rw [HU131.out]; rw [Hhb9.out, Hhb151.out]; (try rfl)]
                    exact ⟨_, _, _, _, _, rfl, ⟨par_end (par_row' (HL142.out.later Kk153.out) hW157 (by omega) (by have := Z0.out; omega)) (by have := Z0.out; omega), par_end (par_row' (HL143.out.later Kk153.out) hW157 (by omega) (by have := Z0.out; omega)) (by have := Z0.out; omega), par_end (par_row' (HL144.out.later Kk153.out) hW157 (by omega) (by have := Z0.out; omega)) (by have := Z0.out; omega), par_end (par_row' (HL145.out.later Kk153.out) hW157 (by omega) (by have := Z0.out; omega)) (by have := Z0.out; omega), par_end (par_row' (HL146.out.later Kk153.out) hW157 (by omega) (by have := Z0.out; omega)) (by have := Z0.out; omega)⟩, kept_set (kept_trans KB134.out Kk153.out) hW157 (by omega)⟩
                exact AllReadyH.nil
              exact AllReadyH.nil
            exact AllReadyH.nil
          refine AllReadyH.cons (o := hLiftr3_23) rfl (fun K hK => ?_) ?_
          · unfold hLiftr3_23
            go_simp
            refine at_K (fun W158 hW158 => ?_)
            obtain ⟨k160, x159, z161⟩ := alloc1 hW158
            have Kk162 := Lib.hid k160
            clear k160
            have Hx159 := Lib.hid x159
            have Hz161 := Lib.hid z161
            clear x159 z161 hW158
            have HG163 : Hid (V0.heap.size ≤ w37.heap.size) := (Below.size (kept_trans Kk11.out (kept_trans Kk18.out (kept_trans Kk27.out (kept_trans Kk36.out Kk45.out)))))
            have XL164 := Lib.hid (xlt_more (xlt_nil _) Kk162.out (by have := Hz161.out; omega))
            have HL165 : Hid (LiesQ W158 (Par w V0.heap.size (w37.heap.size :: []) P) h.a.kids _) := (par_more (HLha.out.later (kept_trans Kk11.out (kept_trans Kk18.out (kept_trans Kk27.out (kept_trans Kk36.out Kk45.out)))))).later Kk162.out
            have HL166 : Hid (LiesQ W158 (Par w V0.heap.size (w37.heap.size :: []) P) h.b.kids _) := (par_more (HLhb.out.later (kept_trans Kk11.out (kept_trans Kk18.out (kept_trans Kk27.out (kept_trans Kk36.out Kk45.out)))))).later Kk162.out
            have HL167 : Hid (LiesQ W158 (Par w V0.heap.size (w37.heap.size :: []) P) h.x.kids _) := (par_more (HLhx.out.later (kept_trans Kk11.out (kept_trans Kk18.out (kept_trans Kk27.out (kept_trans Kk36.out Kk45.out)))))).later Kk162.out
            have HL168 : Hid (LiesQ W158 (Par w V0.heap.size (w37.heap.size :: []) P) h.y.kids _) := (par_more (HLhy.out.later (kept_trans Kk11.out (kept_trans Kk18.out (kept_trans Kk27.out (kept_trans Kk36.out Kk45.out)))))).later Kk162.out
            have HL169 : Hid (LiesQ W158 (Par w V0.heap.size (w37.heap.size :: []) P) h.h.kids _) := (par_more (HLhh.out.later (kept_trans Kk11.out (kept_trans Kk18.out (kept_trans Kk27.out (kept_trans Kk36.out Kk45.out)))))).later Kk162.out
            have HL170 : Hid (LiesQ W158 (Par w V0.heap.size (w37.heap.size :: []) P) U26.kids _) := (par_more (Hhl22.out.later (kept_trans Kk36.out Kk45.out))).later Kk162.out
            have HL171 : Hid (LiesQ W158 (Par w V0.heap.size (w37.heap.size :: []) P) U35.kids _) := (par_more (Hhl31.out.later Kk45.out)).later Kk162.out
            have HL172 : Hid (LiesQ W158 (Par w V0.heap.size (w37.heap.size :: []) P) U44.kids _) := (par_more Hhl40.out).later Kk162.out
            have HD173 : Hid (W15.heap.size ≤ w37.heap.size) := Below.size (kept_trans Kk27.out (kept_trans Kk36.out Kk45.out))
            clear hHeld
            refine hK.out _ _ ?_ (fun hHeld => ?_)
            · (try dsimp only)
              exact sees_kept _ (kept_trans Kk27.out (kept_trans Kk36.out (kept_trans Kk45.out Kk162.out)))
            clear hK K
            (try simp only [Act.put, List.setIfInBounds_toArray, List.set_cons_zero, List.set_cons_succ])
            refine wpAnyH_ready (rs := [17]) (by kernel_rfl) (by simp) ?_
            refine AllReadyH.cons (o := hLiftr3_17) rfl (fun K hK => ?_) ?_
            · unfold hLiftr3_17
              go_simp
              refine ((lift_any h.y k 0 _ (.slice ahy h.y.kids.length chy) HL168.out.lies Rk.out (by unfold I64; decide) (HD.out _ (by simp))).mono (fun _ _ h => h.givesP (P := (Par w V0.heap.size (w37.heap.size :: []) P)))).mono ?_
              obtain ⟨U181, hU181⟩ : ∃ qu, h.y.liftB k 0 = qu := ⟨_, rfl⟩
              rw [hU181]
              have HU181 := Lib.hid hU181
              clear hU181
              rintro e w174 ⟨s176, rfl, hl177, k175⟩
              obtain ⟨a178, c179, S180, rfl, -⟩ := hl177.out
              have Kk182 := Lib.hid k175
              clear k175
              have Hhl177 : Hid (LiesQ w174 (Par w V0.heap.size (w37.heap.size :: []) P) U181.kids _) := par_give hl177 (Below.size (kept_trans Kk11.out (kept_trans Kk18.out (kept_trans Kk27.out (kept_trans Kk36.out (kept_trans Kk45.out Kk162.out)))))) XL164.out
              clear hl177
              clear hHeld
              refine hK.out _ _ ?_ (fun hHeld => ?_)
              · (try dsimp only)
                exact sees_kept _ (kept_trans Kk27.out (kept_trans Kk36.out (kept_trans Kk45.out (kept_trans Kk162.out Kk182.out))))
              clear hK K
              (try simp only [Act.put, List.setIfInBounds_toArray, List.set_cons_zero, List.set_cons_succ])
              refine wpAnyH_ready (rs := [21]) (by kernel_rfl) (by simp) ?_
              refine AllReadyH.cons (o := hLiftr3_21) rfl (fun K hK => ?_) ?_
              · unfold hLiftr3_21
                go_simp
                refine ((lift_any h.h k 0 _ (.slice ahh h.h.kids.length chh) (HL169.out.later Kk182.out).lies Rk.out (by unfold I64; decide) (HD.out _ (by simp))).mono (fun _ _ h => h.givesP (P := (Par w V0.heap.size (w37.heap.size :: []) P)))).mono ?_
                obtain ⟨U190, hU190⟩ : ∃ qu, h.h.liftB k 0 = qu := ⟨_, rfl⟩
                rw [hU190]
                have HU190 := Lib.hid hU190
                clear hU190
                rintro e w183 ⟨s185, rfl, hl186, k184⟩
                obtain ⟨a187, c188, S189, rfl, -⟩ := hl186.out
                have Kk191 := Lib.hid k184
                clear k184
                have Hhl186 : Hid (LiesQ w183 (Par w V0.heap.size (w37.heap.size :: []) P) U190.kids _) := par_give hl186 (Below.size (kept_trans Kk11.out (kept_trans Kk18.out (kept_trans Kk27.out (kept_trans Kk36.out (kept_trans Kk45.out (kept_trans Kk162.out Kk182.out))))))) (xlt_later XL164.out Kk182.out)
                clear hl186
                clear hHeld
                refine hK.out _ _ ?_ (fun hHeld => ?_)
                · (try dsimp only)
                  exact sees_kept _ (kept_trans Kk27.out (kept_trans Kk36.out (kept_trans Kk45.out (kept_trans Kk162.out (kept_trans Kk182.out Kk191.out)))))
                clear hK K
                (try simp only [Act.put, List.setIfInBounds_toArray, List.set_cons_zero, List.set_cons_succ])
                refine take_at 22 32 hLiftr3_22 (v := ?_) (Or.inl ⟨by rfl, ?_⟩) ?_
                rotate_left 1
                · ((intro w hSw; (try dsimp only at hSw); unfold hLiftr3_22; go_simp) <;> with_reducible rfl)
                (try simp only [Act.put, List.setIfInBounds_toArray, List.set_cons_zero, List.set_cons_succ])
                refine wpAnyH_ready (rs := [24]) (by kernel_rfl) (by simp) ?_
                refine AllReadyH.cons (o := hLiftr3_24) rfl (fun K hK => ?_) ?_
                · unfold hLiftr3_24
                  refine step_store_part rfl 51 (.tmp 5) (.tmp 32) rfl (w37.heap.size) 0 #[.int .i64 h.i, .int .i64 U26.k, .int .i64 U26.i, .int .i64 U26.j, .int .i64 U26.n, (.slice a23 U26.kids.length c24), .int .i64 U35.k, .int .i64 U35.i, .int .i64 U35.j, .int .i64 U35.n, (.slice a32 U35.kids.length c33), .int .i64 U44.k, .int .i64 U44.i, .int .i64 U44.j, .int .i64 U44.n, (.slice a41 U44.kids.length c42), .int .i64 U181.k, .int .i64 U181.i, .int .i64 U181.j, .int .i64 U181.n, (.slice a178 U181.kids.length c179), .int .i64 U190.k, .int .i64 U190.i, .int .i64 U190.j, .int .i64 U190.n, (.slice a187 U190.kids.length c188)] rfl rfl 51 (by kernel_rfl) (row_ok rfl) _ #[.int .i64 h.i, .int .i64 U26.k, .int .i64 U26.i, .int .i64 U26.j, .int .i64 U26.n, (.slice a23 U26.kids.length c24), .int .i64 U35.k, .int .i64 U35.i, .int .i64 U35.j, .int .i64 U35.n, (.slice a32 U35.kids.length c33), .int .i64 U44.k, .int .i64 U44.i, .int .i64 U44.j, .int .i64 U44.n, (.slice a41 U44.kids.length c42), .int .i64 U181.k, .int .i64 U181.i, .int .i64 U181.j, .int .i64 U181.n, (.slice a178 U181.kids.length c179), .int .i64 U190.k, .int .i64 U190.i, .int .i64 U190.j, .int .i64 U190.n, (.slice a187 U190.kids.length c188)] (blk_at Hx159.out (kept_trans Kk182.out Kk191.out)) rfl (Nat.le_of_ble_eq_true rfl) ?_
                  intro W192 hW192
                  have KB193 := Lib.hid (kept_set (kept_trans Kk5.out (kept_trans Kk11.out (kept_trans Kk18.out (kept_trans Kk27.out (kept_trans Kk36.out (kept_trans Kk45.out (kept_trans Kk162.out (kept_trans Kk182.out Kk191.out)))))))) hW192 (by have := HG163.out; have := Z0.out; omega))
                  have KB194 := Lib.hid (kept_set (kept_trans Kk11.out (kept_trans Kk18.out (kept_trans Kk27.out (kept_trans Kk36.out (kept_trans Kk45.out (kept_trans Kk162.out (kept_trans Kk182.out Kk191.out))))))) hW192 HG163.out)
                  have KB195 := Lib.hid (kept_set (kept_trans Kk27.out (kept_trans Kk36.out (kept_trans Kk45.out (kept_trans Kk162.out (kept_trans Kk182.out Kk191.out))))) hW192 HD173.out)
                  have HL196 : Hid (LiesQ W192 (Par w V0.heap.size (w37.heap.size :: []) P) h.a.kids _) := par_set (HL165.out.later (kept_trans Kk182.out Kk191.out)) hW192 (List.mem_cons_self ..) (by have := HG163.out; have := Z0.out; omega)
                  have HL197 : Hid (LiesQ W192 (Par w V0.heap.size (w37.heap.size :: []) P) h.b.kids _) := par_set (HL166.out.later (kept_trans Kk182.out Kk191.out)) hW192 (List.mem_cons_self ..) (by have := HG163.out; have := Z0.out; omega)
                  have HL198 : Hid (LiesQ W192 (Par w V0.heap.size (w37.heap.size :: []) P) h.x.kids _) := par_set (HL167.out.later (kept_trans Kk182.out Kk191.out)) hW192 (List.mem_cons_self ..) (by have := HG163.out; have := Z0.out; omega)
                  have HL199 : Hid (LiesQ W192 (Par w V0.heap.size (w37.heap.size :: []) P) h.y.kids _) := par_set (HL168.out.later (kept_trans Kk182.out Kk191.out)) hW192 (List.mem_cons_self ..) (by have := HG163.out; have := Z0.out; omega)
                  have HL200 : Hid (LiesQ W192 (Par w V0.heap.size (w37.heap.size :: []) P) h.h.kids _) := par_set (HL169.out.later (kept_trans Kk182.out Kk191.out)) hW192 (List.mem_cons_self ..) (by have := HG163.out; have := Z0.out; omega)
                  have HL201 : Hid (LiesQ W192 (Par w V0.heap.size (w37.heap.size :: []) P) U26.kids _) := par_set (HL170.out.later (kept_trans Kk182.out Kk191.out)) hW192 (List.mem_cons_self ..) (by have := HG163.out; have := Z0.out; omega)
                  have HL202 : Hid (LiesQ W192 (Par w V0.heap.size (w37.heap.size :: []) P) U35.kids _) := par_set (HL171.out.later (kept_trans Kk182.out Kk191.out)) hW192 (List.mem_cons_self ..) (by have := HG163.out; have := Z0.out; omega)
                  have HL203 : Hid (LiesQ W192 (Par w V0.heap.size (w37.heap.size :: []) P) U44.kids _) := par_set (HL172.out.later (kept_trans Kk182.out Kk191.out)) hW192 (List.mem_cons_self ..) (by have := HG163.out; have := Z0.out; omega)
                  have HL204 : Hid (LiesQ W192 (Par w V0.heap.size (w37.heap.size :: []) P) U181.kids _) := par_set (Hhl177.out.later Kk191.out) hW192 (List.mem_cons_self ..) (by have := HG163.out; have := Z0.out; omega)
                  have HL205 : Hid (LiesQ W192 (Par w V0.heap.size (w37.heap.size :: []) P) U190.kids _) := par_set Hhl186.out hW192 (List.mem_cons_self ..) (by have := HG163.out; have := Z0.out; omega)
                  have XL206 := Lib.hid (xlt_set (xlt_later XL164.out (kept_trans Kk182.out Kk191.out)) hW192)
                  have HX207 := Lib.hid (blk_same (blk_at Hx159.out (kept_trans Kk182.out Kk191.out)) hW192)
                  clear hW192
                  clear hHeld
                  refine hK.out _ _ ?_ (fun hHeld => ?_)
                  · (try dsimp only)
                    exact sees_kept _ KB195.out
                  clear hK K
                  (try simp only [Act.put])
                  refine wpAnyH_done (by kernel_rfl) ?_ _
                  clear hHeld
                  have kvV0 : Sees V0 (w.heap.size + 1) W192 := sees_kept _ KB194.out
                  have kvW192 : Sees W192 (w.heap.size + 1) W192 := sees_kept _ (kept_refl _)
                  go_wp2_with (refine stop_load 51 (.tmp 5) rfl ?_)
                  intro _
                  refine wpList_load_part (w37.heap.size) 0 51 (.tmp 5) #[.int .i64 h.i, .int .i64 U26.k, .int .i64 U26.i, .int .i64 U26.j, .int .i64 U26.n, (.slice a23 U26.kids.length c24), .int .i64 U35.k, .int .i64 U35.i, .int .i64 U35.j, .int .i64 U35.n, (.slice a32 U35.kids.length c33), .int .i64 U44.k, .int .i64 U44.i, .int .i64 U44.j, .int .i64 U44.n, (.slice a41 U44.kids.length c42), .int .i64 U181.k, .int .i64 U181.i, .int .i64 U181.j, .int .i64 U181.n, (.slice a178 U181.kids.length c179), .int .i64 U190.k, .int .i64 U190.i, .int .i64 U190.j, .int .i64 U190.n, (.slice a187 U190.kids.length c188)] dh HX207.out (by rfl) rfl (by rfl) (by rfl) dh1 (by cases dh <;> first | rfl | exact dh2) (by kernel_rfl) ?_
                  go_wp2_with fail
                  clear kvV0
                  clear kvW192
                  refine (hrightHet_any (⟨h.i, U26, U35, U44, U181, U190⟩ : He) (Par w V0.heap.size (w37.heap.size :: []) P) _ (.slice a23 U26.kids.length c24) (.slice a32 U35.kids.length c33) (.slice a41 U44.kids.length c42) (.slice a178 U181.kids.length c179) (.slice a187 U190.kids.length c188) ⟨Gh.out.1, (by rw [← HU26.out]; exact (lift_fine k (heR_pl Hhb9.out _ (by simp)))), (by rw [← HU35.out]; exact (lift_fine k (heR_pl Hhb9.out _ (by simp)))), (by rw [← HU44.out]; exact (lift_fine k (heR_pl Hhb9.out _ (by simp)))), (by rw [← HU181.out]; exact (lift_fine k (heR_pl Hhb9.out _ (by simp)))), (by rw [← HU190.out]; exact (lift_fine k (heR_pl Hhb9.out _ (by simp))))⟩ ⟨HL201.out, HL202.out, HL203.out, HL204.out, HL205.out⟩).mono ?_
                  obtain ⟨rb211, hb210⟩ : ∃ qb, heR (⟨h.i, U26, U35, U44, U181, U190⟩ : He) = qb := ⟨_, rfl⟩
                  rw [hb210]
                  have Hhb210 := Lib.hid hb210
                  clear hb210
                  rintro e w208 ⟨rfl, k209⟩
                  have Kk212 := Lib.hid k209
                  clear k209
                  cases rb211 with
                  | false =>
                    have kvV0 : Sees V0 (w.heap.size + 1) w208 := sees_kept _ (kept_trans KB194.out Kk212.out)
                    have kvW192 : Sees W192 (w.heap.size + 1) w208 := sees_kept _ Kk212.out
                    go_wp2_with (refine stop_store 51 (.tmp 4) (.tmp 36) rfl ?_)
                    intro _
                    refine wpList_store_part_n (by rfl) 51 (.tmp 4) (.tmp 36) rfl (w.heap.size + 1) 0 #[.int .i64 0, .int .i64 0, .int .i64 0, .int .i64 0, .int .i64 0, .slice none 0 0, .int .i64 0, .int .i64 0, .int .i64 0, .int .i64 0, .slice none 0 0, .int .i64 0, .int .i64 0, .int .i64 0, .int .i64 0, .slice none 0 0, .int .i64 0, .int .i64 0, .int .i64 0, .int .i64 0, .slice none 0 0, .int .i64 0, .int .i64 0, .int .i64 0, .int .i64 0, .slice none 0 0] (by rfl) (by rfl) 51 (by kernel_rfl) (row_ok rfl) ?_
                    intro W213 hW213
                    clear kvV0
                    clear kvW192
                    subst hW213
                    refine ⟨_, #[.int .i64 0, .int .i64 0, .int .i64 0, .int .i64 0, .int .i64 0, .slice none 0 0, .int .i64 0, .int .i64 0, .int .i64 0, .int .i64 0, .slice none 0 0, .int .i64 0, .int .i64 0, .int .i64 0, .int .i64 0, .slice none 0 0, .int .i64 0, .int .i64 0, .int .i64 0, .int .i64 0, .slice none 0 0, .int .i64 0, .int .i64 0, .int .i64 0, .int .i64 0, .slice none 0 0], (blk_at Hx2.out (kept_trans KB194.out Kk212.out)), rfl, Nat.le_of_ble_eq_true rfl, ?_⟩
                    intro W214 hW214
                    go_wp2_with fail
                    refine bodyPost_ret (results_cell_row rfl _ _ (w.heap.size + 1) 51 _ _ dh rfl (blk_same (blk_at Hx2.out (kept_trans KB194.out Kk212.out)) hW214) dh1 (by cases dh <;> first | rfl | exact dh2) (by kernel_rfl)) rfl ?_
                    rw [show heLift h k = (⟨0, (.mk 0 0 0 0 []), (.mk 0 0 0 0 []), (.mk 0 0 0 0 []), (.mk 0 0 0 0 []), (.mk 0 0 0 0 [])⟩ : He) from by unfold heLift heUp; rw [HU26.out]; rw [HU35.out]; rw [HU44.out]; rw [HU181.out]; rw [HU190.out]; rw [Hhb9.out, Hhb210.out]; (try rfl)]
                    exact ⟨_, _, _, _, _, rfl, ⟨par_end (par_row' (liesQ_nil w208 (Par w V0.heap.size (w37.heap.size :: []) P)) hW214 (by omega) (by have := Z0.out; omega)) (by have := Z0.out; omega), par_end (par_row' (liesQ_nil w208 (Par w V0.heap.size (w37.heap.size :: []) P)) hW214 (by omega) (by have := Z0.out; omega)) (by have := Z0.out; omega), par_end (par_row' (liesQ_nil w208 (Par w V0.heap.size (w37.heap.size :: []) P)) hW214 (by omega) (by have := Z0.out; omega)) (by have := Z0.out; omega), par_end (par_row' (liesQ_nil w208 (Par w V0.heap.size (w37.heap.size :: []) P)) hW214 (by omega) (by have := Z0.out; omega)) (by have := Z0.out; omega), par_end (par_row' (liesQ_nil w208 (Par w V0.heap.size (w37.heap.size :: []) P)) hW214 (by omega) (by have := Z0.out; omega)) (by have := Z0.out; omega)⟩, kept_set (kept_trans KB193.out Kk212.out) hW214 (by omega)⟩
                  | true =>
                    have kvV0 : Sees V0 (w.heap.size + 1) w208 := sees_kept _ (kept_trans KB194.out Kk212.out)
                    have kvW192 : Sees W192 (w.heap.size + 1) w208 := sees_kept _ Kk212.out
                    go_wp2_with (refine stop_load 51 (.tmp 5) rfl ?_)
                    intro _
                    refine wpList_load_part (w37.heap.size) 0 51 (.tmp 5) #[.int .i64 h.i, .int .i64 U26.k, .int .i64 U26.i, .int .i64 U26.j, .int .i64 U26.n, (.slice a23 U26.kids.length c24), .int .i64 U35.k, .int .i64 U35.i, .int .i64 U35.j, .int .i64 U35.n, (.slice a32 U35.kids.length c33), .int .i64 U44.k, .int .i64 U44.i, .int .i64 U44.j, .int .i64 U44.n, (.slice a41 U44.kids.length c42), .int .i64 U181.k, .int .i64 U181.i, .int .i64 U181.j, .int .i64 U181.n, (.slice a178 U181.kids.length c179), .int .i64 U190.k, .int .i64 U190.i, .int .i64 U190.j, .int .i64 U190.n, (.slice a187 U190.kids.length c188)] dh (blk_at HX207.out Kk212.out) (by rfl) rfl (by rfl) (by rfl) dh1 (by cases dh <;> first | rfl | exact dh2) (by kernel_rfl) ?_
                    go_wp2_with (refine stop_store 51 (.tmp 4) (.tmp 37) rfl ?_)
                    intro _
                    refine wpList_store_part_n (by rfl) 51 (.tmp 4) (.tmp 37) rfl (w.heap.size + 1) 0 #[.int .i64 h.i, .int .i64 U26.k, .int .i64 U26.i, .int .i64 U26.j, .int .i64 U26.n, (.slice a23 U26.kids.length c24), .int .i64 U35.k, .int .i64 U35.i, .int .i64 U35.j, .int .i64 U35.n, (.slice a32 U35.kids.length c33), .int .i64 U44.k, .int .i64 U44.i, .int .i64 U44.j, .int .i64 U44.n, (.slice a41 U44.kids.length c42), .int .i64 U181.k, .int .i64 U181.i, .int .i64 U181.j, .int .i64 U181.n, (.slice a178 U181.kids.length c179), .int .i64 U190.k, .int .i64 U190.i, .int .i64 U190.j, .int .i64 U190.n, (.slice a187 U190.kids.length c188)] (by rfl) (by rfl) 51 (by kernel_rfl) (row_ok rfl) ?_
                    intro W215 hW215
                    clear kvV0
                    clear kvW192
                    subst hW215
                    refine ⟨_, #[.int .i64 h.i, .int .i64 U26.k, .int .i64 U26.i, .int .i64 U26.j, .int .i64 U26.n, (.slice a23 U26.kids.length c24), .int .i64 U35.k, .int .i64 U35.i, .int .i64 U35.j, .int .i64 U35.n, (.slice a32 U35.kids.length c33), .int .i64 U44.k, .int .i64 U44.i, .int .i64 U44.j, .int .i64 U44.n, (.slice a41 U44.kids.length c42), .int .i64 U181.k, .int .i64 U181.i, .int .i64 U181.j, .int .i64 U181.n, (.slice a178 U181.kids.length c179), .int .i64 U190.k, .int .i64 U190.i, .int .i64 U190.j, .int .i64 U190.n, (.slice a187 U190.kids.length c188)], (blk_at Hx2.out (kept_trans KB194.out Kk212.out)), rfl, Nat.le_of_ble_eq_true rfl, ?_⟩
                    intro W216 hW216
                    go_wp2_with fail
                    refine bodyPost_ret (results_cell_row rfl _ _ (w.heap.size + 1) 51 _ _ dh rfl (blk_same (blk_at Hx2.out (kept_trans KB194.out Kk212.out)) hW216) dh1 (by cases dh <;> first | rfl | exact dh2) (by kernel_rfl)) rfl ?_
                    rw [show heLift h k = (⟨h.i, U26, U35, U44, U181, U190⟩ : He) from by unfold heLift heUp; rw [HU26.out]; rw [HU35.out]; rw [HU44.out]; rw [HU181.out]; rw [HU190.out]; rw [Hhb9.out, Hhb210.out]; (try rfl)]
                    exact ⟨_, _, _, _, _, rfl, ⟨par_end (par_row' (HL201.out.later Kk212.out) hW216 (by omega) (by have := Z0.out; omega)) (by have := Z0.out; omega), par_end (par_row' (HL202.out.later Kk212.out) hW216 (by omega) (by have := Z0.out; omega)) (by have := Z0.out; omega), par_end (par_row' (HL203.out.later Kk212.out) hW216 (by omega) (by have := Z0.out; omega)) (by have := Z0.out; omega), par_end (par_row' (HL204.out.later Kk212.out) hW216 (by omega) (by have := Z0.out; omega)) (by have := Z0.out; omega), par_end (par_row' (HL205.out.later Kk212.out) hW216 (by omega) (by have := Z0.out; omega)) (by have := Z0.out; omega)⟩, kept_set (kept_trans KB193.out Kk212.out) hW216 (by omega)⟩
                exact AllReadyH.nil
              exact AllReadyH.nil
            exact AllReadyH.nil
          exact AllReadyH.nil
        refine AllReadyH.cons (o := hLiftr3_23) rfl (fun K hK => ?_) ?_
        · unfold hLiftr3_23
          go_simp
          refine at_K (fun W217 hW217 => ?_)
          obtain ⟨k219, x218, z220⟩ := alloc1 hW217
          have Kk221 := Lib.hid k219
          clear k219
          have Hx218 := Lib.hid x218
          have Hz220 := Lib.hid z220
          clear x218 z220 hW217
          have HG222 : Hid (V0.heap.size ≤ w28.heap.size) := (Below.size (kept_trans Kk11.out (kept_trans Kk18.out (kept_trans Kk27.out Kk36.out))))
          have XL223 := Lib.hid (xlt_more (xlt_nil _) Kk221.out (by have := Hz220.out; omega))
          have HL224 : Hid (LiesQ W217 (Par w V0.heap.size (w28.heap.size :: []) P) h.a.kids _) := (par_more (HLha.out.later (kept_trans Kk11.out (kept_trans Kk18.out (kept_trans Kk27.out Kk36.out))))).later Kk221.out
          have HL225 : Hid (LiesQ W217 (Par w V0.heap.size (w28.heap.size :: []) P) h.b.kids _) := (par_more (HLhb.out.later (kept_trans Kk11.out (kept_trans Kk18.out (kept_trans Kk27.out Kk36.out))))).later Kk221.out
          have HL226 : Hid (LiesQ W217 (Par w V0.heap.size (w28.heap.size :: []) P) h.x.kids _) := (par_more (HLhx.out.later (kept_trans Kk11.out (kept_trans Kk18.out (kept_trans Kk27.out Kk36.out))))).later Kk221.out
          have HL227 : Hid (LiesQ W217 (Par w V0.heap.size (w28.heap.size :: []) P) h.y.kids _) := (par_more (HLhy.out.later (kept_trans Kk11.out (kept_trans Kk18.out (kept_trans Kk27.out Kk36.out))))).later Kk221.out
          have HL228 : Hid (LiesQ W217 (Par w V0.heap.size (w28.heap.size :: []) P) h.h.kids _) := (par_more (HLhh.out.later (kept_trans Kk11.out (kept_trans Kk18.out (kept_trans Kk27.out Kk36.out))))).later Kk221.out
          have HL229 : Hid (LiesQ W217 (Par w V0.heap.size (w28.heap.size :: []) P) U26.kids _) := (par_more (Hhl22.out.later Kk36.out)).later Kk221.out
          have HL230 : Hid (LiesQ W217 (Par w V0.heap.size (w28.heap.size :: []) P) U35.kids _) := (par_more Hhl31.out).later Kk221.out
          have HD231 : Hid (W15.heap.size ≤ w28.heap.size) := Below.size (kept_trans Kk27.out Kk36.out)
          clear hHeld
          refine hK.out _ _ ?_ (fun hHeld => ?_)
          · (try dsimp only)
            exact sees_kept _ (kept_trans Kk27.out (kept_trans Kk36.out Kk221.out))
          clear hK K
          (try simp only [Act.put, List.setIfInBounds_toArray, List.set_cons_zero, List.set_cons_succ])
          refine wpAnyH_ready (rs := [13]) (by kernel_rfl) (by simp) ?_
          refine AllReadyH.cons (o := hLiftr3_13) rfl (fun K hK => ?_) ?_
          · unfold hLiftr3_13
            go_simp
            refine ((lift_any h.x k 0 _ (.slice ahx h.x.kids.length chx) HL226.out.lies Rk.out (by unfold I64; decide) (HD.out _ (by simp))).mono (fun _ _ h => h.givesP (P := (Par w V0.heap.size (w28.heap.size :: []) P)))).mono ?_
            obtain ⟨U239, hU239⟩ : ∃ qu, h.x.liftB k 0 = qu := ⟨_, rfl⟩
            rw [hU239]
            have HU239 := Lib.hid hU239
            clear hU239
            rintro e w232 ⟨s234, rfl, hl235, k233⟩
            obtain ⟨a236, c237, S238, rfl, -⟩ := hl235.out
            have Kk240 := Lib.hid k233
            clear k233
            have Hhl235 : Hid (LiesQ w232 (Par w V0.heap.size (w28.heap.size :: []) P) U239.kids _) := par_give hl235 (Below.size (kept_trans Kk11.out (kept_trans Kk18.out (kept_trans Kk27.out (kept_trans Kk36.out Kk221.out))))) XL223.out
            clear hl235
            clear hHeld
            refine hK.out _ _ ?_ (fun hHeld => ?_)
            · (try dsimp only)
              exact sees_kept _ (kept_trans Kk27.out (kept_trans Kk36.out (kept_trans Kk221.out Kk240.out)))
            clear hK K
            (try simp only [Act.put, List.setIfInBounds_toArray, List.set_cons_zero, List.set_cons_succ])
            refine wpAnyH_ready (rs := [17]) (by kernel_rfl) (by simp) ?_
            refine AllReadyH.cons (o := hLiftr3_17) rfl (fun K hK => ?_) ?_
            · unfold hLiftr3_17
              go_simp
              refine ((lift_any h.y k 0 _ (.slice ahy h.y.kids.length chy) (HL227.out.later Kk240.out).lies Rk.out (by unfold I64; decide) (HD.out _ (by simp))).mono (fun _ _ h => h.givesP (P := (Par w V0.heap.size (w28.heap.size :: []) P)))).mono ?_
              obtain ⟨U248, hU248⟩ : ∃ qu, h.y.liftB k 0 = qu := ⟨_, rfl⟩
              rw [hU248]
              have HU248 := Lib.hid hU248
              clear hU248
              rintro e w241 ⟨s243, rfl, hl244, k242⟩
              obtain ⟨a245, c246, S247, rfl, -⟩ := hl244.out
              have Kk249 := Lib.hid k242
              clear k242
              have Hhl244 : Hid (LiesQ w241 (Par w V0.heap.size (w28.heap.size :: []) P) U248.kids _) := par_give hl244 (Below.size (kept_trans Kk11.out (kept_trans Kk18.out (kept_trans Kk27.out (kept_trans Kk36.out (kept_trans Kk221.out Kk240.out)))))) (xlt_later XL223.out Kk240.out)
              clear hl244
              clear hHeld
              refine hK.out _ _ ?_ (fun hHeld => ?_)
              · (try dsimp only)
                exact sees_kept _ (kept_trans Kk27.out (kept_trans Kk36.out (kept_trans Kk221.out (kept_trans Kk240.out Kk249.out))))
              clear hK K
              (try simp only [Act.put, List.setIfInBounds_toArray, List.set_cons_zero, List.set_cons_succ])
              refine wpAnyH_ready (rs := [21]) (by kernel_rfl) (by simp) ?_
              refine AllReadyH.cons (o := hLiftr3_21) rfl (fun K hK => ?_) ?_
              · unfold hLiftr3_21
                go_simp
                refine ((lift_any h.h k 0 _ (.slice ahh h.h.kids.length chh) (HL228.out.later (kept_trans Kk240.out Kk249.out)).lies Rk.out (by unfold I64; decide) (HD.out _ (by simp))).mono (fun _ _ h => h.givesP (P := (Par w V0.heap.size (w28.heap.size :: []) P)))).mono ?_
                obtain ⟨U257, hU257⟩ : ∃ qu, h.h.liftB k 0 = qu := ⟨_, rfl⟩
                rw [hU257]
                have HU257 := Lib.hid hU257
                clear hU257
                rintro e w250 ⟨s252, rfl, hl253, k251⟩
                obtain ⟨a254, c255, S256, rfl, -⟩ := hl253.out
                have Kk258 := Lib.hid k251
                clear k251
                have Hhl253 : Hid (LiesQ w250 (Par w V0.heap.size (w28.heap.size :: []) P) U257.kids _) := par_give hl253 (Below.size (kept_trans Kk11.out (kept_trans Kk18.out (kept_trans Kk27.out (kept_trans Kk36.out (kept_trans Kk221.out (kept_trans Kk240.out Kk249.out))))))) (xlt_later XL223.out (kept_trans Kk240.out Kk249.out))
                clear hl253
                clear hHeld
                refine hK.out _ _ ?_ (fun hHeld => ?_)
                · (try dsimp only)
                  exact sees_kept _ (kept_trans Kk27.out (kept_trans Kk36.out (kept_trans Kk221.out (kept_trans Kk240.out (kept_trans Kk249.out Kk258.out)))))
                clear hK K
                (try simp only [Act.put, List.setIfInBounds_toArray, List.set_cons_zero, List.set_cons_succ])
                refine take_at 22 32 hLiftr3_22 (v := ?_) (Or.inl ⟨by rfl, ?_⟩) ?_
                rotate_left 1
                · ((intro w hSw; (try dsimp only at hSw); unfold hLiftr3_22; go_simp) <;> with_reducible rfl)
                (try simp only [Act.put, List.setIfInBounds_toArray, List.set_cons_zero, List.set_cons_succ])
                refine wpAnyH_ready (rs := [24]) (by kernel_rfl) (by simp) ?_
                refine AllReadyH.cons (o := hLiftr3_24) rfl (fun K hK => ?_) ?_
                · unfold hLiftr3_24
                  refine step_store_part rfl 51 (.tmp 5) (.tmp 32) rfl (w28.heap.size) 0 #[.int .i64 h.i, .int .i64 U26.k, .int .i64 U26.i, .int .i64 U26.j, .int .i64 U26.n, (.slice a23 U26.kids.length c24), .int .i64 U35.k, .int .i64 U35.i, .int .i64 U35.j, .int .i64 U35.n, (.slice a32 U35.kids.length c33), .int .i64 U239.k, .int .i64 U239.i, .int .i64 U239.j, .int .i64 U239.n, (.slice a236 U239.kids.length c237), .int .i64 U248.k, .int .i64 U248.i, .int .i64 U248.j, .int .i64 U248.n, (.slice a245 U248.kids.length c246), .int .i64 U257.k, .int .i64 U257.i, .int .i64 U257.j, .int .i64 U257.n, (.slice a254 U257.kids.length c255)] rfl rfl 51 (by kernel_rfl) (row_ok rfl) _ #[.int .i64 h.i, .int .i64 U26.k, .int .i64 U26.i, .int .i64 U26.j, .int .i64 U26.n, (.slice a23 U26.kids.length c24), .int .i64 U35.k, .int .i64 U35.i, .int .i64 U35.j, .int .i64 U35.n, (.slice a32 U35.kids.length c33), .int .i64 U239.k, .int .i64 U239.i, .int .i64 U239.j, .int .i64 U239.n, (.slice a236 U239.kids.length c237), .int .i64 U248.k, .int .i64 U248.i, .int .i64 U248.j, .int .i64 U248.n, (.slice a245 U248.kids.length c246), .int .i64 U257.k, .int .i64 U257.i, .int .i64 U257.j, .int .i64 U257.n, (.slice a254 U257.kids.length c255)] (blk_at Hx218.out (kept_trans Kk240.out (kept_trans Kk249.out Kk258.out))) rfl (Nat.le_of_ble_eq_true rfl) ?_
                  intro W259 hW259
                  have KB260 := Lib.hid (kept_set (kept_trans Kk5.out (kept_trans Kk11.out (kept_trans Kk18.out (kept_trans Kk27.out (kept_trans Kk36.out (kept_trans Kk221.out (kept_trans Kk240.out (kept_trans Kk249.out Kk258.out)))))))) hW259 (by have := HG222.out; have := Z0.out; omega))
                  have KB261 := Lib.hid (kept_set (kept_trans Kk11.out (kept_trans Kk18.out (kept_trans Kk27.out (kept_trans Kk36.out (kept_trans Kk221.out (kept_trans Kk240.out (kept_trans Kk249.out Kk258.out))))))) hW259 HG222.out)
                  have KB262 := Lib.hid (kept_set (kept_trans Kk27.out (kept_trans Kk36.out (kept_trans Kk221.out (kept_trans Kk240.out (kept_trans Kk249.out Kk258.out))))) hW259 HD231.out)
                  have HL263 : Hid (LiesQ W259 (Par w V0.heap.size (w28.heap.size :: []) P) h.a.kids _) := par_set (HL224.out.later (kept_trans Kk240.out (kept_trans Kk249.out Kk258.out))) hW259 (List.mem_cons_self ..) (by have := HG222.out; have := Z0.out; omega)
                  have HL264 : Hid (LiesQ W259 (Par w V0.heap.size (w28.heap.size :: []) P) h.b.kids _) := par_set (HL225.out.later (kept_trans Kk240.out (kept_trans Kk249.out Kk258.out))) hW259 (List.mem_cons_self ..) (by have := HG222.out; have := Z0.out; omega)
                  have HL265 : Hid (LiesQ W259 (Par w V0.heap.size (w28.heap.size :: []) P) h.x.kids _) := par_set (HL226.out.later (kept_trans Kk240.out (kept_trans Kk249.out Kk258.out))) hW259 (List.mem_cons_self ..) (by have := HG222.out; have := Z0.out; omega)
                  have HL266 : Hid (LiesQ W259 (Par w V0.heap.size (w28.heap.size :: []) P) h.y.kids _) := par_set (HL227.out.later (kept_trans Kk240.out (kept_trans Kk249.out Kk258.out))) hW259 (List.mem_cons_self ..) (by have := HG222.out; have := Z0.out; omega)
                  have HL267 : Hid (LiesQ W259 (Par w V0.heap.size (w28.heap.size :: []) P) h.h.kids _) := par_set (HL228.out.later (kept_trans Kk240.out (kept_trans Kk249.out Kk258.out))) hW259 (List.mem_cons_self ..) (by have := HG222.out; have := Z0.out; omega)
                  have HL268 : Hid (LiesQ W259 (Par w V0.heap.size (w28.heap.size :: []) P) U26.kids _) := par_set (HL229.out.later (kept_trans Kk240.out (kept_trans Kk249.out Kk258.out))) hW259 (List.mem_cons_self ..) (by have := HG222.out; have := Z0.out; omega)
                  have HL269 : Hid (LiesQ W259 (Par w V0.heap.size (w28.heap.size :: []) P) U35.kids _) := par_set (HL230.out.later (kept_trans Kk240.out (kept_trans Kk249.out Kk258.out))) hW259 (List.mem_cons_self ..) (by have := HG222.out; have := Z0.out; omega)
                  have HL270 : Hid (LiesQ W259 (Par w V0.heap.size (w28.heap.size :: []) P) U239.kids _) := par_set (Hhl235.out.later (kept_trans Kk249.out Kk258.out)) hW259 (List.mem_cons_self ..) (by have := HG222.out; have := Z0.out; omega)
                  have HL271 : Hid (LiesQ W259 (Par w V0.heap.size (w28.heap.size :: []) P) U248.kids _) := par_set (Hhl244.out.later Kk258.out) hW259 (List.mem_cons_self ..) (by have := HG222.out; have := Z0.out; omega)
                  have HL272 : Hid (LiesQ W259 (Par w V0.heap.size (w28.heap.size :: []) P) U257.kids _) := par_set Hhl253.out hW259 (List.mem_cons_self ..) (by have := HG222.out; have := Z0.out; omega)
                  have XL273 := Lib.hid (xlt_set (xlt_later XL223.out (kept_trans Kk240.out (kept_trans Kk249.out Kk258.out))) hW259)
                  have HX274 := Lib.hid (blk_same (blk_at Hx218.out (kept_trans Kk240.out (kept_trans Kk249.out Kk258.out))) hW259)
                  clear hW259
                  clear hHeld
                  refine hK.out _ _ ?_ (fun hHeld => ?_)
                  · (try dsimp only)
                    exact sees_kept _ KB262.out
                  clear hK K
                  (try simp only [Act.put])
                  refine wpAnyH_done (by kernel_rfl) ?_ _
                  clear hHeld
                  have kvV0 : Sees V0 (w.heap.size + 1) W259 := sees_kept _ KB261.out
                  have kvW259 : Sees W259 (w.heap.size + 1) W259 := sees_kept _ (kept_refl _)
                  go_wp2_with (refine stop_load 51 (.tmp 5) rfl ?_)
                  intro _
                  refine wpList_load_part (w28.heap.size) 0 51 (.tmp 5) #[.int .i64 h.i, .int .i64 U26.k, .int .i64 U26.i, .int .i64 U26.j, .int .i64 U26.n, (.slice a23 U26.kids.length c24), .int .i64 U35.k, .int .i64 U35.i, .int .i64 U35.j, .int .i64 U35.n, (.slice a32 U35.kids.length c33), .int .i64 U239.k, .int .i64 U239.i, .int .i64 U239.j, .int .i64 U239.n, (.slice a236 U239.kids.length c237), .int .i64 U248.k, .int .i64 U248.i, .int .i64 U248.j, .int .i64 U248.n, (.slice a245 U248.kids.length c246), .int .i64 U257.k, .int .i64 U257.i, .int .i64 U257.j, .int .i64 U257.n, (.slice a254 U257.kids.length c255)] dh HX274.out (by rfl) rfl (by rfl) (by rfl) dh1 (by cases dh <;> first | rfl | exact dh2) (by kernel_rfl) ?_
                  go_wp2_with fail
                  clear kvV0
                  clear kvW259
                  refine (hrightHet_any (⟨h.i, U26, U35, U239, U248, U257⟩ : He) (Par w V0.heap.size (w28.heap.size :: []) P) _ (.slice a23 U26.kids.length c24) (.slice a32 U35.kids.length c33) (.slice a236 U239.kids.length c237) (.slice a245 U248.kids.length c246) (.slice a254 U257.kids.length c255) ⟨Gh.out.1, (by rw [← HU26.out]; exact (lift_fine k (heR_pl Hhb9.out _ (by simp)))), (by rw [← HU35.out]; exact (lift_fine k (heR_pl Hhb9.out _ (by simp)))), (by rw [← HU239.out]; exact (lift_fine k (heR_pl Hhb9.out _ (by simp)))), (by rw [← HU248.out]; exact (lift_fine k (heR_pl Hhb9.out _ (by simp)))), (by rw [← HU257.out]; exact (lift_fine k (heR_pl Hhb9.out _ (by simp))))⟩ ⟨HL268.out, HL269.out, HL270.out, HL271.out, HL272.out⟩).mono ?_
                  obtain ⟨rb278, hb277⟩ : ∃ qb, heR (⟨h.i, U26, U35, U239, U248, U257⟩ : He) = qb := ⟨_, rfl⟩
                  rw [hb277]
                  have Hhb277 := Lib.hid hb277
                  clear hb277
                  rintro e w275 ⟨rfl, k276⟩
                  have Kk279 := Lib.hid k276
                  clear k276
                  cases rb278 with
                  | false =>
                    have kvV0 : Sees V0 (w.heap.size + 1) w275 := sees_kept _ (kept_trans KB261.out Kk279.out)
                    have kvW259 : Sees W259 (w.heap.size + 1) w275 := sees_kept _ Kk279.out
                    go_wp2_with (refine stop_store 51 (.tmp 4) (.tmp 36) rfl ?_)
                    intro _
                    refine wpList_store_part_n (by rfl) 51 (.tmp 4) (.tmp 36) rfl (w.heap.size + 1) 0 #[.int .i64 0, .int .i64 0, .int .i64 0, .int .i64 0, .int .i64 0, .slice none 0 0, .int .i64 0, .int .i64 0, .int .i64 0, .int .i64 0, .slice none 0 0, .int .i64 0, .int .i64 0, .int .i64 0, .int .i64 0, .slice none 0 0, .int .i64 0, .int .i64 0, .int .i64 0, .int .i64 0, .slice none 0 0, .int .i64 0, .int .i64 0, .int .i64 0, .int .i64 0, .slice none 0 0] (by rfl) (by rfl) 51 (by kernel_rfl) (row_ok rfl) ?_
                    intro W280 hW280
                    clear kvV0
                    clear kvW259
                    subst hW280
                    refine ⟨_, #[.int .i64 0, .int .i64 0, .int .i64 0, .int .i64 0, .int .i64 0, .slice none 0 0, .int .i64 0, .int .i64 0, .int .i64 0, .int .i64 0, .slice none 0 0, .int .i64 0, .int .i64 0, .int .i64 0, .int .i64 0, .slice none 0 0, .int .i64 0, .int .i64 0, .int .i64 0, .int .i64 0, .slice none 0 0, .int .i64 0, .int .i64 0, .int .i64 0, .int .i64 0, .slice none 0 0], (blk_at Hx2.out (kept_trans KB261.out Kk279.out)), rfl, Nat.le_of_ble_eq_true rfl, ?_⟩
                    intro W281 hW281
                    go_wp2_with fail
                    refine bodyPost_ret (results_cell_row rfl _ _ (w.heap.size + 1) 51 _ _ dh rfl (blk_same (blk_at Hx2.out (kept_trans KB261.out Kk279.out)) hW281) dh1 (by cases dh <;> first | rfl | exact dh2) (by kernel_rfl)) rfl ?_
                    rw [show heLift h k = (⟨0, (.mk 0 0 0 0 []), (.mk 0 0 0 0 []), (.mk 0 0 0 0 []), (.mk 0 0 0 0 []), (.mk 0 0 0 0 [])⟩ : He) from by unfold heLift heUp; rw [HU26.out]; rw [HU35.out]; rw [HU239.out]; rw [HU248.out]; rw [HU257.out]; rw [Hhb9.out, Hhb277.out]; (try rfl)]
                    exact ⟨_, _, _, _, _, rfl, ⟨par_end (par_row' (liesQ_nil w275 (Par w V0.heap.size (w28.heap.size :: []) P)) hW281 (by omega) (by have := Z0.out; omega)) (by have := Z0.out; omega), par_end (par_row' (liesQ_nil w275 (Par w V0.heap.size (w28.heap.size :: []) P)) hW281 (by omega) (by have := Z0.out; omega)) (by have := Z0.out; omega), par_end (par_row' (liesQ_nil w275 (Par w V0.heap.size (w28.heap.size :: []) P)) hW281 (by omega) (by have := Z0.out; omega)) (by have := Z0.out; omega), par_end (par_row' (liesQ_nil w275 (Par w V0.heap.size (w28.heap.size :: []) P)) hW281 (by omega) (by have := Z0.out; omega)) (by have := Z0.out; omega), par_end (par_row' (liesQ_nil w275 (Par w V0.heap.size (w28.heap.size :: []) P)) hW281 (by omega) (by have := Z0.out; omega)) (by have := Z0.out; omega)⟩, kept_set (kept_trans KB260.out Kk279.out) hW281 (by omega)⟩
                  | true =>
                    have kvV0 : Sees V0 (w.heap.size + 1) w275 := sees_kept _ (kept_trans KB261.out Kk279.out)
                    have kvW259 : Sees W259 (w.heap.size + 1) w275 := sees_kept _ Kk279.out
                    go_wp2_with (refine stop_load 51 (.tmp 5) rfl ?_)
                    intro _
                    refine wpList_load_part (w28.heap.size) 0 51 (.tmp 5) #[.int .i64 h.i, .int .i64 U26.k, .int .i64 U26.i, .int .i64 U26.j, .int .i64 U26.n, (.slice a23 U26.kids.length c24), .int .i64 U35.k, .int .i64 U35.i, .int .i64 U35.j, .int .i64 U35.n, (.slice a32 U35.kids.length c33), .int .i64 U239.k, .int .i64 U239.i, .int .i64 U239.j, .int .i64 U239.n, (.slice a236 U239.kids.length c237), .int .i64 U248.k, .int .i64 U248.i, .int .i64 U248.j, .int .i64 U248.n, (.slice a245 U248.kids.length c246), .int .i64 U257.k, .int .i64 U257.i, .int .i64 U257.j, .int .i64 U257.n, (.slice a254 U257.kids.length c255)] dh (blk_at HX274.out Kk279.out) (by rfl) rfl (by rfl) (by rfl) dh1 (by cases dh <;> first | rfl | exact dh2) (by kernel_rfl) ?_
                    go_wp2_with (refine stop_store 51 (.tmp 4) (.tmp 37) rfl ?_)
                    intro _
                    refine wpList_store_part_n (by rfl) 51 (.tmp 4) (.tmp 37) rfl (w.heap.size + 1) 0 #[.int .i64 h.i, .int .i64 U26.k, .int .i64 U26.i, .int .i64 U26.j, .int .i64 U26.n, (.slice a23 U26.kids.length c24), .int .i64 U35.k, .int .i64 U35.i, .int .i64 U35.j, .int .i64 U35.n, (.slice a32 U35.kids.length c33), .int .i64 U239.k, .int .i64 U239.i, .int .i64 U239.j, .int .i64 U239.n, (.slice a236 U239.kids.length c237), .int .i64 U248.k, .int .i64 U248.i, .int .i64 U248.j, .int .i64 U248.n, (.slice a245 U248.kids.length c246), .int .i64 U257.k, .int .i64 U257.i, .int .i64 U257.j, .int .i64 U257.n, (.slice a254 U257.kids.length c255)] (by rfl) (by rfl) 51 (by kernel_rfl) (row_ok rfl) ?_
                    intro W282 hW282
                    clear kvV0
                    clear kvW259
                    subst hW282
                    refine ⟨_, #[.int .i64 h.i, .int .i64 U26.k, .int .i64 U26.i, .int .i64 U26.j, .int .i64 U26.n, (.slice a23 U26.kids.length c24), .int .i64 U35.k, .int .i64 U35.i, .int .i64 U35.j, .int .i64 U35.n, (.slice a32 U35.kids.length c33), .int .i64 U239.k, .int .i64 U239.i, .int .i64 U239.j, .int .i64 U239.n, (.slice a236 U239.kids.length c237), .int .i64 U248.k, .int .i64 U248.i, .int .i64 U248.j, .int .i64 U248.n, (.slice a245 U248.kids.length c246), .int .i64 U257.k, .int .i64 U257.i, .int .i64 U257.j, .int .i64 U257.n, (.slice a254 U257.kids.length c255)], (blk_at Hx2.out (kept_trans KB261.out Kk279.out)), rfl, Nat.le_of_ble_eq_true rfl, ?_⟩
                    intro W283 hW283
                    go_wp2_with fail
                    refine bodyPost_ret (results_cell_row rfl _ _ (w.heap.size + 1) 51 _ _ dh rfl (blk_same (blk_at Hx2.out (kept_trans KB261.out Kk279.out)) hW283) dh1 (by cases dh <;> first | rfl | exact dh2) (by kernel_rfl)) rfl ?_
                    rw [show heLift h k = (⟨h.i, U26, U35, U239, U248, U257⟩ : He) from by unfold heLift heUp; rw [HU26.out]; rw [HU35.out]; rw [HU239.out]; rw [HU248.out]; rw [HU257.out]; rw [Hhb9.out, Hhb277.out]; (try rfl)]
                    exact ⟨_, _, _, _, _, rfl, ⟨par_end (par_row' (HL268.out.later Kk279.out) hW283 (by omega) (by have := Z0.out; omega)) (by have := Z0.out; omega), par_end (par_row' (HL269.out.later Kk279.out) hW283 (by omega) (by have := Z0.out; omega)) (by have := Z0.out; omega), par_end (par_row' (HL270.out.later Kk279.out) hW283 (by omega) (by have := Z0.out; omega)) (by have := Z0.out; omega), par_end (par_row' (HL271.out.later Kk279.out) hW283 (by omega) (by have := Z0.out; omega)) (by have := Z0.out; omega), par_end (par_row' (HL272.out.later Kk279.out) hW283 (by omega) (by have := Z0.out; omega)) (by have := Z0.out; omega)⟩, kept_set (kept_trans KB260.out Kk279.out) hW283 (by omega)⟩
                exact AllReadyH.nil
              exact AllReadyH.nil
            exact AllReadyH.nil
          exact AllReadyH.nil
        exact AllReadyH.nil
      refine AllReadyH.cons (o := hLiftr3_23) rfl (fun K hK => ?_) ?_
      · unfold hLiftr3_23
        go_simp
        refine at_K (fun W284 hW284 => ?_)
        obtain ⟨k286, x285, z287⟩ := alloc1 hW284
        have Kk288 := Lib.hid k286
        clear k286
        have Hx285 := Lib.hid x285
        have Hz287 := Lib.hid z287
        clear x285 z287 hW284
        have HG289 : Hid (V0.heap.size ≤ w19.heap.size) := (Below.size (kept_trans Kk11.out (kept_trans Kk18.out Kk27.out)))
        have XL290 := Lib.hid (xlt_more (xlt_nil _) Kk288.out (by have := Hz287.out; omega))
        have HL291 : Hid (LiesQ W284 (Par w V0.heap.size (w19.heap.size :: []) P) h.a.kids _) := (par_more (HLha.out.later (kept_trans Kk11.out (kept_trans Kk18.out Kk27.out)))).later Kk288.out
        have HL292 : Hid (LiesQ W284 (Par w V0.heap.size (w19.heap.size :: []) P) h.b.kids _) := (par_more (HLhb.out.later (kept_trans Kk11.out (kept_trans Kk18.out Kk27.out)))).later Kk288.out
        have HL293 : Hid (LiesQ W284 (Par w V0.heap.size (w19.heap.size :: []) P) h.x.kids _) := (par_more (HLhx.out.later (kept_trans Kk11.out (kept_trans Kk18.out Kk27.out)))).later Kk288.out
        have HL294 : Hid (LiesQ W284 (Par w V0.heap.size (w19.heap.size :: []) P) h.y.kids _) := (par_more (HLhy.out.later (kept_trans Kk11.out (kept_trans Kk18.out Kk27.out)))).later Kk288.out
        have HL295 : Hid (LiesQ W284 (Par w V0.heap.size (w19.heap.size :: []) P) h.h.kids _) := (par_more (HLhh.out.later (kept_trans Kk11.out (kept_trans Kk18.out Kk27.out)))).later Kk288.out
        have HL296 : Hid (LiesQ W284 (Par w V0.heap.size (w19.heap.size :: []) P) U26.kids _) := (par_more Hhl22.out).later Kk288.out
        have HD297 : Hid (W15.heap.size ≤ w19.heap.size) := Below.size Kk27.out
        clear hHeld
        refine hK.out _ _ ?_ (fun hHeld => ?_)
        · (try dsimp only)
          exact sees_kept _ (kept_trans Kk27.out Kk288.out)
        clear hK K
        (try simp only [Act.put, List.setIfInBounds_toArray, List.set_cons_zero, List.set_cons_succ])
        refine wpAnyH_ready (rs := [9]) (by kernel_rfl) (by simp) ?_
        refine AllReadyH.cons (o := hLiftr3_9) rfl (fun K hK => ?_) ?_
        · unfold hLiftr3_9
          go_simp
          refine ((lift_any h.b k 0 _ (.slice ahb h.b.kids.length chb) HL292.out.lies Rk.out (by unfold I64; decide) (HD.out _ (by simp))).mono (fun _ _ h => h.givesP (P := (Par w V0.heap.size (w19.heap.size :: []) P)))).mono ?_
          obtain ⟨U305, hU305⟩ : ∃ qu, h.b.liftB k 0 = qu := ⟨_, rfl⟩
          rw [hU305]
          have HU305 := Lib.hid hU305
          clear hU305
          rintro e w298 ⟨s300, rfl, hl301, k299⟩
          obtain ⟨a302, c303, S304, rfl, -⟩ := hl301.out
          have Kk306 := Lib.hid k299
          clear k299
          have Hhl301 : Hid (LiesQ w298 (Par w V0.heap.size (w19.heap.size :: []) P) U305.kids _) := par_give hl301 (Below.size (kept_trans Kk11.out (kept_trans Kk18.out (kept_trans Kk27.out Kk288.out)))) XL290.out
          clear hl301
          clear hHeld
          refine hK.out _ _ ?_ (fun hHeld => ?_)
          · (try dsimp only)
            exact sees_kept _ (kept_trans Kk27.out (kept_trans Kk288.out Kk306.out))
          clear hK K
          (try simp only [Act.put, List.setIfInBounds_toArray, List.set_cons_zero, List.set_cons_succ])
          refine wpAnyH_ready (rs := [13]) (by kernel_rfl) (by simp) ?_
          refine AllReadyH.cons (o := hLiftr3_13) rfl (fun K hK => ?_) ?_
          · unfold hLiftr3_13
            go_simp
            refine ((lift_any h.x k 0 _ (.slice ahx h.x.kids.length chx) (HL293.out.later Kk306.out).lies Rk.out (by unfold I64; decide) (HD.out _ (by simp))).mono (fun _ _ h => h.givesP (P := (Par w V0.heap.size (w19.heap.size :: []) P)))).mono ?_
            obtain ⟨U314, hU314⟩ : ∃ qu, h.x.liftB k 0 = qu := ⟨_, rfl⟩
            rw [hU314]
            have HU314 := Lib.hid hU314
            clear hU314
            rintro e w307 ⟨s309, rfl, hl310, k308⟩
            obtain ⟨a311, c312, S313, rfl, -⟩ := hl310.out
            have Kk315 := Lib.hid k308
            clear k308
            have Hhl310 : Hid (LiesQ w307 (Par w V0.heap.size (w19.heap.size :: []) P) U314.kids _) := par_give hl310 (Below.size (kept_trans Kk11.out (kept_trans Kk18.out (kept_trans Kk27.out (kept_trans Kk288.out Kk306.out))))) (xlt_later XL290.out Kk306.out)
            clear hl310
            clear hHeld
            refine hK.out _ _ ?_ (fun hHeld => ?_)
            · (try dsimp only)
              exact sees_kept _ (kept_trans Kk27.out (kept_trans Kk288.out (kept_trans Kk306.out Kk315.out)))
            clear hK K
            (try simp only [Act.put, List.setIfInBounds_toArray, List.set_cons_zero, List.set_cons_succ])
            refine wpAnyH_ready (rs := [17]) (by kernel_rfl) (by simp) ?_
            refine AllReadyH.cons (o := hLiftr3_17) rfl (fun K hK => ?_) ?_
            · unfold hLiftr3_17
              go_simp
              refine ((lift_any h.y k 0 _ (.slice ahy h.y.kids.length chy) (HL294.out.later (kept_trans Kk306.out Kk315.out)).lies Rk.out (by unfold I64; decide) (HD.out _ (by simp))).mono (fun _ _ h => h.givesP (P := (Par w V0.heap.size (w19.heap.size :: []) P)))).mono ?_
              obtain ⟨U323, hU323⟩ : ∃ qu, h.y.liftB k 0 = qu := ⟨_, rfl⟩
              rw [hU323]
              have HU323 := Lib.hid hU323
              clear hU323
              rintro e w316 ⟨s318, rfl, hl319, k317⟩
              obtain ⟨a320, c321, S322, rfl, -⟩ := hl319.out
              have Kk324 := Lib.hid k317
              clear k317
              have Hhl319 : Hid (LiesQ w316 (Par w V0.heap.size (w19.heap.size :: []) P) U323.kids _) := par_give hl319 (Below.size (kept_trans Kk11.out (kept_trans Kk18.out (kept_trans Kk27.out (kept_trans Kk288.out (kept_trans Kk306.out Kk315.out)))))) (xlt_later XL290.out (kept_trans Kk306.out Kk315.out))
              clear hl319
              clear hHeld
              refine hK.out _ _ ?_ (fun hHeld => ?_)
              · (try dsimp only)
                exact sees_kept _ (kept_trans Kk27.out (kept_trans Kk288.out (kept_trans Kk306.out (kept_trans Kk315.out Kk324.out))))
              clear hK K
              (try simp only [Act.put, List.setIfInBounds_toArray, List.set_cons_zero, List.set_cons_succ])
              refine wpAnyH_ready (rs := [21]) (by kernel_rfl) (by simp) ?_
              refine AllReadyH.cons (o := hLiftr3_21) rfl (fun K hK => ?_) ?_
              · unfold hLiftr3_21
                go_simp
                refine ((lift_any h.h k 0 _ (.slice ahh h.h.kids.length chh) (HL295.out.later (kept_trans Kk306.out (kept_trans Kk315.out Kk324.out))).lies Rk.out (by unfold I64; decide) (HD.out _ (by simp))).mono (fun _ _ h => h.givesP (P := (Par w V0.heap.size (w19.heap.size :: []) P)))).mono ?_
                obtain ⟨U332, hU332⟩ : ∃ qu, h.h.liftB k 0 = qu := ⟨_, rfl⟩
                rw [hU332]
                have HU332 := Lib.hid hU332
                clear hU332
                rintro e w325 ⟨s327, rfl, hl328, k326⟩
                obtain ⟨a329, c330, S331, rfl, -⟩ := hl328.out
                have Kk333 := Lib.hid k326
                clear k326
                have Hhl328 : Hid (LiesQ w325 (Par w V0.heap.size (w19.heap.size :: []) P) U332.kids _) := par_give hl328 (Below.size (kept_trans Kk11.out (kept_trans Kk18.out (kept_trans Kk27.out (kept_trans Kk288.out (kept_trans Kk306.out (kept_trans Kk315.out Kk324.out))))))) (xlt_later XL290.out (kept_trans Kk306.out (kept_trans Kk315.out Kk324.out)))
                clear hl328
                clear hHeld
                refine hK.out _ _ ?_ (fun hHeld => ?_)
                · (try dsimp only)
                  exact sees_kept _ (kept_trans Kk27.out (kept_trans Kk288.out (kept_trans Kk306.out (kept_trans Kk315.out (kept_trans Kk324.out Kk333.out)))))
                clear hK K
                (try simp only [Act.put, List.setIfInBounds_toArray, List.set_cons_zero, List.set_cons_succ])
                refine take_at 22 32 hLiftr3_22 (v := ?_) (Or.inl ⟨by rfl, ?_⟩) ?_
                rotate_left 1
                · ((intro w hSw; (try dsimp only at hSw); unfold hLiftr3_22; go_simp) <;> with_reducible rfl)
                (try simp only [Act.put, List.setIfInBounds_toArray, List.set_cons_zero, List.set_cons_succ])
                refine wpAnyH_ready (rs := [24]) (by kernel_rfl) (by simp) ?_
                refine AllReadyH.cons (o := hLiftr3_24) rfl (fun K hK => ?_) ?_
                · unfold hLiftr3_24
                  refine step_store_part rfl 51 (.tmp 5) (.tmp 32) rfl (w19.heap.size) 0 #[.int .i64 h.i, .int .i64 U26.k, .int .i64 U26.i, .int .i64 U26.j, .int .i64 U26.n, (.slice a23 U26.kids.length c24), .int .i64 U305.k, .int .i64 U305.i, .int .i64 U305.j, .int .i64 U305.n, (.slice a302 U305.kids.length c303), .int .i64 U314.k, .int .i64 U314.i, .int .i64 U314.j, .int .i64 U314.n, (.slice a311 U314.kids.length c312), .int .i64 U323.k, .int .i64 U323.i, .int .i64 U323.j, .int .i64 U323.n, (.slice a320 U323.kids.length c321), .int .i64 U332.k, .int .i64 U332.i, .int .i64 U332.j, .int .i64 U332.n, (.slice a329 U332.kids.length c330)] rfl rfl 51 (by kernel_rfl) (row_ok rfl) _ #[.int .i64 h.i, .int .i64 U26.k, .int .i64 U26.i, .int .i64 U26.j, .int .i64 U26.n, (.slice a23 U26.kids.length c24), .int .i64 U305.k, .int .i64 U305.i, .int .i64 U305.j, .int .i64 U305.n, (.slice a302 U305.kids.length c303), .int .i64 U314.k, .int .i64 U314.i, .int .i64 U314.j, .int .i64 U314.n, (.slice a311 U314.kids.length c312), .int .i64 U323.k, .int .i64 U323.i, .int .i64 U323.j, .int .i64 U323.n, (.slice a320 U323.kids.length c321), .int .i64 U332.k, .int .i64 U332.i, .int .i64 U332.j, .int .i64 U332.n, (.slice a329 U332.kids.length c330)] (blk_at Hx285.out (kept_trans Kk306.out (kept_trans Kk315.out (kept_trans Kk324.out Kk333.out)))) rfl (Nat.le_of_ble_eq_true rfl) ?_
                  intro W334 hW334
                  have KB335 := Lib.hid (kept_set (kept_trans Kk5.out (kept_trans Kk11.out (kept_trans Kk18.out (kept_trans Kk27.out (kept_trans Kk288.out (kept_trans Kk306.out (kept_trans Kk315.out (kept_trans Kk324.out Kk333.out)))))))) hW334 (by have := HG289.out; have := Z0.out; omega))
                  have KB336 := Lib.hid (kept_set (kept_trans Kk11.out (kept_trans Kk18.out (kept_trans Kk27.out (kept_trans Kk288.out (kept_trans Kk306.out (kept_trans Kk315.out (kept_trans Kk324.out Kk333.out))))))) hW334 HG289.out)
                  have KB337 := Lib.hid (kept_set (kept_trans Kk27.out (kept_trans Kk288.out (kept_trans Kk306.out (kept_trans Kk315.out (kept_trans Kk324.out Kk333.out))))) hW334 HD297.out)
                  have HL338 : Hid (LiesQ W334 (Par w V0.heap.size (w19.heap.size :: []) P) h.a.kids _) := par_set (HL291.out.later (kept_trans Kk306.out (kept_trans Kk315.out (kept_trans Kk324.out Kk333.out)))) hW334 (List.mem_cons_self ..) (by have := HG289.out; have := Z0.out; omega)
                  have HL339 : Hid (LiesQ W334 (Par w V0.heap.size (w19.heap.size :: []) P) h.b.kids _) := par_set (HL292.out.later (kept_trans Kk306.out (kept_trans Kk315.out (kept_trans Kk324.out Kk333.out)))) hW334 (List.mem_cons_self ..) (by have := HG289.out; have := Z0.out; omega)
                  have HL340 : Hid (LiesQ W334 (Par w V0.heap.size (w19.heap.size :: []) P) h.x.kids _) := par_set (HL293.out.later (kept_trans Kk306.out (kept_trans Kk315.out (kept_trans Kk324.out Kk333.out)))) hW334 (List.mem_cons_self ..) (by have := HG289.out; have := Z0.out; omega)
                  have HL341 : Hid (LiesQ W334 (Par w V0.heap.size (w19.heap.size :: []) P) h.y.kids _) := par_set (HL294.out.later (kept_trans Kk306.out (kept_trans Kk315.out (kept_trans Kk324.out Kk333.out)))) hW334 (List.mem_cons_self ..) (by have := HG289.out; have := Z0.out; omega)
                  have HL342 : Hid (LiesQ W334 (Par w V0.heap.size (w19.heap.size :: []) P) h.h.kids _) := par_set (HL295.out.later (kept_trans Kk306.out (kept_trans Kk315.out (kept_trans Kk324.out Kk333.out)))) hW334 (List.mem_cons_self ..) (by have := HG289.out; have := Z0.out; omega)
                  have HL343 : Hid (LiesQ W334 (Par w V0.heap.size (w19.heap.size :: []) P) U26.kids _) := par_set (HL296.out.later (kept_trans Kk306.out (kept_trans Kk315.out (kept_trans Kk324.out Kk333.out)))) hW334 (List.mem_cons_self ..) (by have := HG289.out; have := Z0.out; omega)
                  have HL344 : Hid (LiesQ W334 (Par w V0.heap.size (w19.heap.size :: []) P) U305.kids _) := par_set (Hhl301.out.later (kept_trans Kk315.out (kept_trans Kk324.out Kk333.out))) hW334 (List.mem_cons_self ..) (by have := HG289.out; have := Z0.out; omega)
                  have HL345 : Hid (LiesQ W334 (Par w V0.heap.size (w19.heap.size :: []) P) U314.kids _) := par_set (Hhl310.out.later (kept_trans Kk324.out Kk333.out)) hW334 (List.mem_cons_self ..) (by have := HG289.out; have := Z0.out; omega)
                  have HL346 : Hid (LiesQ W334 (Par w V0.heap.size (w19.heap.size :: []) P) U323.kids _) := par_set (Hhl319.out.later Kk333.out) hW334 (List.mem_cons_self ..) (by have := HG289.out; have := Z0.out; omega)
                  have HL347 : Hid (LiesQ W334 (Par w V0.heap.size (w19.heap.size :: []) P) U332.kids _) := par_set Hhl328.out hW334 (List.mem_cons_self ..) (by have := HG289.out; have := Z0.out; omega)
                  have XL348 := Lib.hid (xlt_set (xlt_later XL290.out (kept_trans Kk306.out (kept_trans Kk315.out (kept_trans Kk324.out Kk333.out)))) hW334)
                  have HX349 := Lib.hid (blk_same (blk_at Hx285.out (kept_trans Kk306.out (kept_trans Kk315.out (kept_trans Kk324.out Kk333.out)))) hW334)
                  clear hW334
                  clear hHeld
                  refine hK.out _ _ ?_ (fun hHeld => ?_)
                  · (try dsimp only)
                    exact sees_kept _ KB337.out
                  clear hK K
                  (try simp only [Act.put])
                  refine wpAnyH_done (by kernel_rfl) ?_ _
                  clear hHeld
                  have kvV0 : Sees V0 (w.heap.size + 1) W334 := sees_kept _ KB336.out
                  have kvW334 : Sees W334 (w.heap.size + 1) W334 := sees_kept _ (kept_refl _)
                  go_wp2_with (refine stop_load 51 (.tmp 5) rfl ?_)
                  intro _
                  refine wpList_load_part (w19.heap.size) 0 51 (.tmp 5) #[.int .i64 h.i, .int .i64 U26.k, .int .i64 U26.i, .int .i64 U26.j, .int .i64 U26.n, (.slice a23 U26.kids.length c24), .int .i64 U305.k, .int .i64 U305.i, .int .i64 U305.j, .int .i64 U305.n, (.slice a302 U305.kids.length c303), .int .i64 U314.k, .int .i64 U314.i, .int .i64 U314.j, .int .i64 U314.n, (.slice a311 U314.kids.length c312), .int .i64 U323.k, .int .i64 U323.i, .int .i64 U323.j, .int .i64 U323.n, (.slice a320 U323.kids.length c321), .int .i64 U332.k, .int .i64 U332.i, .int .i64 U332.j, .int .i64 U332.n, (.slice a329 U332.kids.length c330)] dh HX349.out (by rfl) rfl (by rfl) (by rfl) dh1 (by cases dh <;> first | rfl | exact dh2) (by kernel_rfl) ?_
                  go_wp2_with fail
                  clear kvV0
                  clear kvW334
                  refine (hrightHet_any (⟨h.i, U26, U305, U314, U323, U332⟩ : He) (Par w V0.heap.size (w19.heap.size :: []) P) _ (.slice a23 U26.kids.length c24) (.slice a302 U305.kids.length c303) (.slice a311 U314.kids.length c312) (.slice a320 U323.kids.length c321) (.slice a329 U332.kids.length c330) ⟨Gh.out.1, (by rw [← HU26.out]; exact (lift_fine k (heR_pl Hhb9.out _ (by simp)))), (by rw [← HU305.out]; exact (lift_fine k (heR_pl Hhb9.out _ (by simp)))), (by rw [← HU314.out]; exact (lift_fine k (heR_pl Hhb9.out _ (by simp)))), (by rw [← HU323.out]; exact (lift_fine k (heR_pl Hhb9.out _ (by simp)))), (by rw [← HU332.out]; exact (lift_fine k (heR_pl Hhb9.out _ (by simp))))⟩ ⟨HL343.out, HL344.out, HL345.out, HL346.out, HL347.out⟩).mono ?_
                  obtain ⟨rb353, hb352⟩ : ∃ qb, heR (⟨h.i, U26, U305, U314, U323, U332⟩ : He) = qb := ⟨_, rfl⟩
                  rw [hb352]
                  have Hhb352 := Lib.hid hb352
                  clear hb352
                  rintro e w350 ⟨rfl, k351⟩
                  have Kk354 := Lib.hid k351
                  clear k351
                  cases rb353 with
                  | false =>
                    have kvV0 : Sees V0 (w.heap.size + 1) w350 := sees_kept _ (kept_trans KB336.out Kk354.out)
                    have kvW334 : Sees W334 (w.heap.size + 1) w350 := sees_kept _ Kk354.out
                    go_wp2_with (refine stop_store 51 (.tmp 4) (.tmp 36) rfl ?_)
                    intro _
                    refine wpList_store_part_n (by rfl) 51 (.tmp 4) (.tmp 36) rfl (w.heap.size + 1) 0 #[.int .i64 0, .int .i64 0, .int .i64 0, .int .i64 0, .int .i64 0, .slice none 0 0, .int .i64 0, .int .i64 0, .int .i64 0, .int .i64 0, .slice none 0 0, .int .i64 0, .int .i64 0, .int .i64 0, .int .i64 0, .slice none 0 0, .int .i64 0, .int .i64 0, .int .i64 0, .int .i64 0, .slice none 0 0, .int .i64 0, .int .i64 0, .int .i64 0, .int .i64 0, .slice none 0 0] (by rfl) (by rfl) 51 (by kernel_rfl) (row_ok rfl) ?_
                    intro W355 hW355
                    clear kvV0
                    clear kvW334
                    subst hW355
                    refine ⟨_, #[.int .i64 0, .int .i64 0, .int .i64 0, .int .i64 0, .int .i64 0, .slice none 0 0, .int .i64 0, .int .i64 0, .int .i64 0, .int .i64 0, .slice none 0 0, .int .i64 0, .int .i64 0, .int .i64 0, .int .i64 0, .slice none 0 0, .int .i64 0, .int .i64 0, .int .i64 0, .int .i64 0, .slice none 0 0, .int .i64 0, .int .i64 0, .int .i64 0, .int .i64 0, .slice none 0 0], (blk_at Hx2.out (kept_trans KB336.out Kk354.out)), rfl, Nat.le_of_ble_eq_true rfl, ?_⟩
                    intro W356 hW356
                    go_wp2_with fail
                    refine bodyPost_ret (results_cell_row rfl _ _ (w.heap.size + 1) 51 _ _ dh rfl (blk_same (blk_at Hx2.out (kept_trans KB336.out Kk354.out)) hW356) dh1 (by cases dh <;> first | rfl | exact dh2) (by kernel_rfl)) rfl ?_
                    rw [show heLift h k = (⟨0, (.mk 0 0 0 0 []), (.mk 0 0 0 0 []), (.mk 0 0 0 0 []), (.mk 0 0 0 0 []), (.mk 0 0 0 0 [])⟩ : He) from by unfold heLift heUp; rw [HU26.out]; rw [HU305.out]; rw [HU314.out]; rw [HU323.out]; rw [HU332.out]; rw [Hhb9.out, Hhb352.out]; (try rfl)]
                    exact ⟨_, _, _, _, _, rfl, ⟨par_end (par_row' (liesQ_nil w350 (Par w V0.heap.size (w19.heap.size :: []) P)) hW356 (by omega) (by have := Z0.out; omega)) (by have := Z0.out; omega), par_end (par_row' (liesQ_nil w350 (Par w V0.heap.size (w19.heap.size :: []) P)) hW356 (by omega) (by have := Z0.out; omega)) (by have := Z0.out; omega), par_end (par_row' (liesQ_nil w350 (Par w V0.heap.size (w19.heap.size :: []) P)) hW356 (by omega) (by have := Z0.out; omega)) (by have := Z0.out; omega), par_end (par_row' (liesQ_nil w350 (Par w V0.heap.size (w19.heap.size :: []) P)) hW356 (by omega) (by have := Z0.out; omega)) (by have := Z0.out; omega), par_end (par_row' (liesQ_nil w350 (Par w V0.heap.size (w19.heap.size :: []) P)) hW356 (by omega) (by have := Z0.out; omega)) (by have := Z0.out; omega)⟩, kept_set (kept_trans KB335.out Kk354.out) hW356 (by omega)⟩
                  | true =>
                    have kvV0 : Sees V0 (w.heap.size + 1) w350 := sees_kept _ (kept_trans KB336.out Kk354.out)
                    have kvW334 : Sees W334 (w.heap.size + 1) w350 := sees_kept _ Kk354.out
                    go_wp2_with (refine stop_load 51 (.tmp 5) rfl ?_)
                    intro _
                    refine wpList_load_part (w19.heap.size) 0 51 (.tmp 5) #[.int .i64 h.i, .int .i64 U26.k, .int .i64 U26.i, .int .i64 U26.j, .int .i64 U26.n, (.slice a23 U26.kids.length c24), .int .i64 U305.k, .int .i64 U305.i, .int .i64 U305.j, .int .i64 U305.n, (.slice a302 U305.kids.length c303), .int .i64 U314.k, .int .i64 U314.i, .int .i64 U314.j, .int .i64 U314.n, (.slice a311 U314.kids.length c312), .int .i64 U323.k, .int .i64 U323.i, .int .i64 U323.j, .int .i64 U323.n, (.slice a320 U323.kids.length c321), .int .i64 U332.k, .int .i64 U332.i, .int .i64 U332.j, .int .i64 U332.n, (.slice a329 U332.kids.length c330)] dh (blk_at HX349.out Kk354.out) (by rfl) rfl (by rfl) (by rfl) dh1 (by cases dh <;> first | rfl | exact dh2) (by kernel_rfl) ?_
                    go_wp2_with (refine stop_store 51 (.tmp 4) (.tmp 37) rfl ?_)
                    intro _
                    refine wpList_store_part_n (by rfl) 51 (.tmp 4) (.tmp 37) rfl (w.heap.size + 1) 0 #[.int .i64 h.i, .int .i64 U26.k, .int .i64 U26.i, .int .i64 U26.j, .int .i64 U26.n, (.slice a23 U26.kids.length c24), .int .i64 U305.k, .int .i64 U305.i, .int .i64 U305.j, .int .i64 U305.n, (.slice a302 U305.kids.length c303), .int .i64 U314.k, .int .i64 U314.i, .int .i64 U314.j, .int .i64 U314.n, (.slice a311 U314.kids.length c312), .int .i64 U323.k, .int .i64 U323.i, .int .i64 U323.j, .int .i64 U323.n, (.slice a320 U323.kids.length c321), .int .i64 U332.k, .int .i64 U332.i, .int .i64 U332.j, .int .i64 U332.n, (.slice a329 U332.kids.length c330)] (by rfl) (by rfl) 51 (by kernel_rfl) (row_ok rfl) ?_
                    intro W357 hW357
                    clear kvV0
                    clear kvW334
                    subst hW357
                    refine ⟨_, #[.int .i64 h.i, .int .i64 U26.k, .int .i64 U26.i, .int .i64 U26.j, .int .i64 U26.n, (.slice a23 U26.kids.length c24), .int .i64 U305.k, .int .i64 U305.i, .int .i64 U305.j, .int .i64 U305.n, (.slice a302 U305.kids.length c303), .int .i64 U314.k, .int .i64 U314.i, .int .i64 U314.j, .int .i64 U314.n, (.slice a311 U314.kids.length c312), .int .i64 U323.k, .int .i64 U323.i, .int .i64 U323.j, .int .i64 U323.n, (.slice a320 U323.kids.length c321), .int .i64 U332.k, .int .i64 U332.i, .int .i64 U332.j, .int .i64 U332.n, (.slice a329 U332.kids.length c330)], (blk_at Hx2.out (kept_trans KB336.out Kk354.out)), rfl, Nat.le_of_ble_eq_true rfl, ?_⟩
                    intro W358 hW358
                    go_wp2_with fail
                    refine bodyPost_ret (results_cell_row rfl _ _ (w.heap.size + 1) 51 _ _ dh rfl (blk_same (blk_at Hx2.out (kept_trans KB336.out Kk354.out)) hW358) dh1 (by cases dh <;> first | rfl | exact dh2) (by kernel_rfl)) rfl ?_
                    rw [show heLift h k = (⟨h.i, U26, U305, U314, U323, U332⟩ : He) from by unfold heLift heUp; rw [HU26.out]; rw [HU305.out]; rw [HU314.out]; rw [HU323.out]; rw [HU332.out]; rw [Hhb9.out, Hhb352.out]; (try rfl)]
                    exact ⟨_, _, _, _, _, rfl, ⟨par_end (par_row' (HL343.out.later Kk354.out) hW358 (by omega) (by have := Z0.out; omega)) (by have := Z0.out; omega), par_end (par_row' (HL344.out.later Kk354.out) hW358 (by omega) (by have := Z0.out; omega)) (by have := Z0.out; omega), par_end (par_row' (HL345.out.later Kk354.out) hW358 (by omega) (by have := Z0.out; omega)) (by have := Z0.out; omega), par_end (par_row' (HL346.out.later Kk354.out) hW358 (by omega) (by have := Z0.out; omega)) (by have := Z0.out; omega), par_end (par_row' (HL347.out.later Kk354.out) hW358 (by omega) (by have := Z0.out; omega)) (by have := Z0.out; omega)⟩, kept_set (kept_trans KB335.out Kk354.out) hW358 (by omega)⟩
                exact AllReadyH.nil
              exact AllReadyH.nil
            exact AllReadyH.nil
          exact AllReadyH.nil
        exact AllReadyH.nil
      exact AllReadyH.nil
    refine AllReadyH.cons (o := hLiftr3_23) rfl (fun K hK => ?_) ?_
    · unfold hLiftr3_23
      go_simp
      refine at_K (fun W359 hW359 => ?_)
      obtain ⟨k361, x360, z362⟩ := alloc1 hW359
      have Kk363 := Lib.hid k361
      clear k361
      have Hx360 := Lib.hid x360
      have Hz362 := Lib.hid z362
      clear x360 z362 hW359
      have HG364 : Hid (V0.heap.size ≤ W15.heap.size) := (Below.size (kept_trans Kk11.out Kk18.out))
      have XL365 := Lib.hid (xlt_more (xlt_nil _) Kk363.out (by have := Hz362.out; omega))
      have HL366 : Hid (LiesQ W359 (Par w V0.heap.size (W15.heap.size :: []) P) h.a.kids _) := (par_more (HLha.out.later (kept_trans Kk11.out Kk18.out))).later Kk363.out
      have HL367 : Hid (LiesQ W359 (Par w V0.heap.size (W15.heap.size :: []) P) h.b.kids _) := (par_more (HLhb.out.later (kept_trans Kk11.out Kk18.out))).later Kk363.out
      have HL368 : Hid (LiesQ W359 (Par w V0.heap.size (W15.heap.size :: []) P) h.x.kids _) := (par_more (HLhx.out.later (kept_trans Kk11.out Kk18.out))).later Kk363.out
      have HL369 : Hid (LiesQ W359 (Par w V0.heap.size (W15.heap.size :: []) P) h.y.kids _) := (par_more (HLhy.out.later (kept_trans Kk11.out Kk18.out))).later Kk363.out
      have HL370 : Hid (LiesQ W359 (Par w V0.heap.size (W15.heap.size :: []) P) h.h.kids _) := (par_more (HLhh.out.later (kept_trans Kk11.out Kk18.out))).later Kk363.out
      have HD371 : Hid (W15.heap.size ≤ W15.heap.size) := Below.size (kept_refl _)
      clear hHeld
      refine hK.out _ _ ?_ (fun hHeld => ?_)
      · (try dsimp only)
        exact sees_kept _ Kk363.out
      clear hK K
      (try simp only [Act.put, List.setIfInBounds_toArray, List.set_cons_zero, List.set_cons_succ])
      refine wpAnyH_ready (rs := [5]) (by kernel_rfl) (by simp) ?_
      refine AllReadyH.cons (o := hLiftr3_5) rfl (fun K hK => ?_) ?_
      · unfold hLiftr3_5
        go_simp
        refine ((lift_any h.a k 0 _ (.slice aha h.a.kids.length cha) HL366.out.lies Rk.out (by unfold I64; decide) (HD.out _ (by simp))).mono (fun _ _ h => h.givesP (P := (Par w V0.heap.size (W15.heap.size :: []) P)))).mono ?_
        obtain ⟨U379, hU379⟩ : ∃ qu, h.a.liftB k 0 = qu := ⟨_, rfl⟩
        rw [hU379]
        have HU379 := Lib.hid hU379
        clear hU379
        rintro e w372 ⟨s374, rfl, hl375, k373⟩
        obtain ⟨a376, c377, S378, rfl, -⟩ := hl375.out
        have Kk380 := Lib.hid k373
        clear k373
        have Hhl375 : Hid (LiesQ w372 (Par w V0.heap.size (W15.heap.size :: []) P) U379.kids _) := par_give hl375 (Below.size (kept_trans Kk11.out (kept_trans Kk18.out Kk363.out))) XL365.out
        clear hl375
        clear hHeld
        refine hK.out _ _ ?_ (fun hHeld => ?_)
        · (try dsimp only)
          exact sees_kept _ (kept_trans Kk363.out Kk380.out)
        clear hK K
        (try simp only [Act.put, List.setIfInBounds_toArray, List.set_cons_zero, List.set_cons_succ])
        refine wpAnyH_ready (rs := [9]) (by kernel_rfl) (by simp) ?_
        refine AllReadyH.cons (o := hLiftr3_9) rfl (fun K hK => ?_) ?_
        · unfold hLiftr3_9
          go_simp
          refine ((lift_any h.b k 0 _ (.slice ahb h.b.kids.length chb) (HL367.out.later Kk380.out).lies Rk.out (by unfold I64; decide) (HD.out _ (by simp))).mono (fun _ _ h => h.givesP (P := (Par w V0.heap.size (W15.heap.size :: []) P)))).mono ?_
          obtain ⟨U388, hU388⟩ : ∃ qu, h.b.liftB k 0 = qu := ⟨_, rfl⟩
          rw [hU388]
          have HU388 := Lib.hid hU388
          clear hU388
          rintro e w381 ⟨s383, rfl, hl384, k382⟩
          obtain ⟨a385, c386, S387, rfl, -⟩ := hl384.out
          have Kk389 := Lib.hid k382
          clear k382
          have Hhl384 : Hid (LiesQ w381 (Par w V0.heap.size (W15.heap.size :: []) P) U388.kids _) := par_give hl384 (Below.size (kept_trans Kk11.out (kept_trans Kk18.out (kept_trans Kk363.out Kk380.out)))) (xlt_later XL365.out Kk380.out)
          clear hl384
          clear hHeld
          refine hK.out _ _ ?_ (fun hHeld => ?_)
          · (try dsimp only)
            exact sees_kept _ (kept_trans Kk363.out (kept_trans Kk380.out Kk389.out))
          clear hK K
          (try simp only [Act.put, List.setIfInBounds_toArray, List.set_cons_zero, List.set_cons_succ])
          refine wpAnyH_ready (rs := [13]) (by kernel_rfl) (by simp) ?_
          refine AllReadyH.cons (o := hLiftr3_13) rfl (fun K hK => ?_) ?_
          · unfold hLiftr3_13
            go_simp
            refine ((lift_any h.x k 0 _ (.slice ahx h.x.kids.length chx) (HL368.out.later (kept_trans Kk380.out Kk389.out)).lies Rk.out (by unfold I64; decide) (HD.out _ (by simp))).mono (fun _ _ h => h.givesP (P := (Par w V0.heap.size (W15.heap.size :: []) P)))).mono ?_
            obtain ⟨U397, hU397⟩ : ∃ qu, h.x.liftB k 0 = qu := ⟨_, rfl⟩
            rw [hU397]
            have HU397 := Lib.hid hU397
            clear hU397
            rintro e w390 ⟨s392, rfl, hl393, k391⟩
            obtain ⟨a394, c395, S396, rfl, -⟩ := hl393.out
            have Kk398 := Lib.hid k391
            clear k391
            have Hhl393 : Hid (LiesQ w390 (Par w V0.heap.size (W15.heap.size :: []) P) U397.kids _) := par_give hl393 (Below.size (kept_trans Kk11.out (kept_trans Kk18.out (kept_trans Kk363.out (kept_trans Kk380.out Kk389.out))))) (xlt_later XL365.out (kept_trans Kk380.out Kk389.out))
            clear hl393
            clear hHeld
            refine hK.out _ _ ?_ (fun hHeld => ?_)
            · (try dsimp only)
              exact sees_kept _ (kept_trans Kk363.out (kept_trans Kk380.out (kept_trans Kk389.out Kk398.out)))
            clear hK K
            (try simp only [Act.put, List.setIfInBounds_toArray, List.set_cons_zero, List.set_cons_succ])
            refine wpAnyH_ready (rs := [17]) (by kernel_rfl) (by simp) ?_
            refine AllReadyH.cons (o := hLiftr3_17) rfl (fun K hK => ?_) ?_
            · unfold hLiftr3_17
              go_simp
              refine ((lift_any h.y k 0 _ (.slice ahy h.y.kids.length chy) (HL369.out.later (kept_trans Kk380.out (kept_trans Kk389.out Kk398.out))).lies Rk.out (by unfold I64; decide) (HD.out _ (by simp))).mono (fun _ _ h => h.givesP (P := (Par w V0.heap.size (W15.heap.size :: []) P)))).mono ?_
              obtain ⟨U406, hU406⟩ : ∃ qu, h.y.liftB k 0 = qu := ⟨_, rfl⟩
              rw [hU406]
              have HU406 := Lib.hid hU406
              clear hU406
              rintro e w399 ⟨s401, rfl, hl402, k400⟩
              obtain ⟨a403, c404, S405, rfl, -⟩ := hl402.out
              have Kk407 := Lib.hid k400
              clear k400
              have Hhl402 : Hid (LiesQ w399 (Par w V0.heap.size (W15.heap.size :: []) P) U406.kids _) := par_give hl402 (Below.size (kept_trans Kk11.out (kept_trans Kk18.out (kept_trans Kk363.out (kept_trans Kk380.out (kept_trans Kk389.out Kk398.out)))))) (xlt_later XL365.out (kept_trans Kk380.out (kept_trans Kk389.out Kk398.out)))
              clear hl402
              clear hHeld
              refine hK.out _ _ ?_ (fun hHeld => ?_)
              · (try dsimp only)
                exact sees_kept _ (kept_trans Kk363.out (kept_trans Kk380.out (kept_trans Kk389.out (kept_trans Kk398.out Kk407.out))))
              clear hK K
              (try simp only [Act.put, List.setIfInBounds_toArray, List.set_cons_zero, List.set_cons_succ])
              refine wpAnyH_ready (rs := [21]) (by kernel_rfl) (by simp) ?_
              refine AllReadyH.cons (o := hLiftr3_21) rfl (fun K hK => ?_) ?_
              · unfold hLiftr3_21
                go_simp
                refine ((lift_any h.h k 0 _ (.slice ahh h.h.kids.length chh) (HL370.out.later (kept_trans Kk380.out (kept_trans Kk389.out (kept_trans Kk398.out Kk407.out)))).lies Rk.out (by unfold I64; decide) (HD.out _ (by simp))).mono (fun _ _ h => h.givesP (P := (Par w V0.heap.size (W15.heap.size :: []) P)))).mono ?_
                obtain ⟨U415, hU415⟩ : ∃ qu, h.h.liftB k 0 = qu := ⟨_, rfl⟩
                rw [hU415]
                have HU415 := Lib.hid hU415
                clear hU415
                rintro e w408 ⟨s410, rfl, hl411, k409⟩
                obtain ⟨a412, c413, S414, rfl, -⟩ := hl411.out
                have Kk416 := Lib.hid k409
                clear k409
                have Hhl411 : Hid (LiesQ w408 (Par w V0.heap.size (W15.heap.size :: []) P) U415.kids _) := par_give hl411 (Below.size (kept_trans Kk11.out (kept_trans Kk18.out (kept_trans Kk363.out (kept_trans Kk380.out (kept_trans Kk389.out (kept_trans Kk398.out Kk407.out))))))) (xlt_later XL365.out (kept_trans Kk380.out (kept_trans Kk389.out (kept_trans Kk398.out Kk407.out))))
                clear hl411
                clear hHeld
                refine hK.out _ _ ?_ (fun hHeld => ?_)
                · (try dsimp only)
                  exact sees_kept _ (kept_trans Kk363.out (kept_trans Kk380.out (kept_trans Kk389.out (kept_trans Kk398.out (kept_trans Kk407.out Kk416.out)))))
                clear hK K
                (try simp only [Act.put, List.setIfInBounds_toArray, List.set_cons_zero, List.set_cons_succ])
                refine take_at 22 32 hLiftr3_22 (v := ?_) (Or.inl ⟨by rfl, ?_⟩) ?_
                rotate_left 1
                · ((intro w hSw; (try dsimp only at hSw); unfold hLiftr3_22; go_simp) <;> with_reducible rfl)
                (try simp only [Act.put, List.setIfInBounds_toArray, List.set_cons_zero, List.set_cons_succ])
                refine wpAnyH_ready (rs := [24]) (by kernel_rfl) (by simp) ?_
                refine AllReadyH.cons (o := hLiftr3_24) rfl (fun K hK => ?_) ?_
                · unfold hLiftr3_24
                  refine step_store_part rfl 51 (.tmp 5) (.tmp 32) rfl (W15.heap.size) 0 #[.int .i64 h.i, .int .i64 U379.k, .int .i64 U379.i, .int .i64 U379.j, .int .i64 U379.n, (.slice a376 U379.kids.length c377), .int .i64 U388.k, .int .i64 U388.i, .int .i64 U388.j, .int .i64 U388.n, (.slice a385 U388.kids.length c386), .int .i64 U397.k, .int .i64 U397.i, .int .i64 U397.j, .int .i64 U397.n, (.slice a394 U397.kids.length c395), .int .i64 U406.k, .int .i64 U406.i, .int .i64 U406.j, .int .i64 U406.n, (.slice a403 U406.kids.length c404), .int .i64 U415.k, .int .i64 U415.i, .int .i64 U415.j, .int .i64 U415.n, (.slice a412 U415.kids.length c413)] rfl rfl 51 (by kernel_rfl) (row_ok rfl) _ #[.int .i64 h.i, .int .i64 U379.k, .int .i64 U379.i, .int .i64 U379.j, .int .i64 U379.n, (.slice a376 U379.kids.length c377), .int .i64 U388.k, .int .i64 U388.i, .int .i64 U388.j, .int .i64 U388.n, (.slice a385 U388.kids.length c386), .int .i64 U397.k, .int .i64 U397.i, .int .i64 U397.j, .int .i64 U397.n, (.slice a394 U397.kids.length c395), .int .i64 U406.k, .int .i64 U406.i, .int .i64 U406.j, .int .i64 U406.n, (.slice a403 U406.kids.length c404), .int .i64 U415.k, .int .i64 U415.i, .int .i64 U415.j, .int .i64 U415.n, (.slice a412 U415.kids.length c413)] (blk_at Hx360.out (kept_trans Kk380.out (kept_trans Kk389.out (kept_trans Kk398.out (kept_trans Kk407.out Kk416.out))))) rfl (Nat.le_of_ble_eq_true rfl) ?_
                  intro W417 hW417
                  have KB418 := Lib.hid (kept_set (kept_trans Kk5.out (kept_trans Kk11.out (kept_trans Kk18.out (kept_trans Kk363.out (kept_trans Kk380.out (kept_trans Kk389.out (kept_trans Kk398.out (kept_trans Kk407.out Kk416.out)))))))) hW417 (by have := HG364.out; have := Z0.out; omega))
                  have KB419 := Lib.hid (kept_set (kept_trans Kk11.out (kept_trans Kk18.out (kept_trans Kk363.out (kept_trans Kk380.out (kept_trans Kk389.out (kept_trans Kk398.out (kept_trans Kk407.out Kk416.out))))))) hW417 HG364.out)
                  have KB420 := Lib.hid (kept_set (kept_trans Kk363.out (kept_trans Kk380.out (kept_trans Kk389.out (kept_trans Kk398.out (kept_trans Kk407.out Kk416.out))))) hW417 HD371.out)
                  have HL421 : Hid (LiesQ W417 (Par w V0.heap.size (W15.heap.size :: []) P) h.a.kids _) := par_set (HL366.out.later (kept_trans Kk380.out (kept_trans Kk389.out (kept_trans Kk398.out (kept_trans Kk407.out Kk416.out))))) hW417 (List.mem_cons_self ..) (by have := HG364.out; have := Z0.out; omega)
                  have HL422 : Hid (LiesQ W417 (Par w V0.heap.size (W15.heap.size :: []) P) h.b.kids _) := par_set (HL367.out.later (kept_trans Kk380.out (kept_trans Kk389.out (kept_trans Kk398.out (kept_trans Kk407.out Kk416.out))))) hW417 (List.mem_cons_self ..) (by have := HG364.out; have := Z0.out; omega)
                  have HL423 : Hid (LiesQ W417 (Par w V0.heap.size (W15.heap.size :: []) P) h.x.kids _) := par_set (HL368.out.later (kept_trans Kk380.out (kept_trans Kk389.out (kept_trans Kk398.out (kept_trans Kk407.out Kk416.out))))) hW417 (List.mem_cons_self ..) (by have := HG364.out; have := Z0.out; omega)
                  have HL424 : Hid (LiesQ W417 (Par w V0.heap.size (W15.heap.size :: []) P) h.y.kids _) := par_set (HL369.out.later (kept_trans Kk380.out (kept_trans Kk389.out (kept_trans Kk398.out (kept_trans Kk407.out Kk416.out))))) hW417 (List.mem_cons_self ..) (by have := HG364.out; have := Z0.out; omega)
                  have HL425 : Hid (LiesQ W417 (Par w V0.heap.size (W15.heap.size :: []) P) h.h.kids _) := par_set (HL370.out.later (kept_trans Kk380.out (kept_trans Kk389.out (kept_trans Kk398.out (kept_trans Kk407.out Kk416.out))))) hW417 (List.mem_cons_self ..) (by have := HG364.out; have := Z0.out; omega)
                  have HL426 : Hid (LiesQ W417 (Par w V0.heap.size (W15.heap.size :: []) P) U379.kids _) := par_set (Hhl375.out.later (kept_trans Kk389.out (kept_trans Kk398.out (kept_trans Kk407.out Kk416.out)))) hW417 (List.mem_cons_self ..) (by have := HG364.out; have := Z0.out; omega)
                  have HL427 : Hid (LiesQ W417 (Par w V0.heap.size (W15.heap.size :: []) P) U388.kids _) := par_set (Hhl384.out.later (kept_trans Kk398.out (kept_trans Kk407.out Kk416.out))) hW417 (List.mem_cons_self ..) (by have := HG364.out; have := Z0.out; omega)
                  have HL428 : Hid (LiesQ W417 (Par w V0.heap.size (W15.heap.size :: []) P) U397.kids _) := par_set (Hhl393.out.later (kept_trans Kk407.out Kk416.out)) hW417 (List.mem_cons_self ..) (by have := HG364.out; have := Z0.out; omega)
                  have HL429 : Hid (LiesQ W417 (Par w V0.heap.size (W15.heap.size :: []) P) U406.kids _) := par_set (Hhl402.out.later Kk416.out) hW417 (List.mem_cons_self ..) (by have := HG364.out; have := Z0.out; omega)
                  have HL430 : Hid (LiesQ W417 (Par w V0.heap.size (W15.heap.size :: []) P) U415.kids _) := par_set Hhl411.out hW417 (List.mem_cons_self ..) (by have := HG364.out; have := Z0.out; omega)
                  have XL431 := Lib.hid (xlt_set (xlt_later XL365.out (kept_trans Kk380.out (kept_trans Kk389.out (kept_trans Kk398.out (kept_trans Kk407.out Kk416.out))))) hW417)
                  have HX432 := Lib.hid (blk_same (blk_at Hx360.out (kept_trans Kk380.out (kept_trans Kk389.out (kept_trans Kk398.out (kept_trans Kk407.out Kk416.out))))) hW417)
                  clear hW417
                  clear hHeld
                  refine hK.out _ _ ?_ (fun hHeld => ?_)
                  · (try dsimp only)
                    exact sees_kept _ KB420.out
                  clear hK K
                  (try simp only [Act.put])
                  refine wpAnyH_done (by kernel_rfl) ?_ _
                  clear hHeld
                  have kvV0 : Sees V0 (w.heap.size + 1) W417 := sees_kept _ KB419.out
                  have kvW417 : Sees W417 (w.heap.size + 1) W417 := sees_kept _ (kept_refl _)
                  go_wp2_with (refine stop_load 51 (.tmp 5) rfl ?_)
                  intro _
                  refine wpList_load_part (W15.heap.size) 0 51 (.tmp 5) #[.int .i64 h.i, .int .i64 U379.k, .int .i64 U379.i, .int .i64 U379.j, .int .i64 U379.n, (.slice a376 U379.kids.length c377), .int .i64 U388.k, .int .i64 U388.i, .int .i64 U388.j, .int .i64 U388.n, (.slice a385 U388.kids.length c386), .int .i64 U397.k, .int .i64 U397.i, .int .i64 U397.j, .int .i64 U397.n, (.slice a394 U397.kids.length c395), .int .i64 U406.k, .int .i64 U406.i, .int .i64 U406.j, .int .i64 U406.n, (.slice a403 U406.kids.length c404), .int .i64 U415.k, .int .i64 U415.i, .int .i64 U415.j, .int .i64 U415.n, (.slice a412 U415.kids.length c413)] dh HX432.out (by rfl) rfl (by rfl) (by rfl) dh1 (by cases dh <;> first | rfl | exact dh2) (by kernel_rfl) ?_
                  go_wp2_with fail
                  clear kvV0
                  clear kvW417
                  refine (hrightHet_any (⟨h.i, U379, U388, U397, U406, U415⟩ : He) (Par w V0.heap.size (W15.heap.size :: []) P) _ (.slice a376 U379.kids.length c377) (.slice a385 U388.kids.length c386) (.slice a394 U397.kids.length c395) (.slice a403 U406.kids.length c404) (.slice a412 U415.kids.length c413) ⟨Gh.out.1, (by rw [← HU379.out]; exact (lift_fine k (heR_pl Hhb9.out _ (by simp)))), (by rw [← HU388.out]; exact (lift_fine k (heR_pl Hhb9.out _ (by simp)))), (by rw [← HU397.out]; exact (lift_fine k (heR_pl Hhb9.out _ (by simp)))), (by rw [← HU406.out]; exact (lift_fine k (heR_pl Hhb9.out _ (by simp)))), (by rw [← HU415.out]; exact (lift_fine k (heR_pl Hhb9.out _ (by simp))))⟩ ⟨HL426.out, HL427.out, HL428.out, HL429.out, HL430.out⟩).mono ?_
                  obtain ⟨rb436, hb435⟩ : ∃ qb, heR (⟨h.i, U379, U388, U397, U406, U415⟩ : He) = qb := ⟨_, rfl⟩
                  rw [hb435]
                  have Hhb435 := Lib.hid hb435
                  clear hb435
                  rintro e w433 ⟨rfl, k434⟩
                  have Kk437 := Lib.hid k434
                  clear k434
                  cases rb436 with
                  | false =>
                    have kvV0 : Sees V0 (w.heap.size + 1) w433 := sees_kept _ (kept_trans KB419.out Kk437.out)
                    have kvW417 : Sees W417 (w.heap.size + 1) w433 := sees_kept _ Kk437.out
                    go_wp2_with (refine stop_store 51 (.tmp 4) (.tmp 36) rfl ?_)
                    intro _
                    refine wpList_store_part_n (by rfl) 51 (.tmp 4) (.tmp 36) rfl (w.heap.size + 1) 0 #[.int .i64 0, .int .i64 0, .int .i64 0, .int .i64 0, .int .i64 0, .slice none 0 0, .int .i64 0, .int .i64 0, .int .i64 0, .int .i64 0, .slice none 0 0, .int .i64 0, .int .i64 0, .int .i64 0, .int .i64 0, .slice none 0 0, .int .i64 0, .int .i64 0, .int .i64 0, .int .i64 0, .slice none 0 0, .int .i64 0, .int .i64 0, .int .i64 0, .int .i64 0, .slice none 0 0] (by rfl) (by rfl) 51 (by kernel_rfl) (row_ok rfl) ?_
                    intro W438 hW438
                    clear kvV0
                    clear kvW417
                    subst hW438
                    refine ⟨_, #[.int .i64 0, .int .i64 0, .int .i64 0, .int .i64 0, .int .i64 0, .slice none 0 0, .int .i64 0, .int .i64 0, .int .i64 0, .int .i64 0, .slice none 0 0, .int .i64 0, .int .i64 0, .int .i64 0, .int .i64 0, .slice none 0 0, .int .i64 0, .int .i64 0, .int .i64 0, .int .i64 0, .slice none 0 0, .int .i64 0, .int .i64 0, .int .i64 0, .int .i64 0, .slice none 0 0], (blk_at Hx2.out (kept_trans KB419.out Kk437.out)), rfl, Nat.le_of_ble_eq_true rfl, ?_⟩
                    intro W439 hW439
                    go_wp2_with fail
                    refine bodyPost_ret (results_cell_row rfl _ _ (w.heap.size + 1) 51 _ _ dh rfl (blk_same (blk_at Hx2.out (kept_trans KB419.out Kk437.out)) hW439) dh1 (by cases dh <;> first | rfl | exact dh2) (by kernel_rfl)) rfl ?_
                    rw [show heLift h k = (⟨0, (.mk 0 0 0 0 []), (.mk 0 0 0 0 []), (.mk 0 0 0 0 []), (.mk 0 0 0 0 []), (.mk 0 0 0 0 [])⟩ : He) from by unfold heLift heUp; rw [HU379.out]; rw [HU388.out]; rw [HU397.out]; rw [HU406.out]; rw [HU415.out]; rw [Hhb9.out, Hhb435.out]; (try rfl)]
                    exact ⟨_, _, _, _, _, rfl, ⟨par_end (par_row' (liesQ_nil w433 (Par w V0.heap.size (W15.heap.size :: []) P)) hW439 (by omega) (by have := Z0.out; omega)) (by have := Z0.out; omega), par_end (par_row' (liesQ_nil w433 (Par w V0.heap.size (W15.heap.size :: []) P)) hW439 (by omega) (by have := Z0.out; omega)) (by have := Z0.out; omega), par_end (par_row' (liesQ_nil w433 (Par w V0.heap.size (W15.heap.size :: []) P)) hW439 (by omega) (by have := Z0.out; omega)) (by have := Z0.out; omega), par_end (par_row' (liesQ_nil w433 (Par w V0.heap.size (W15.heap.size :: []) P)) hW439 (by omega) (by have := Z0.out; omega)) (by have := Z0.out; omega), par_end (par_row' (liesQ_nil w433 (Par w V0.heap.size (W15.heap.size :: []) P)) hW439 (by omega) (by have := Z0.out; omega)) (by have := Z0.out; omega)⟩, kept_set (kept_trans KB418.out Kk437.out) hW439 (by omega)⟩
                  | true =>
                    have kvV0 : Sees V0 (w.heap.size + 1) w433 := sees_kept _ (kept_trans KB419.out Kk437.out)
                    have kvW417 : Sees W417 (w.heap.size + 1) w433 := sees_kept _ Kk437.out
                    go_wp2_with (refine stop_load 51 (.tmp 5) rfl ?_)
                    intro _
                    refine wpList_load_part (W15.heap.size) 0 51 (.tmp 5) #[.int .i64 h.i, .int .i64 U379.k, .int .i64 U379.i, .int .i64 U379.j, .int .i64 U379.n, (.slice a376 U379.kids.length c377), .int .i64 U388.k, .int .i64 U388.i, .int .i64 U388.j, .int .i64 U388.n, (.slice a385 U388.kids.length c386), .int .i64 U397.k, .int .i64 U397.i, .int .i64 U397.j, .int .i64 U397.n, (.slice a394 U397.kids.length c395), .int .i64 U406.k, .int .i64 U406.i, .int .i64 U406.j, .int .i64 U406.n, (.slice a403 U406.kids.length c404), .int .i64 U415.k, .int .i64 U415.i, .int .i64 U415.j, .int .i64 U415.n, (.slice a412 U415.kids.length c413)] dh (blk_at HX432.out Kk437.out) (by rfl) rfl (by rfl) (by rfl) dh1 (by cases dh <;> first | rfl | exact dh2) (by kernel_rfl) ?_
                    go_wp2_with (refine stop_store 51 (.tmp 4) (.tmp 37) rfl ?_)
                    intro _
                    refine wpList_store_part_n (by rfl) 51 (.tmp 4) (.tmp 37) rfl (w.heap.size + 1) 0 #[.int .i64 h.i, .int .i64 U379.k, .int .i64 U379.i, .int .i64 U379.j, .int .i64 U379.n, (.slice a376 U379.kids.length c377), .int .i64 U388.k, .int .i64 U388.i, .int .i64 U388.j, .int .i64 U388.n, (.slice a385 U388.kids.length c386), .int .i64 U397.k, .int .i64 U397.i, .int .i64 U397.j, .int .i64 U397.n, (.slice a394 U397.kids.length c395), .int .i64 U406.k, .int .i64 U406.i, .int .i64 U406.j, .int .i64 U406.n, (.slice a403 U406.kids.length c404), .int .i64 U415.k, .int .i64 U415.i, .int .i64 U415.j, .int .i64 U415.n, (.slice a412 U415.kids.length c413)] (by rfl) (by rfl) 51 (by kernel_rfl) (row_ok rfl) ?_
                    intro W440 hW440
                    clear kvV0
                    clear kvW417
                    subst hW440
                    refine ⟨_, #[.int .i64 h.i, .int .i64 U379.k, .int .i64 U379.i, .int .i64 U379.j, .int .i64 U379.n, (.slice a376 U379.kids.length c377), .int .i64 U388.k, .int .i64 U388.i, .int .i64 U388.j, .int .i64 U388.n, (.slice a385 U388.kids.length c386), .int .i64 U397.k, .int .i64 U397.i, .int .i64 U397.j, .int .i64 U397.n, (.slice a394 U397.kids.length c395), .int .i64 U406.k, .int .i64 U406.i, .int .i64 U406.j, .int .i64 U406.n, (.slice a403 U406.kids.length c404), .int .i64 U415.k, .int .i64 U415.i, .int .i64 U415.j, .int .i64 U415.n, (.slice a412 U415.kids.length c413)], (blk_at Hx2.out (kept_trans KB419.out Kk437.out)), rfl, Nat.le_of_ble_eq_true rfl, ?_⟩
                    intro W441 hW441
                    go_wp2_with fail
                    refine bodyPost_ret (results_cell_row rfl _ _ (w.heap.size + 1) 51 _ _ dh rfl (blk_same (blk_at Hx2.out (kept_trans KB419.out Kk437.out)) hW441) dh1 (by cases dh <;> first | rfl | exact dh2) (by kernel_rfl)) rfl ?_
                    rw [show heLift h k = (⟨h.i, U379, U388, U397, U406, U415⟩ : He) from by unfold heLift heUp; rw [HU379.out]; rw [HU388.out]; rw [HU397.out]; rw [HU406.out]; rw [HU415.out]; rw [Hhb9.out, Hhb435.out]; (try rfl)]
                    exact ⟨_, _, _, _, _, rfl, ⟨par_end (par_row' (HL426.out.later Kk437.out) hW441 (by omega) (by have := Z0.out; omega)) (by have := Z0.out; omega), par_end (par_row' (HL427.out.later Kk437.out) hW441 (by omega) (by have := Z0.out; omega)) (by have := Z0.out; omega), par_end (par_row' (HL428.out.later Kk437.out) hW441 (by omega) (by have := Z0.out; omega)) (by have := Z0.out; omega), par_end (par_row' (HL429.out.later Kk437.out) hW441 (by omega) (by have := Z0.out; omega)) (by have := Z0.out; omega), par_end (par_row' (HL430.out.later Kk437.out) hW441 (by omega) (by have := Z0.out; omega)) (by have := Z0.out; omega)⟩, kept_set (kept_trans KB418.out Kk437.out) hW441 (by omega)⟩
                exact AllReadyH.nil
              exact AllReadyH.nil
            exact AllReadyH.nil
          exact AllReadyH.nil
        exact AllReadyH.nil
      exact AllReadyH.nil
    exact AllReadyH.nil

set_option maxRecDepth 20000 in
set_option maxHeartbeats 4000000 in
theorem lv_any (i : Int) (P : Nat → Prop) (w : World) (hri : I64 i) : Calls Try.prog 110 #[.int .i64 i] w (GivesP P (varT i) w) := by
  have Ri := Lib.hid hri
  clear hri
  obtain ⟨du, hu1, hu2⟩ := under_term
  go_enter Try.func110, Try.ntmps110
  go_upto_region 1 with fail
  refine at_code (fun V0 hV0 => ?_)
  obtain ⟨k2, x1, z3⟩ := alloc1 hV0
  have Kk4 := Lib.hid k2
  clear k2
  have Hx1 := Lib.hid x1
  have Z0 := Lib.hid z3
  clear z3 x1 hV0
  have kvV0 : Sees V0 (w.heap.size) V0 := sees_kept _ (kept_refl _)
  go_wp2_with (refine stop_store 32 (.tmp 2) (.tmp 4) rfl ?_)
  intro _
  refine wpList_store_part_n (by rfl) 32 (.tmp 2) (.tmp 4) rfl (w.heap.size) 0 #[.int .i64 2, .int .i64 i, .int .i64 0, .int .i64 0, .slice none 0 0] (by rfl) (by rfl) 32 size_term (row_ok rfl) ?_
  intro W5 hW5
  clear kvV0
  subst hW5
  refine ⟨_, #[.int .i64 2, .int .i64 i, .int .i64 0, .int .i64 0, .slice none 0 0], Hx1.out, rfl, Nat.le_of_ble_eq_true rfl, ?_⟩
  intro W6 hW6
  go_wp2_with fail
  refine bodyPost_ret (results_cell_row rfl _ _ (w.heap.size) 32 _ _ du rfl (blk_same Hx1.out hW6) hu1 (by cases du <;> first | rfl | exact hu2) size_term) rfl ?_
  exact ⟨_, rfl, par_end (par_row' (liesQ_nil V0 (Par w V0.heap.size [] P)) hW6 (by omega) (by have := Z0.out; omega)) (by have := Z0.out; omega), kept_set Kk4.out hW6 (by omega)⟩

set_option maxRecDepth 20000 in
set_option maxHeartbeats 4000000 in
theorem lours_any (h : He) (P : Nat → Prop) (w : World) (sha : Value) (shb : Value) (shx : Value) (shy : Value) (shh : Value) (hfh : h.fine) (hlh : HQ w P h sha shb shx shy shh) : Calls Try.prog 33 #[hv h sha shb shx shy shh] w (GivesHP P h w) := by
  have Gh := Lib.hid hfh
  clear hfh
  obtain ⟨hlha, hlhb, hlhx, hlhy, hlhh⟩ := hlh
  obtain ⟨aha, cha, Sha, rfl, -⟩ := hlha.out
  obtain ⟨ahb, chb, Shb, rfl, -⟩ := hlhb.out
  obtain ⟨ahx, chx, Shx, rfl, -⟩ := hlhx.out
  obtain ⟨ahy, chy, Shy, rfl, -⟩ := hlhy.out
  obtain ⟨ahh, chh, Shh, rfl, -⟩ := hlhh.out
  obtain ⟨du, hu1, hu2⟩ := under_term
  obtain ⟨dh, dh1, dh2⟩ := under_of 51 (by kernel_rfl)
  obtain ⟨dr, dr1, dr2⟩ := under_of 45 (by kernel_rfl)
  unfold hv
  go_enter Try.func33, Try.ntmps33
  go_upto_region 1 with fail
  refine at_code (fun V0 hV0 => ?_)
  obtain ⟨k3, x1, x2, z4⟩ := alloc2 hV0
  have Kk5 := Lib.hid k3
  clear k3
  have Hx1 := Lib.hid x1
  have Hx2 := Lib.hid x2
  have Z0 := Lib.hid z4
  clear z4 x1 x2 hV0
  have HLha : Hid (LiesQ V0 (Par w V0.heap.size [] P) h.a.kids _) := (par_in _ _ hlha).later Kk5.out
  clear hlha
  have HLhb : Hid (LiesQ V0 (Par w V0.heap.size [] P) h.b.kids _) := (par_in _ _ hlhb).later Kk5.out
  clear hlhb
  have HLhx : Hid (LiesQ V0 (Par w V0.heap.size [] P) h.x.kids _) := (par_in _ _ hlhx).later Kk5.out
  clear hlhx
  have HLhy : Hid (LiesQ V0 (Par w V0.heap.size [] P) h.y.kids _) := (par_in _ _ hlhy).later Kk5.out
  clear hlhy
  have HLhh : Hid (LiesQ V0 (Par w V0.heap.size [] P) h.h.kids _) := (par_in _ _ hlhh).later Kk5.out
  clear hlhh
  have ld6 := part_cell (r := (w.heap.size + 1)) Hx1.out (by have := Z0.out; omega) 0 (.int .i64 h.i) rfl
  have kvV0 : Sees V0 (w.heap.size + 1) V0 := sees_kept _ (kept_refl _)
  go_wp2_with (refine stop_load 32 (.tmp 5) rfl ?_)
  intro _
  refine wpList_load_part (w.heap.size) 1 32 (.tmp 5) #[.int .i64 h.a.k, .int .i64 h.a.i, .int .i64 h.a.j, .int .i64 h.a.n, (.slice aha h.a.kids.length cha)] du Hx1.out (by rfl) rfl (by rfl) (by rfl) hu1 (by cases du <;> first | rfl | exact hu2) size_term ?_
  go_wp2_with (refine stop_load 32 (.tmp 7) rfl ?_)
  intro _
  refine wpList_load_part (w.heap.size) 6 32 (.tmp 7) #[.int .i64 h.b.k, .int .i64 h.b.i, .int .i64 h.b.j, .int .i64 h.b.n, (.slice ahb h.b.kids.length chb)] du Hx1.out (by rfl) rfl (by rfl) (by rfl) hu1 (by cases du <;> first | rfl | exact hu2) size_term ?_
  go_wp2_with (refine stop_load 32 (.tmp 9) rfl ?_)
  intro _
  refine wpList_load_part (w.heap.size) 11 32 (.tmp 9) #[.int .i64 h.x.k, .int .i64 h.x.i, .int .i64 h.x.j, .int .i64 h.x.n, (.slice ahx h.x.kids.length chx)] du Hx1.out (by rfl) rfl (by rfl) (by rfl) hu1 (by cases du <;> first | rfl | exact hu2) size_term ?_
  go_wp2_with (refine stop_load 32 (.tmp 11) rfl ?_)
  intro _
  refine wpList_load_part (w.heap.size) 16 32 (.tmp 11) #[.int .i64 h.y.k, .int .i64 h.y.i, .int .i64 h.y.j, .int .i64 h.y.n, (.slice ahy h.y.kids.length chy)] du Hx1.out (by rfl) rfl (by rfl) (by rfl) hu1 (by cases du <;> first | rfl | exact hu2) size_term ?_
  go_wp2_with (refine stop_load 32 (.tmp 13) rfl ?_)
  intro _
  refine wpList_load_part (w.heap.size) 21 32 (.tmp 13) #[.int .i64 h.h.k, .int .i64 h.h.i, .int .i64 h.h.j, .int .i64 h.h.n, (.slice ahh h.h.kids.length chh)] du Hx1.out (by rfl) rfl (by rfl) (by rfl) hu1 (by cases du <;> first | rfl | exact hu2) size_term ?_
  go_wp2_with (refine stop_store 51 (.tmp 2) (.tmp 15) rfl ?_)
  intro _
  refine wpList_store_part_n (by rfl) 51 (.tmp 2) (.tmp 15) rfl (w.heap.size + 1) 0 #[.int .i64 h.i, .int .i64 h.a.k, .int .i64 h.a.i, .int .i64 h.a.j, .int .i64 h.a.n, (.slice aha h.a.kids.length cha), .int .i64 h.b.k, .int .i64 h.b.i, .int .i64 h.b.j, .int .i64 h.b.n, (.slice ahb h.b.kids.length chb), .int .i64 h.x.k, .int .i64 h.x.i, .int .i64 h.x.j, .int .i64 h.x.n, (.slice ahx h.x.kids.length chx), .int .i64 h.y.k, .int .i64 h.y.i, .int .i64 h.y.j, .int .i64 h.y.n, (.slice ahy h.y.kids.length chy), .int .i64 h.h.k, .int .i64 h.h.i, .int .i64 h.h.j, .int .i64 h.h.n, (.slice ahh h.h.kids.length chh)] (by rfl) (by rfl) 51 (by kernel_rfl) (row_ok rfl) ?_
  intro W7 hW7
  clear kvV0
  subst hW7
  refine ⟨_, #[.int .i64 h.i, .int .i64 h.a.k, .int .i64 h.a.i, .int .i64 h.a.j, .int .i64 h.a.n, (.slice aha h.a.kids.length cha), .int .i64 h.b.k, .int .i64 h.b.i, .int .i64 h.b.j, .int .i64 h.b.n, (.slice ahb h.b.kids.length chb), .int .i64 h.x.k, .int .i64 h.x.i, .int .i64 h.x.j, .int .i64 h.x.n, (.slice ahx h.x.kids.length chx), .int .i64 h.y.k, .int .i64 h.y.i, .int .i64 h.y.j, .int .i64 h.y.n, (.slice ahy h.y.kids.length chy), .int .i64 h.h.k, .int .i64 h.h.i, .int .i64 h.h.j, .int .i64 h.h.n, (.slice ahh h.h.kids.length chh)], Hx2.out, rfl, Nat.le_of_ble_eq_true rfl, ?_⟩
  intro W8 hW8
  go_wp2_with fail
  refine bodyPost_ret (results_cell_row rfl _ _ (w.heap.size + 1) 51 _ _ dh rfl (blk_same Hx2.out hW8) dh1 (by cases dh <;> first | rfl | exact dh2) (by kernel_rfl)) rfl ?_
  exact ⟨_, _, _, _, _, rfl, ⟨par_end (par_row' HLha.out hW8 (by omega) (by have := Z0.out; omega)) (by have := Z0.out; omega), par_end (par_row' HLhb.out hW8 (by omega) (by have := Z0.out; omega)) (by have := Z0.out; omega), par_end (par_row' HLhx.out hW8 (by omega) (by have := Z0.out; omega)) (by have := Z0.out; omega), par_end (par_row' HLhy.out hW8 (by omega) (by have := Z0.out; omega)) (by have := Z0.out; omega), par_end (par_row' HLhh.out hW8 (by omega) (by have := Z0.out; omega)) (by have := Z0.out; omega)⟩, kept_set Kk5.out hW8 (by omega)⟩

set_option maxRecDepth 20000 in
set_option maxHeartbeats 4000000 in
theorem lsame_any (h : He) (P : Nat → Prop) (w : World) (sha : Value) (shb : Value) (shx : Value) (shy : Value) (shh : Value) (zha : Value) (zhb : Value) (zhx : Value) (zhy : Value) (zhh : Value) (hlh : HQ w P h sha shb shx shy shh) (klh : HQ w P h zha zhb zhx zhy zhh) : Calls Try.prog 36 #[hv h sha shb shx shy shh, hv h zha zhb zhx zhy zhh] w fun e w' => e = .returned (.bool true) ∧ Kept w w' := by
  obtain ⟨hlha, hlhb, hlhx, hlhy, hlhh⟩ := hlh
  obtain ⟨aha, cha, Sha, rfl, -⟩ := hlha.out
  obtain ⟨ahb, chb, Shb, rfl, -⟩ := hlhb.out
  obtain ⟨ahx, chx, Shx, rfl, -⟩ := hlhx.out
  obtain ⟨ahy, chy, Shy, rfl, -⟩ := hlhy.out
  obtain ⟨ahh, chh, Shh, rfl, -⟩ := hlhh.out
  obtain ⟨klha, klhb, klhx, klhy, klhh⟩ := klh
  obtain ⟨bha, dha, Tha, rfl, -⟩ := klha.out
  obtain ⟨bhb, dhb, Thb, rfl, -⟩ := klhb.out
  obtain ⟨bhx, dhx, Thx, rfl, -⟩ := klhx.out
  obtain ⟨bhy, dhy, Thy, rfl, -⟩ := klhy.out
  obtain ⟨bhh, dhh, Thh, rfl, -⟩ := klhh.out
  obtain ⟨du, hu1, hu2⟩ := under_term
  obtain ⟨dh, dh1, dh2⟩ := under_of 51 (by kernel_rfl)
  obtain ⟨dr, dr1, dr2⟩ := under_of 45 (by kernel_rfl)
  unfold hv
  go_enter Try.func36, Try.ntmps36
  go_upto_region 1 with fail
  refine at_code (fun V0 hV0 => ?_)
  obtain ⟨k3, x1, x2, z4⟩ := alloc2 hV0
  have Kk5 := Lib.hid k3
  clear k3
  have Hx1 := Lib.hid x1
  have Hx2 := Lib.hid x2
  have Z0 := Lib.hid z4
  clear z4 x1 x2 hV0
  have HLha : Hid (LiesQ V0 (Par w V0.heap.size [] P) h.a.kids _) := (par_in _ _ hlha).later Kk5.out
  clear hlha
  have HLhb : Hid (LiesQ V0 (Par w V0.heap.size [] P) h.b.kids _) := (par_in _ _ hlhb).later Kk5.out
  clear hlhb
  have HLhx : Hid (LiesQ V0 (Par w V0.heap.size [] P) h.x.kids _) := (par_in _ _ hlhx).later Kk5.out
  clear hlhx
  have HLhy : Hid (LiesQ V0 (Par w V0.heap.size [] P) h.y.kids _) := (par_in _ _ hlhy).later Kk5.out
  clear hlhy
  have HLhh : Hid (LiesQ V0 (Par w V0.heap.size [] P) h.h.kids _) := (par_in _ _ hlhh).later Kk5.out
  clear hlhh
  have HLzha : Hid (LiesQ V0 (Par w V0.heap.size [] P) h.a.kids _) := (par_in _ _ klha).later Kk5.out
  clear klha
  have HLzhb : Hid (LiesQ V0 (Par w V0.heap.size [] P) h.b.kids _) := (par_in _ _ klhb).later Kk5.out
  clear klhb
  have HLzhx : Hid (LiesQ V0 (Par w V0.heap.size [] P) h.x.kids _) := (par_in _ _ klhx).later Kk5.out
  clear klhx
  have HLzhy : Hid (LiesQ V0 (Par w V0.heap.size [] P) h.y.kids _) := (par_in _ _ klhy).later Kk5.out
  clear klhy
  have HLzhh : Hid (LiesQ V0 (Par w V0.heap.size [] P) h.h.kids _) := (par_in _ _ klhh).later Kk5.out
  clear klhh
  have ld6 := part_cell (r := V0.heap.size) Hx1.out (by have := Z0.out; omega) 0 (.int .i64 h.i) rfl
  have ld7 := part_cell (r := V0.heap.size) Hx2.out (by have := Z0.out; omega) 0 (.int .i64 h.i) rfl
  have kvV0 : Sees V0 V0.heap.size V0 := sees_kept _ (kept_refl _)
  go_wp2_with (refine stop_load 32 (.tmp 11) rfl ?_)
  intro _
  refine wpList_load_part (w.heap.size) 1 32 (.tmp 11) #[.int .i64 h.a.k, .int .i64 h.a.i, .int .i64 h.a.j, .int .i64 h.a.n, (.slice aha h.a.kids.length cha)] du Hx1.out (by rfl) rfl (by rfl) (by rfl) hu1 (by cases du <;> first | rfl | exact hu2) size_term ?_
  go_wp2_with (refine stop_load 32 (.tmp 13) rfl ?_)
  intro _
  refine wpList_load_part (w.heap.size + 1) 1 32 (.tmp 13) #[.int .i64 h.a.k, .int .i64 h.a.i, .int .i64 h.a.j, .int .i64 h.a.n, (.slice bha h.a.kids.length dha)] du Hx2.out (by rfl) rfl (by rfl) (by rfl) hu1 (by cases du <;> first | rfl | exact hu2) size_term ?_
  go_wp2_with fail
  clear kvV0
  refine (keepsame_eq h.a _ (.slice aha h.a.kids.length cha) (.slice bha h.a.kids.length dha) HLha.out.lies HLzha.out.lies).mono ?_
  rintro e w8 ⟨rfl, k9⟩
  have Kk10 := Lib.hid k9
  clear k9
  have kvV0 : Sees V0 V0.heap.size w8 := sees_kept _ Kk10.out
  go_wp2_with (refine stop_load 32 (.tmp 18) rfl ?_)
  intro _
  refine wpList_load_part (w.heap.size) 6 32 (.tmp 18) #[.int .i64 h.b.k, .int .i64 h.b.i, .int .i64 h.b.j, .int .i64 h.b.n, (.slice ahb h.b.kids.length chb)] du (blk_at Hx1.out Kk10.out) (by rfl) rfl (by rfl) (by rfl) hu1 (by cases du <;> first | rfl | exact hu2) size_term ?_
  go_wp2_with (refine stop_load 32 (.tmp 20) rfl ?_)
  intro _
  refine wpList_load_part (w.heap.size + 1) 6 32 (.tmp 20) #[.int .i64 h.b.k, .int .i64 h.b.i, .int .i64 h.b.j, .int .i64 h.b.n, (.slice bhb h.b.kids.length dhb)] du (blk_at Hx2.out Kk10.out) (by rfl) rfl (by rfl) (by rfl) hu1 (by cases du <;> first | rfl | exact hu2) size_term ?_
  go_wp2_with fail
  clear kvV0
  refine (keepsame_eq h.b _ (.slice ahb h.b.kids.length chb) (.slice bhb h.b.kids.length dhb) (HLhb.out.later Kk10.out).lies (HLzhb.out.later Kk10.out).lies).mono ?_
  rintro e w11 ⟨rfl, k12⟩
  have Kk13 := Lib.hid k12
  clear k12
  have kvV0 : Sees V0 V0.heap.size w11 := sees_kept _ (kept_trans Kk10.out Kk13.out)
  go_wp2_with (refine stop_load 32 (.tmp 25) rfl ?_)
  intro _
  refine wpList_load_part (w.heap.size) 11 32 (.tmp 25) #[.int .i64 h.x.k, .int .i64 h.x.i, .int .i64 h.x.j, .int .i64 h.x.n, (.slice ahx h.x.kids.length chx)] du (blk_at Hx1.out (kept_trans Kk10.out Kk13.out)) (by rfl) rfl (by rfl) (by rfl) hu1 (by cases du <;> first | rfl | exact hu2) size_term ?_
  go_wp2_with (refine stop_load 32 (.tmp 27) rfl ?_)
  intro _
  refine wpList_load_part (w.heap.size + 1) 11 32 (.tmp 27) #[.int .i64 h.x.k, .int .i64 h.x.i, .int .i64 h.x.j, .int .i64 h.x.n, (.slice bhx h.x.kids.length dhx)] du (blk_at Hx2.out (kept_trans Kk10.out Kk13.out)) (by rfl) rfl (by rfl) (by rfl) hu1 (by cases du <;> first | rfl | exact hu2) size_term ?_
  go_wp2_with fail
  clear kvV0
  refine (keepsame_eq h.x _ (.slice ahx h.x.kids.length chx) (.slice bhx h.x.kids.length dhx) (HLhx.out.later (kept_trans Kk10.out Kk13.out)).lies (HLzhx.out.later (kept_trans Kk10.out Kk13.out)).lies).mono ?_
  rintro e w14 ⟨rfl, k15⟩
  have Kk16 := Lib.hid k15
  clear k15
  have kvV0 : Sees V0 V0.heap.size w14 := sees_kept _ (kept_trans Kk10.out (kept_trans Kk13.out Kk16.out))
  go_wp2_with (refine stop_load 32 (.tmp 32) rfl ?_)
  intro _
  refine wpList_load_part (w.heap.size) 16 32 (.tmp 32) #[.int .i64 h.y.k, .int .i64 h.y.i, .int .i64 h.y.j, .int .i64 h.y.n, (.slice ahy h.y.kids.length chy)] du (blk_at Hx1.out (kept_trans Kk10.out (kept_trans Kk13.out Kk16.out))) (by rfl) rfl (by rfl) (by rfl) hu1 (by cases du <;> first | rfl | exact hu2) size_term ?_
  go_wp2_with (refine stop_load 32 (.tmp 34) rfl ?_)
  intro _
  refine wpList_load_part (w.heap.size + 1) 16 32 (.tmp 34) #[.int .i64 h.y.k, .int .i64 h.y.i, .int .i64 h.y.j, .int .i64 h.y.n, (.slice bhy h.y.kids.length dhy)] du (blk_at Hx2.out (kept_trans Kk10.out (kept_trans Kk13.out Kk16.out))) (by rfl) rfl (by rfl) (by rfl) hu1 (by cases du <;> first | rfl | exact hu2) size_term ?_
  go_wp2_with fail
  clear kvV0
  refine (keepsame_eq h.y _ (.slice ahy h.y.kids.length chy) (.slice bhy h.y.kids.length dhy) (HLhy.out.later (kept_trans Kk10.out (kept_trans Kk13.out Kk16.out))).lies (HLzhy.out.later (kept_trans Kk10.out (kept_trans Kk13.out Kk16.out))).lies).mono ?_
  rintro e w17 ⟨rfl, k18⟩
  have Kk19 := Lib.hid k18
  clear k18
  have kvV0 : Sees V0 V0.heap.size w17 := sees_kept _ (kept_trans Kk10.out (kept_trans Kk13.out (kept_trans Kk16.out Kk19.out)))
  go_wp2_with (refine stop_load 32 (.tmp 39) rfl ?_)
  intro _
  refine wpList_load_part (w.heap.size) 21 32 (.tmp 39) #[.int .i64 h.h.k, .int .i64 h.h.i, .int .i64 h.h.j, .int .i64 h.h.n, (.slice ahh h.h.kids.length chh)] du (blk_at Hx1.out (kept_trans Kk10.out (kept_trans Kk13.out (kept_trans Kk16.out Kk19.out)))) (by rfl) rfl (by rfl) (by rfl) hu1 (by cases du <;> first | rfl | exact hu2) size_term ?_
  go_wp2_with (refine stop_load 32 (.tmp 41) rfl ?_)
  intro _
  refine wpList_load_part (w.heap.size + 1) 21 32 (.tmp 41) #[.int .i64 h.h.k, .int .i64 h.h.i, .int .i64 h.h.j, .int .i64 h.h.n, (.slice bhh h.h.kids.length dhh)] du (blk_at Hx2.out (kept_trans Kk10.out (kept_trans Kk13.out (kept_trans Kk16.out Kk19.out)))) (by rfl) rfl (by rfl) (by rfl) hu1 (by cases du <;> first | rfl | exact hu2) size_term ?_
  go_wp2_with fail
  clear kvV0
  refine (keepsame_eq h.h _ (.slice ahh h.h.kids.length chh) (.slice bhh h.h.kids.length dhh) (HLhh.out.later (kept_trans Kk10.out (kept_trans Kk13.out (kept_trans Kk16.out Kk19.out)))).lies (HLzhh.out.later (kept_trans Kk10.out (kept_trans Kk13.out (kept_trans Kk16.out Kk19.out)))).lies).mono ?_
  rintro e w20 ⟨rfl, k21⟩
  have Kk22 := Lib.hid k21
  clear k21
  have kvV0 : Sees V0 V0.heap.size w20 := sees_kept _ (kept_trans Kk10.out (kept_trans Kk13.out (kept_trans Kk16.out (kept_trans Kk19.out Kk22.out))))
  go_wp2
  go_ret
  exact ⟨rfl, (kept_trans Kk5.out (kept_trans Kk10.out (kept_trans Kk13.out (kept_trans Kk16.out (kept_trans Kk19.out Kk22.out)))))⟩

set_option maxRecDepth 20000 in
set_option maxHeartbeats 4000000 in
theorem lheavy_any (h : He) (P : Nat → Prop) (w : World) (sha : Value) (shb : Value) (shx : Value) (shy : Value) (shh : Value) (hfh : h.fine) (hlh : HQ w P h sha shb shx shy shh) : Calls Try.prog 27 #[hv h sha shb shx shy shh] w (GivesG (∀ t ∈ [h.a, h.b, h.x, h.y, h.h], t.deep ≤ 100000) w) := by
  have Gh := Lib.hid hfh
  clear hfh
  obtain ⟨hlha, hlhb, hlhx, hlhy, hlhh⟩ := hlh
  obtain ⟨aha, cha, Sha, rfl, -⟩ := hlha.out
  obtain ⟨ahb, chb, Shb, rfl, -⟩ := hlhb.out
  obtain ⟨ahx, chx, Shx, rfl, -⟩ := hlhx.out
  obtain ⟨ahy, chy, Shy, rfl, -⟩ := hlhy.out
  obtain ⟨ahh, chh, Shh, rfl, -⟩ := hlhh.out
  obtain ⟨du, hu1, hu2⟩ := under_term
  obtain ⟨dr, dr1, dr2⟩ := under_of 45 (by kernel_rfl)
  unfold hv
  go_enter Try.func27, Try.ntmps27
  go_upto_region 1 with fail
  refine at_code (fun V0 hV0 => ?_)
  obtain ⟨k2, x1, z3⟩ := alloc1 hV0
  have Kk4 := Lib.hid k2
  clear k2
  have Hx1 := Lib.hid x1
  have Z0 := Lib.hid z3
  clear z3 x1 hV0
  have HLha : Hid (LiesQ V0 (Par w V0.heap.size [] P) h.a.kids _) := (par_in _ _ hlha).later Kk4.out
  clear hlha
  have HLhb : Hid (LiesQ V0 (Par w V0.heap.size [] P) h.b.kids _) := (par_in _ _ hlhb).later Kk4.out
  clear hlhb
  have HLhx : Hid (LiesQ V0 (Par w V0.heap.size [] P) h.x.kids _) := (par_in _ _ hlhx).later Kk4.out
  clear hlhx
  have HLhy : Hid (LiesQ V0 (Par w V0.heap.size [] P) h.y.kids _) := (par_in _ _ hlhy).later Kk4.out
  clear hlhy
  have HLhh : Hid (LiesQ V0 (Par w V0.heap.size [] P) h.h.kids _) := (par_in _ _ hlhh).later Kk4.out
  clear hlhh
  have kvV0 : Sees V0 V0.heap.size V0 := sees_kept _ (kept_refl _)
  go_wp2_with (refine stop_load 32 (.tmp 3) rfl ?_)
  intro _
  refine wpList_load_part (w.heap.size) 1 32 (.tmp 3) #[.int .i64 h.a.k, .int .i64 h.a.i, .int .i64 h.a.j, .int .i64 h.a.n, (.slice aha h.a.kids.length cha)] du Hx1.out (by rfl) rfl (by rfl) (by rfl) hu1 (by cases du <;> first | rfl | exact hu2) size_term ?_
  go_wp2_with (refine stop_load 32 (.tmp 5) rfl ?_)
  intro _
  refine wpList_load_part (w.heap.size) 6 32 (.tmp 5) #[.int .i64 h.b.k, .int .i64 h.b.i, .int .i64 h.b.j, .int .i64 h.b.n, (.slice ahb h.b.kids.length chb)] du Hx1.out (by rfl) rfl (by rfl) (by rfl) hu1 (by cases du <;> first | rfl | exact hu2) size_term ?_
  go_wp2_with (refine stop_load 32 (.tmp 7) rfl ?_)
  intro _
  refine wpList_load_part (w.heap.size) 11 32 (.tmp 7) #[.int .i64 h.x.k, .int .i64 h.x.i, .int .i64 h.x.j, .int .i64 h.x.n, (.slice ahx h.x.kids.length chx)] du Hx1.out (by rfl) rfl (by rfl) (by rfl) hu1 (by cases du <;> first | rfl | exact hu2) size_term ?_
  go_wp2_with (refine stop_load 32 (.tmp 9) rfl ?_)
  intro _
  refine wpList_load_part (w.heap.size) 16 32 (.tmp 9) #[.int .i64 h.y.k, .int .i64 h.y.i, .int .i64 h.y.j, .int .i64 h.y.n, (.slice ahy h.y.kids.length chy)] du Hx1.out (by rfl) rfl (by rfl) (by rfl) hu1 (by cases du <;> first | rfl | exact hu2) size_term ?_
  go_wp2_with (refine stop_load 32 (.tmp 11) rfl ?_)
  intro _
  refine wpList_load_part (w.heap.size) 21 32 (.tmp 11) #[.int .i64 h.h.k, .int .i64 h.h.i, .int .i64 h.h.j, .int .i64 h.h.n, (.slice ahh h.h.kids.length chh)] du Hx1.out (by rfl) rfl (by rfl) (by rfl) hu1 (by cases du <;> first | rfl | exact hu2) size_term ?_
  go_wp2_with fail
  refine at_world (fun W6 hW6 => ?_)
  clear kvV0
  obtain ⟨k8, x7, z9⟩ := alloc1 hW6
  have Kk10 := Lib.hid k8
  clear k8
  have Hx7 := Lib.hid x7
  have Hz9 := Lib.hid z9
  clear x7 z9 hW6
  have HR11 : Hid (LiesQ W6 (Par w V0.heap.size [] P) [h.a, h.b, h.x, h.y, h.h] (.slice (some ⟨V0.heap.size, 0, none⟩) 5 5)) := q_row [(h.a, (.slice aha h.a.kids.length cha)), (h.b, (.slice ahb h.b.kids.length chb)), (h.x, (.slice ahx h.x.kids.length chx)), (h.y, (.slice ahy h.y.kids.length chy)), (h.h, (.slice ahh h.h.kids.length chh))] _ rfl Hx7.out (par_new (Nat.le_refl _) (xlt_nil _) (Nat.le_refl _)) (fun p hp => by
    simp only [List.mem_cons, List.not_mem_nil, or_false] at hp
    rcases hp with rfl | rfl | rfl | rfl | rfl
    · exact ⟨Gh.out.2.1, (HLha.out.later Kk10.out)⟩
    · exact ⟨Gh.out.2.2.1, (HLhb.out.later Kk10.out)⟩
    · exact ⟨Gh.out.2.2.2.1, (HLhx.out.later Kk10.out)⟩
    · exact ⟨Gh.out.2.2.2.2.1, (HLhy.out.later Kk10.out)⟩
    · exact ⟨Gh.out.2.2.2.2.2, (HLhh.out.later Kk10.out)⟩) (Nat.le_of_ble_eq_true rfl)
  refine (greatsM_any [h.a, h.b, h.x, h.y, h.h] 120 (by decide) _ _ HR11.out.lies).mono ?_
  rintro e w12 ⟨gb14, rfl, hg15, k13⟩
  have Hhg15 := Lib.hid hg15
  clear hg15
  have Kk16 := Lib.hid k13
  clear k13
  cases gb14 with
  | false =>
    have HIhg15 := Lib.hid (Hhg15.out rfl)
    have kvV0 : Sees V0 V0.heap.size w12 := sees_kept _ (kept_trans Kk10.out Kk16.out)
    go_wp2
    go_ret
    exact ⟨false, rfl, (fun h => HIhg15.out.2), (kept_trans Kk4.out (kept_trans Kk10.out Kk16.out))⟩
  | true =>
    have kvV0 : Sees V0 V0.heap.size w12 := sees_kept _ (kept_trans Kk10.out Kk16.out)
    go_wp2
    go_ret
    exact ⟨true, rfl, (fun h => Bool.noConfusion h), (kept_trans Kk4.out (kept_trans Kk10.out Kk16.out))⟩

end Go.Proofs.Ytkdceahmknhojaa
