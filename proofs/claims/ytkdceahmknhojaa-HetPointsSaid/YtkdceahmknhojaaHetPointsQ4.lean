/-
  HetPoints holds: for every input the call returns true, and the arguments read as before. No condition.
-/
import Derived.Test.YtkdceahmknhojaaRows
import Derived.WalkKit
import Derived.Lib.Hide
import Derived.KernelRfl
import Derived.Deep.RegionWith
import Derived.Deep.RegionHeld3
import Derived.Deep.AppendLies
import Derived.Laws.Rows
import Derived.Laws.IdiomCopy
import Derived.Deep.Slices
import Derived.Lib.QuietBelow
import Derived.StillTailTactics
import Derived.BigQuiet
import Derived.IntWalk
import Derived.OwnWalk
import Derived.Deep.RegionLaw
import Derived.Deep.QuietTactic
import Derived.Deep.LoopGhost
import Derived.Deep.DeepCutAuto
import Derived.Deep.MidRow
import Derived.OrdersHeld
import Derived.Laws.Tables
import Derived.Laws.CopyOwn
import Derived.Laws.CopyRow
import Derived.Deep.RegionHeld
import Derived.ProofKit
import Derived.OpenShut
import Derived.Carry
import Derived.ChangeSlices
import Derived.JoinedOf
import Derived.Test.YtkdceahmknhojaaHetPointsQ3
namespace Go.Proofs.Ytkdceahmknhojaa
open Go.RowKit

def hetPointsr3_0 : Oper := { dst := some 19, op := Go.Op.move (Go.Operand.tmp 0), type := 3, pos := "law.go:51", after := #[], guard := none }
def hetPointsr3_1 : Oper := { dst := some 20, op := Go.Op.load 32 (Go.Operand.tmp 5), type := 32, pos := "law.go:51", after := #[], guard := none }
def hetPointsr3_2 : Oper := { dst := some 21, op := Go.Op.load 32 (Go.Operand.tmp 6), type := 32, pos := "law.go:51", after := #[], guard := none }
def hetPointsr3_3 : Oper := { dst := some 22, op := Go.Op.call { callee := Go.Callee.value (Go.Operand.func 28), args := #[Go.Operand.tmp 19, Go.Operand.tmp 20, Go.Operand.tmp 21], argTypes := #[3, 32, 32] }, type := 32, pos := "law.go:51", after := #[{ on := 0, ground := Go.Ground.data }, { on := 1, ground := Go.Ground.data }, { on := 2, ground := Go.Ground.data }], guard := none }
def hetPointsr3_4 : Oper := { dst := some 23, op := Go.Op.move (Go.Operand.tmp 0), type := 3, pos := "law.go:51", after := #[], guard := none }
def hetPointsr3_5 : Oper := { dst := some 24, op := Go.Op.load 32 (Go.Operand.tmp 5), type := 32, pos := "law.go:51", after := #[], guard := none }
def hetPointsr3_6 : Oper := { dst := some 25, op := Go.Op.load 32 (Go.Operand.tmp 6), type := 32, pos := "law.go:51", after := #[], guard := none }
def hetPointsr3_7 : Oper := { dst := some 26, op := Go.Op.call { callee := Go.Callee.value (Go.Operand.func 29), args := #[Go.Operand.tmp 23, Go.Operand.tmp 24, Go.Operand.tmp 25], argTypes := #[3, 32, 32] }, type := 32, pos := "law.go:51", after := #[{ on := 4, ground := Go.Ground.data }, { on := 5, ground := Go.Ground.data }, { on := 6, ground := Go.Ground.data }, { on := 3, ground := Go.Ground.chain }], guard := none }
def hetPointsr3_8 : Oper := { dst := some 27, op := Go.Op.call { callee := Go.Callee.value (Go.Operand.func 25), args := #[Go.Operand.tmp 22, Go.Operand.tmp 26], argTypes := #[32, 32] }, type := 4, pos := "law.go:51", after := #[{ on := 3, ground := Go.Ground.data }, { on := 7, ground := Go.Ground.data }, { on := 7, ground := Go.Ground.chain }], guard := none }
def hetPointsr3_9 : Oper := { dst := some 28, op := Go.Op.move (Go.Operand.tmp 27), type := 4, pos := "law.go:51", after := #[{ on := 8, ground := Go.Ground.data }, { on := 8, ground := Go.Ground.chain }], guard := none }
def hetPointsr3_10 : Oper := { dst := some 29, op := Go.Op.move (Go.Operand.tmp 0), type := 3, pos := "law.go:51", after := #[{ on := 9, ground := Go.Ground.guard }], guard := some (9, true) }
def hetPointsr3_11 : Oper := { dst := some 30, op := Go.Op.call { callee := Go.Callee.value (Go.Operand.func 30), args := #[Go.Operand.tmp 29], argTypes := #[3] }, type := 32, pos := "law.go:51", after := #[{ on := 10, ground := Go.Ground.data }, { on := 9, ground := Go.Ground.chain }, { on := 9, ground := Go.Ground.guard }], guard := some (9, true) }
def hetPointsr3_12 : Oper := { dst := some 31, op := Go.Op.move (Go.Operand.tmp 0), type := 3, pos := "law.go:51", after := #[{ on := 9, ground := Go.Ground.guard }], guard := some (9, true) }
def hetPointsr3_13 : Oper := { dst := some 32, op := Go.Op.call { callee := Go.Callee.value (Go.Operand.func 31), args := #[Go.Operand.tmp 31], argTypes := #[3] }, type := 32, pos := "law.go:51", after := #[{ on := 12, ground := Go.Ground.data }, { on := 11, ground := Go.Ground.chain }, { on := 9, ground := Go.Ground.guard }], guard := some (9, true) }
def hetPointsr3_14 : Oper := { dst := some 33, op := Go.Op.call { callee := Go.Callee.value (Go.Operand.func 25), args := #[Go.Operand.tmp 30, Go.Operand.tmp 32], argTypes := #[32, 32] }, type := 4, pos := "law.go:51", after := #[{ on := 11, ground := Go.Ground.data }, { on := 13, ground := Go.Ground.data }, { on := 13, ground := Go.Ground.chain }, { on := 9, ground := Go.Ground.guard }], guard := some (9, true) }
def hetPointsr3_15 : Oper := { dst := some 34, op := Go.Op.pick (Go.Operand.tmp 28) (Go.Operand.tmp 33) (Go.Operand.const (Go.Value.bool false)), type := 4, pos := "law.go:51", after := #[{ on := 9, ground := Go.Ground.data }, { on := 14, ground := Go.Ground.data }], guard := none }
def hetPointsr3_16 : Oper := { dst := some 35, op := Go.Op.move (Go.Operand.tmp 34), type := 4, pos := "law.go:51", after := #[{ on := 15, ground := Go.Ground.data }, { on := 14, ground := Go.Ground.chain }], guard := none }
def hetPointsr3_17 : Oper := { dst := some 36, op := Go.Op.load 45 (Go.Operand.tmp 7), type := 45, pos := "law.go:51", after := #[{ on := 16, ground := Go.Ground.guard }], guard := some (16, true) }
def hetPointsr3_18 : Oper := { dst := some 37, op := Go.Op.call { callee := Go.Callee.value (Go.Operand.func 33), args := #[Go.Operand.tmp 36], argTypes := #[45] }, type := 51, pos := "law.go:51", after := #[{ on := 17, ground := Go.Ground.data }, { on := 16, ground := Go.Ground.chain }, { on := 16, ground := Go.Ground.guard }], guard := some (16, true) }
def hetPointsr3_19 : Oper := { dst := some 38, op := Go.Op.call { callee := Go.Callee.value (Go.Operand.func 32), args := #[Go.Operand.tmp 37], argTypes := #[51] }, type := 32, pos := "law.go:51", after := #[{ on := 18, ground := Go.Ground.data }, { on := 18, ground := Go.Ground.chain }, { on := 16, ground := Go.Ground.guard }], guard := some (16, true) }
def hetPointsr3_20 : Oper := { dst := some 39, op := Go.Op.load 45 (Go.Operand.tmp 7), type := 45, pos := "law.go:51", after := #[{ on := 16, ground := Go.Ground.guard }], guard := some (16, true) }
def hetPointsr3_21 : Oper := { dst := some 40, op := Go.Op.call { callee := Go.Callee.value (Go.Operand.func 34), args := #[Go.Operand.tmp 39], argTypes := #[45] }, type := 32, pos := "law.go:51", after := #[{ on := 20, ground := Go.Ground.data }, { on := 19, ground := Go.Ground.chain }, { on := 16, ground := Go.Ground.guard }], guard := some (16, true) }
def hetPointsr3_22 : Oper := { dst := some 41, op := Go.Op.call { callee := Go.Callee.value (Go.Operand.func 25), args := #[Go.Operand.tmp 38, Go.Operand.tmp 40], argTypes := #[32, 32] }, type := 4, pos := "law.go:51", after := #[{ on := 19, ground := Go.Ground.data }, { on := 21, ground := Go.Ground.data }, { on := 21, ground := Go.Ground.chain }, { on := 16, ground := Go.Ground.guard }], guard := some (16, true) }
def hetPointsr3_23 : Oper := { dst := some 42, op := Go.Op.pick (Go.Operand.tmp 35) (Go.Operand.tmp 41) (Go.Operand.const (Go.Value.bool false)), type := 4, pos := "law.go:51", after := #[{ on := 16, ground := Go.Ground.data }, { on := 22, ground := Go.Ground.data }], guard := none }
def hetPointsr3_24 : Oper := { dst := some 43, op := Go.Op.move (Go.Operand.tmp 42), type := 4, pos := "law.go:51", after := #[{ on := 23, ground := Go.Ground.data }, { on := 22, ground := Go.Ground.chain }], guard := none }
def hetPointsr3_25 : Oper := { dst := some 44, op := Go.Op.call { callee := Go.Callee.value (Go.Operand.func 35), args := #[], argTypes := #[] }, type := 4, pos := "law.go:51", after := #[{ on := 24, ground := Go.Ground.chain }, { on := 24, ground := Go.Ground.guard }], guard := some (24, true) }
def hetPointsr3_26 : Oper := { dst := some 45, op := Go.Op.pick (Go.Operand.tmp 43) (Go.Operand.tmp 44) (Go.Operand.const (Go.Value.bool false)), type := 4, pos := "law.go:51", after := #[{ on := 24, ground := Go.Ground.data }, { on := 25, ground := Go.Ground.data }], guard := none }
def hetPointsr3_27 : Oper := { dst := some 8, op := Go.Op.assign (Go.Operand.tmp 45), type := 4, pos := "law.go:51", after := #[{ on := 26, ground := Go.Ground.data }, { on := 25, ground := Go.Ground.chain }, { on := 0, ground := Go.Ground.phase }, { on := 1, ground := Go.Ground.phase }, { on := 2, ground := Go.Ground.phase }, { on := 3, ground := Go.Ground.phase }, { on := 4, ground := Go.Ground.phase }, { on := 5, ground := Go.Ground.phase }, { on := 6, ground := Go.Ground.phase }, { on := 7, ground := Go.Ground.phase }, { on := 8, ground := Go.Ground.phase }, { on := 9, ground := Go.Ground.phase }, { on := 10, ground := Go.Ground.phase }, { on := 11, ground := Go.Ground.phase }, { on := 12, ground := Go.Ground.phase }, { on := 13, ground := Go.Ground.phase }, { on := 14, ground := Go.Ground.phase }, { on := 15, ground := Go.Ground.phase }, { on := 16, ground := Go.Ground.phase }, { on := 17, ground := Go.Ground.phase }, { on := 18, ground := Go.Ground.phase }, { on := 19, ground := Go.Ground.phase }, { on := 20, ground := Go.Ground.phase }, { on := 21, ground := Go.Ground.phase }, { on := 22, ground := Go.Ground.phase }, { on := 23, ground := Go.Ground.phase }, { on := 24, ground := Go.Ground.phase }, { on := 25, ground := Go.Ground.phase }, { on := 26, ground := Go.Ground.phase }], guard := none }
set_option maxRecDepth 20000 in
set_option maxHeartbeats 4000000 in
theorem hetPoints_any (i : Int) (a : Tm) (x : Tm) (h : He) (P : Nat → Prop) (w : World) (sa : Value) (sx : Value) (sha : Value) (shb : Value) (shx : Value) (shy : Value) (shh : Value) (hri : I64 i) (hfa : a.fine) (hla : LiesQ w P a.kids sa) (hfx : x.fine) (hlx : LiesQ w P x.kids sx) (hfh : h.fine) (hlh : HQ w P h sha shb shx shy shh) : Calls Try.prog 7 #[.int .i64 i, tv a sa, tv x sx, hv h sha shb shx shy shh] w fun e w' => e = .returned (.bool true) ∧ Kept w w' := by
  have Ri := Lib.hid hri
  clear hri
  have Ga := Lib.hid hfa
  clear hfa
  obtain ⟨aa, ca, Sa, rfl, -⟩ := hla.out
  have Gx := Lib.hid hfx
  clear hfx
  obtain ⟨ax, cx, Sx, rfl, -⟩ := hlx.out
  have Gh := Lib.hid hfh
  clear hfh
  obtain ⟨hlha, hlhb, hlhx, hlhy, hlhh⟩ := hlh
  obtain ⟨aha, cha, Sha, rfl, -⟩ := hlha.out
  obtain ⟨ahb, chb, Shb, rfl, -⟩ := hlhb.out
  obtain ⟨ahx, chx, Shx, rfl, -⟩ := hlhx.out
  obtain ⟨ahy, chy, Shy, rfl, -⟩ := hlhy.out
  obtain ⟨ahh, chh, Shh, rfl, -⟩ := hlhh.out
  obtain ⟨du, hu1, hu2⟩ := under_term
  obtain ⟨dr, dr1, dr2⟩ := under_of 45 (by kernel_rfl)
  unfold hv
  unfold tv
  go_enter Try.func7, Try.ntmps7
  go_upto_region 1 with fail
  refine at_code (fun V0 hV0 => ?_)
  obtain ⟨k4, x1, x2, x3, z5⟩ := alloc3 hV0
  have Kk6 := Lib.hid k4
  clear k4
  have Hx1 := Lib.hid x1
  have Hx2 := Lib.hid x2
  have Hx3 := Lib.hid x3
  have Z0 := Lib.hid z5
  clear z5 x1 x2 x3 hV0
  have HLa : Hid (LiesQ V0 (Par w V0.heap.size [] P) a.kids _) := (par_in _ _ hla).later Kk6.out
  clear hla
  have HLx : Hid (LiesQ V0 (Par w V0.heap.size [] P) x.kids _) := (par_in _ _ hlx).later Kk6.out
  clear hlx
  have HLha : Hid (LiesQ V0 (Par w V0.heap.size [] P) h.a.kids _) := (par_in _ _ hlha).later Kk6.out
  clear hlha
  have HLhb : Hid (LiesQ V0 (Par w V0.heap.size [] P) h.b.kids _) := (par_in _ _ hlhb).later Kk6.out
  clear hlhb
  have HLhx : Hid (LiesQ V0 (Par w V0.heap.size [] P) h.x.kids _) := (par_in _ _ hlhx).later Kk6.out
  clear hlhx
  have HLhy : Hid (LiesQ V0 (Par w V0.heap.size [] P) h.y.kids _) := (par_in _ _ hlhy).later Kk6.out
  clear hlhy
  have HLhh : Hid (LiesQ V0 (Par w V0.heap.size [] P) h.h.kids _) := (par_in _ _ hlhh).later Kk6.out
  clear hlhh
  have kvV0 : SeesN V0 V0.heap.size V0 := seesN_kept _ (kept_refl _)
  go_wp2_with (refine stop_load 32 (.tmp 5) rfl ?_)
  intro _
  refine wpList_load_part (w.heap.size) 0 32 (.tmp 5) #[.int .i64 a.k, .int .i64 a.i, .int .i64 a.j, .int .i64 a.n, (.slice aa a.kids.length ca)] du Hx1.out (by rfl) rfl (by rfl) (by rfl) hu1 (by cases du <;> first | rfl | exact hu2) size_term ?_
  go_wp2_with fail
  clear kvV0
  refine (great_any a _ (.slice aa a.kids.length ca) 120 HLa.out.lies (by decide) (by decide)).mono ?_
  rintro e w7 ⟨gb9, rfl, hg10, k8⟩
  have Hhg10 := Lib.hid hg10
  clear hg10
  have Kk11 := Lib.hid k8
  clear k8
  cases gb9 with
  | false =>
    have HIhg10 := Lib.hid (Hhg10.out rfl)
    have kvV0 : SeesN V0 V0.heap.size w7 := seesN_kept _ Kk11.out
    go_wp2_with (refine stop_load 32 (.tmp 6) rfl ?_)
    intro _
    refine wpList_load_part (w.heap.size + 1) 0 32 (.tmp 6) #[.int .i64 x.k, .int .i64 x.i, .int .i64 x.j, .int .i64 x.n, (.slice ax x.kids.length cx)] du (blk_at Hx2.out Kk11.out) (by rfl) rfl (by rfl) (by rfl) hu1 (by cases du <;> first | rfl | exact hu2) size_term ?_
    go_wp2_with fail
    clear kvV0
    refine (great_any x _ (.slice ax x.kids.length cx) 120 (HLx.out.later Kk11.out).lies (by decide) (by decide)).mono ?_
    rintro e w12 ⟨gb14, rfl, hg15, k13⟩
    have Hhg15 := Lib.hid hg15
    clear hg15
    have Kk16 := Lib.hid k13
    clear k13
    cases gb14 with
    | false =>
      have HIhg15 := Lib.hid (Hhg15.out rfl)
      have kvV0 : SeesN V0 V0.heap.size w12 := seesN_kept _ (kept_trans Kk11.out Kk16.out)
      go_wp2_with (refine stop_load 45 (.tmp 7) rfl ?_)
      intro _
      refine wpList_load_part (w.heap.size + 2) 0 45 (.tmp 7) #[.int .i64 h.i, .int .i64 h.a.k, .int .i64 h.a.i, .int .i64 h.a.j, .int .i64 h.a.n, (.slice aha h.a.kids.length cha), .int .i64 h.b.k, .int .i64 h.b.i, .int .i64 h.b.j, .int .i64 h.b.n, (.slice ahb h.b.kids.length chb), .int .i64 h.x.k, .int .i64 h.x.i, .int .i64 h.x.j, .int .i64 h.x.n, (.slice ahx h.x.kids.length chx), .int .i64 h.y.k, .int .i64 h.y.i, .int .i64 h.y.j, .int .i64 h.y.n, (.slice ahy h.y.kids.length chy), .int .i64 h.h.k, .int .i64 h.h.i, .int .i64 h.h.j, .int .i64 h.h.n, (.slice ahh h.h.kids.length chh)] dr (blk_at Hx3.out (kept_trans Kk11.out Kk16.out)) (by rfl) rfl (by rfl) (by rfl) dr1 (by cases dr <;> first | rfl | exact dr2) (by kernel_rfl) ?_
      go_wp2_with fail
      clear kvV0
      refine (lheavy_any h (Par w V0.heap.size [] P) _ (.slice aha h.a.kids.length cha) (.slice ahb h.b.kids.length chb) (.slice ahx h.x.kids.length chx) (.slice ahy h.y.kids.length chy) (.slice ahh h.h.kids.length chh) ⟨Gh.out.1, Gh.out.2.1, Gh.out.2.2.1, Gh.out.2.2.2.1, Gh.out.2.2.2.2.1, Gh.out.2.2.2.2.2⟩ ⟨(HLha.out.later (kept_trans Kk11.out Kk16.out)), (HLhb.out.later (kept_trans Kk11.out Kk16.out)), (HLhx.out.later (kept_trans Kk11.out Kk16.out)), (HLhy.out.later (kept_trans Kk11.out Kk16.out)), (HLhh.out.later (kept_trans Kk11.out Kk16.out))⟩).mono ?_
      rintro e w17 ⟨gb19, rfl, hg20, k18⟩
      have Hhg20 := Lib.hid hg20
      clear hg20
      have Kk21 := Lib.hid k18
      clear k18
      cases gb19 with
      | false =>
        have HIhg20 := Lib.hid (Hhg20.out rfl)
        have kvV0 : SeesN V0 V0.heap.size w17 := seesN_kept _ (kept_trans Kk11.out (kept_trans Kk16.out Kk21.out))
        go_wp2_with fail
        clear kvV0
        obtain ⟨W22, h23⟩ : ∃ x, World.drew w17 = x := ⟨_, rfl⟩
        have k24 : Kept w17 W22 := by rw [← h23]; exact kept_drew (kept_refl _)
        have Kk25 := Lib.hid k24
        clear k24
        refine wp_region_held_drew (S := SeesN W22 V0.heap.size) (by kernel_rfl) ?_ (fun hHeld => ?_)
        · (try dsimp only)
          rw [h23]
          exact seesN_kept _ (kept_refl _)
        rw [h23] at hHeld ⊢
        clear h23
        refine take_at 0 19 hetPointsr3_0 (v := ?_) (Or.inl ⟨by rfl, ?_⟩) ?_
        rotate_left 1
        · ((intro w hSw; (try dsimp only at hSw); unfold hetPointsr3_0; go_simp) <;> with_reducible rfl)
        (try simp only [Act.put, List.setIfInBounds_toArray, List.set_cons_zero, List.set_cons_succ])
        refine take_at 1 20 hetPointsr3_1 (yields_part (w.heap.size) 0 32 (.tmp 5) #[.int .i64 a.k, .int .i64 a.i, .int .i64 a.j, .int .i64 a.n, (.slice aa a.kids.length ca)] du (fun _ h => seesN_blk Hx1.out trivial (seesN_of (kept_trans Kk11.out (kept_trans Kk16.out (kept_trans Kk21.out Kk25.out))) h)) (by rfl) rfl (by rfl) (by rfl) hu1 (by cases du <;> first | rfl | exact hu2) size_term) ?_
        (try simp only [Act.put, List.setIfInBounds_toArray, List.set_cons_zero, List.set_cons_succ])
        refine take_at 2 21 hetPointsr3_2 (yields_part (w.heap.size + 1) 0 32 (.tmp 6) #[.int .i64 x.k, .int .i64 x.i, .int .i64 x.j, .int .i64 x.n, (.slice ax x.kids.length cx)] du (fun _ h => seesN_blk Hx2.out trivial (seesN_of (kept_trans Kk11.out (kept_trans Kk16.out (kept_trans Kk21.out Kk25.out))) h)) (by rfl) rfl (by rfl) (by rfl) hu1 (by cases du <;> first | rfl | exact hu2) size_term) ?_
        (try simp only [Act.put, List.setIfInBounds_toArray, List.set_cons_zero, List.set_cons_succ])
        refine take_at 4 23 hetPointsr3_4 (v := ?_) (Or.inl ⟨by rfl, ?_⟩) ?_
        rotate_left 1
        · ((intro w hSw; (try dsimp only at hSw); unfold hetPointsr3_4; go_simp) <;> with_reducible rfl)
        (try simp only [Act.put, List.setIfInBounds_toArray, List.set_cons_zero, List.set_cons_succ])
        refine take_at 5 24 hetPointsr3_5 (yields_part (w.heap.size) 0 32 (.tmp 5) #[.int .i64 a.k, .int .i64 a.i, .int .i64 a.j, .int .i64 a.n, (.slice aa a.kids.length ca)] du (fun _ h => seesN_blk Hx1.out trivial (seesN_of (kept_trans Kk11.out (kept_trans Kk16.out (kept_trans Kk21.out Kk25.out))) h)) (by rfl) rfl (by rfl) (by rfl) hu1 (by cases du <;> first | rfl | exact hu2) size_term) ?_
        (try simp only [Act.put, List.setIfInBounds_toArray, List.set_cons_zero, List.set_cons_succ])
        refine take_at 6 25 hetPointsr3_6 (yields_part (w.heap.size + 1) 0 32 (.tmp 6) #[.int .i64 x.k, .int .i64 x.i, .int .i64 x.j, .int .i64 x.n, (.slice ax x.kids.length cx)] du (fun _ h => seesN_blk Hx2.out trivial (seesN_of (kept_trans Kk11.out (kept_trans Kk16.out (kept_trans Kk21.out Kk25.out))) h)) (by rfl) rfl (by rfl) (by rfl) hu1 (by cases du <;> first | rfl | exact hu2) size_term) ?_
        (try simp only [Act.put, List.setIfInBounds_toArray, List.set_cons_zero, List.set_cons_succ])
        refine wpAnyH_ready (rs := [3]) (by kernel_rfl) (by simp) ?_
        refine AllReadyH.cons (o := hetPointsr3_3) rfl (fun K hK => ?_) ?_
        · unfold hetPointsr3_3
          go_simp
          refine (hPoint_any i a x (Par w V0.heap.size [] P) _ (.slice aa a.kids.length ca) (.slice ax x.kids.length cx) Ri.out Ga.out (HLa.out.later (kept_trans Kk11.out (kept_trans Kk16.out (kept_trans Kk21.out Kk25.out)))) Gx.out (HLx.out.later (kept_trans Kk11.out (kept_trans Kk16.out (kept_trans Kk21.out Kk25.out))))).mono ?_
          obtain ⟨U33, hU33⟩ : ∃ qu, pointB i a x = qu := ⟨_, rfl⟩
          rw [hU33]
          have HU33 := Lib.hid hU33
          clear hU33
          rintro e w26 ⟨s28, rfl, hl29, k27⟩
          obtain ⟨a30, c31, S32, rfl, -⟩ := hl29.out
          have Kk34 := Lib.hid k27
          clear k27
          have Hhl29 : Hid (LiesQ w26 (Par w V0.heap.size [] P) U33.kids _) := par_give hl29 (Below.size (kept_trans Kk11.out (kept_trans Kk16.out (kept_trans Kk21.out Kk25.out)))) (xlt_nil _)
          clear hl29
          clear hHeld
          refine hK.out _ _ ?_ (fun hHeld => ?_)
          · (try dsimp only)
            exact seesN_kept _ Kk34.out
          clear hK K
          (try simp only [Act.put, List.setIfInBounds_toArray, List.set_cons_zero, List.set_cons_succ])
          refine wpAnyH_ready (rs := [7]) (by kernel_rfl) (by simp) ?_
          refine AllReadyH.cons (o := hetPointsr3_7) rfl (fun K hK => ?_) ?_
          · unfold hetPointsr3_7
            go_simp
            refine (rPoint_any i a x (Par w V0.heap.size [] P) _ (.slice aa a.kids.length ca) (.slice ax x.kids.length cx) Ri.out Ga.out (HLa.out.later (kept_trans Kk11.out (kept_trans Kk16.out (kept_trans Kk21.out (kept_trans Kk25.out Kk34.out))))) Gx.out (HLx.out.later (kept_trans Kk11.out (kept_trans Kk16.out (kept_trans Kk21.out (kept_trans Kk25.out Kk34.out)))))).mono ?_
            rw [HU33.out]
            rintro e w35 ⟨s37, rfl, hl38, k36⟩
            obtain ⟨a39, c40, S41, rfl, -⟩ := hl38.out
            have Kk42 := Lib.hid k36
            clear k36
            have Hhl38 : Hid (LiesQ w35 (Par w V0.heap.size [] P) U33.kids _) := par_give hl38 (Below.size (kept_trans Kk11.out (kept_trans Kk16.out (kept_trans Kk21.out (kept_trans Kk25.out Kk34.out))))) (xlt_nil _)
            clear hl38
            clear hHeld
            refine hK.out _ _ ?_ (fun hHeld => ?_)
            · (try dsimp only)
              exact seesN_kept _ (kept_trans Kk34.out Kk42.out)
            clear hK K
            (try simp only [Act.put, List.setIfInBounds_toArray, List.set_cons_zero, List.set_cons_succ])
            refine wpAnyH_ready (rs := [8]) (by kernel_rfl) (by simp) ?_
            refine AllReadyH.cons (o := hetPointsr3_8) rfl (fun K hK => ?_) ?_
            · unfold hetPointsr3_8
              go_simp
              refine (keepsame_eq U33 _ (.slice a30 U33.kids.length c31) (.slice a39 U33.kids.length c40) (Hhl29.out.later Kk42.out).lies Hhl38.out.lies).mono ?_
              rintro e w43 ⟨rfl, k44⟩
              have Kk45 := Lib.hid k44
              clear k44
              clear hHeld
              refine hK.out _ _ ?_ (fun hHeld => ?_)
              · (try dsimp only)
                exact seesN_kept _ (kept_trans Kk34.out (kept_trans Kk42.out Kk45.out))
              clear hK K
              (try simp only [Act.put, List.setIfInBounds_toArray, List.set_cons_zero, List.set_cons_succ])
              refine take_at 9 28 hetPointsr3_9 (v := ?_) (Or.inl ⟨by rfl, ?_⟩) ?_
              rotate_left 1
              · ((intro w hSw; (try dsimp only at hSw); unfold hetPointsr3_9; go_simp) <;> with_reducible rfl)
              (try simp only [Act.put, List.setIfInBounds_toArray, List.set_cons_zero, List.set_cons_succ])
              refine take_at 10 29 hetPointsr3_10 (v := ?_) (Or.inl ⟨by rfl, ?_⟩) ?_
              rotate_left 1
              · ((intro w hSw; (try dsimp only at hSw); unfold hetPointsr3_10; go_simp) <;> with_reducible rfl)
              (try simp only [Act.put, List.setIfInBounds_toArray, List.set_cons_zero, List.set_cons_succ])
              refine take_at 12 31 hetPointsr3_12 (v := ?_) (Or.inl ⟨by rfl, ?_⟩) ?_
              rotate_left 1
              · ((intro w hSw; (try dsimp only at hSw); unfold hetPointsr3_12; go_simp) <;> with_reducible rfl)
              (try simp only [Act.put, List.setIfInBounds_toArray, List.set_cons_zero, List.set_cons_succ])
              refine wpAnyH_ready (rs := [11]) (by kernel_rfl) (by simp) ?_
              refine AllReadyH.cons (o := hetPointsr3_11) rfl (fun K hK => ?_) ?_
              · unfold hetPointsr3_11
                go_simp
                refine (hPoints_any i (Par w V0.heap.size [] P) _  Ri.out).mono ?_
                obtain ⟨U53, hU53⟩ : ∃ qu, pointsB i = qu := ⟨_, rfl⟩
                rw [hU53]
                have HU53 := Lib.hid hU53
                clear hU53
                rintro e w46 ⟨s48, rfl, hl49, k47⟩
                obtain ⟨a50, c51, S52, rfl, -⟩ := hl49.out
                have Kk54 := Lib.hid k47
                clear k47
                have Hhl49 : Hid (LiesQ w46 (Par w V0.heap.size [] P) U53.kids _) := par_give hl49 (Below.size (kept_trans Kk11.out (kept_trans Kk16.out (kept_trans Kk21.out (kept_trans Kk25.out (kept_trans Kk34.out (kept_trans Kk42.out Kk45.out))))))) (xlt_nil _)
                clear hl49
                clear hHeld
                refine hK.out _ _ ?_ (fun hHeld => ?_)
                · (try dsimp only)
                  exact seesN_kept _ (kept_trans Kk34.out (kept_trans Kk42.out (kept_trans Kk45.out Kk54.out)))
                clear hK K
                (try simp only [Act.put, List.setIfInBounds_toArray, List.set_cons_zero, List.set_cons_succ])
                refine wpAnyH_ready (rs := [13]) (by kernel_rfl) (by simp) ?_
                refine AllReadyH.cons (o := hetPointsr3_13) rfl (fun K hK => ?_) ?_
                · unfold hetPointsr3_13
                  go_simp
                  refine (rPoints_any i (Par w V0.heap.size [] P) _  Ri.out).mono ?_
                  rw [HU53.out]
                  rintro e w55 ⟨s57, rfl, hl58, k56⟩
                  obtain ⟨a59, c60, S61, rfl, -⟩ := hl58.out
                  have Kk62 := Lib.hid k56
                  clear k56
                  have Hhl58 : Hid (LiesQ w55 (Par w V0.heap.size [] P) U53.kids _) := par_give hl58 (Below.size (kept_trans Kk11.out (kept_trans Kk16.out (kept_trans Kk21.out (kept_trans Kk25.out (kept_trans Kk34.out (kept_trans Kk42.out (kept_trans Kk45.out Kk54.out)))))))) (xlt_nil _)
                  clear hl58
                  clear hHeld
                  refine hK.out _ _ ?_ (fun hHeld => ?_)
                  · (try dsimp only)
                    exact seesN_kept _ (kept_trans Kk34.out (kept_trans Kk42.out (kept_trans Kk45.out (kept_trans Kk54.out Kk62.out))))
                  clear hK K
                  (try simp only [Act.put, List.setIfInBounds_toArray, List.set_cons_zero, List.set_cons_succ])
                  refine wpAnyH_ready (rs := [14]) (by kernel_rfl) (by simp) ?_
                  refine AllReadyH.cons (o := hetPointsr3_14) rfl (fun K hK => ?_) ?_
                  · unfold hetPointsr3_14
                    go_simp
                    refine (keepsame_eq U53 _ (.slice a50 U53.kids.length c51) (.slice a59 U53.kids.length c60) (Hhl49.out.later Kk62.out).lies Hhl58.out.lies).mono ?_
                    rintro e w63 ⟨rfl, k64⟩
                    have Kk65 := Lib.hid k64
                    clear k64
                    clear hHeld
                    refine hK.out _ _ ?_ (fun hHeld => ?_)
                    · (try dsimp only)
                      exact seesN_kept _ (kept_trans Kk34.out (kept_trans Kk42.out (kept_trans Kk45.out (kept_trans Kk54.out (kept_trans Kk62.out Kk65.out)))))
                    clear hK K
                    (try simp only [Act.put, List.setIfInBounds_toArray, List.set_cons_zero, List.set_cons_succ])
                    refine take_at 15 34 hetPointsr3_15 (v := ?_) (Or.inl ⟨by rfl, ?_⟩) ?_
                    rotate_left 1
                    · ((intro w hSw; (try dsimp only at hSw); unfold hetPointsr3_15; go_simp) <;> with_reducible rfl)
                    (try simp only [Act.put, List.setIfInBounds_toArray, List.set_cons_zero, List.set_cons_succ])
                    refine take_at 16 35 hetPointsr3_16 (v := ?_) (Or.inl ⟨by rfl, ?_⟩) ?_
                    rotate_left 1
                    · ((intro w hSw; (try dsimp only at hSw); unfold hetPointsr3_16; go_simp) <;> with_reducible rfl)
                    (try simp only [Act.put, List.setIfInBounds_toArray, List.set_cons_zero, List.set_cons_succ])
                    refine take_at 17 36 hetPointsr3_17 (yields_part (w.heap.size + 2) 0 45 (.tmp 7) #[.int .i64 h.i, .int .i64 h.a.k, .int .i64 h.a.i, .int .i64 h.a.j, .int .i64 h.a.n, (.slice aha h.a.kids.length cha), .int .i64 h.b.k, .int .i64 h.b.i, .int .i64 h.b.j, .int .i64 h.b.n, (.slice ahb h.b.kids.length chb), .int .i64 h.x.k, .int .i64 h.x.i, .int .i64 h.x.j, .int .i64 h.x.n, (.slice ahx h.x.kids.length chx), .int .i64 h.y.k, .int .i64 h.y.i, .int .i64 h.y.j, .int .i64 h.y.n, (.slice ahy h.y.kids.length chy), .int .i64 h.h.k, .int .i64 h.h.i, .int .i64 h.h.j, .int .i64 h.h.n, (.slice ahh h.h.kids.length chh)] dr (fun _ h => seesN_blk Hx3.out trivial (seesN_of (kept_trans Kk11.out (kept_trans Kk16.out (kept_trans Kk21.out Kk25.out))) h)) (by rfl) rfl (by rfl) (by rfl) dr1 (by cases dr <;> first | rfl | exact dr2) (by kernel_rfl)) ?_
                    (try simp only [Act.put, List.setIfInBounds_toArray, List.set_cons_zero, List.set_cons_succ])
                    refine take_at 20 39 hetPointsr3_20 (yields_part (w.heap.size + 2) 0 45 (.tmp 7) #[.int .i64 h.i, .int .i64 h.a.k, .int .i64 h.a.i, .int .i64 h.a.j, .int .i64 h.a.n, (.slice aha h.a.kids.length cha), .int .i64 h.b.k, .int .i64 h.b.i, .int .i64 h.b.j, .int .i64 h.b.n, (.slice ahb h.b.kids.length chb), .int .i64 h.x.k, .int .i64 h.x.i, .int .i64 h.x.j, .int .i64 h.x.n, (.slice ahx h.x.kids.length chx), .int .i64 h.y.k, .int .i64 h.y.i, .int .i64 h.y.j, .int .i64 h.y.n, (.slice ahy h.y.kids.length chy), .int .i64 h.h.k, .int .i64 h.h.i, .int .i64 h.h.j, .int .i64 h.h.n, (.slice ahh h.h.kids.length chh)] dr (fun _ h => seesN_blk Hx3.out trivial (seesN_of (kept_trans Kk11.out (kept_trans Kk16.out (kept_trans Kk21.out Kk25.out))) h)) (by rfl) rfl (by rfl) (by rfl) dr1 (by cases dr <;> first | rfl | exact dr2) (by kernel_rfl)) ?_
                    (try simp only [Act.put, List.setIfInBounds_toArray, List.set_cons_zero, List.set_cons_succ])
                    refine wpAnyH_ready (rs := [18]) (by kernel_rfl) (by simp) ?_
                    refine AllReadyH.cons (o := hetPointsr3_18) rfl (fun K hK => ?_) ?_
                    · unfold hetPointsr3_18
                      go_simp
                      refine (lours_any h (Par w V0.heap.size [] P) _ (.slice aha h.a.kids.length cha) (.slice ahb h.b.kids.length chb) (.slice ahx h.x.kids.length chx) (.slice ahy h.y.kids.length chy) (.slice ahh h.h.kids.length chh) ⟨Gh.out.1, Gh.out.2.1, Gh.out.2.2.1, Gh.out.2.2.2.1, Gh.out.2.2.2.2.1, Gh.out.2.2.2.2.2⟩ ⟨(HLha.out.later (kept_trans Kk11.out (kept_trans Kk16.out (kept_trans Kk21.out (kept_trans Kk25.out (kept_trans Kk34.out (kept_trans Kk42.out (kept_trans Kk45.out (kept_trans Kk54.out (kept_trans Kk62.out Kk65.out)))))))))), (HLhb.out.later (kept_trans Kk11.out (kept_trans Kk16.out (kept_trans Kk21.out (kept_trans Kk25.out (kept_trans Kk34.out (kept_trans Kk42.out (kept_trans Kk45.out (kept_trans Kk54.out (kept_trans Kk62.out Kk65.out)))))))))), (HLhx.out.later (kept_trans Kk11.out (kept_trans Kk16.out (kept_trans Kk21.out (kept_trans Kk25.out (kept_trans Kk34.out (kept_trans Kk42.out (kept_trans Kk45.out (kept_trans Kk54.out (kept_trans Kk62.out Kk65.out)))))))))), (HLhy.out.later (kept_trans Kk11.out (kept_trans Kk16.out (kept_trans Kk21.out (kept_trans Kk25.out (kept_trans Kk34.out (kept_trans Kk42.out (kept_trans Kk45.out (kept_trans Kk54.out (kept_trans Kk62.out Kk65.out)))))))))), (HLhh.out.later (kept_trans Kk11.out (kept_trans Kk16.out (kept_trans Kk21.out (kept_trans Kk25.out (kept_trans Kk34.out (kept_trans Kk42.out (kept_trans Kk45.out (kept_trans Kk54.out (kept_trans Kk62.out Kk65.out))))))))))⟩).mono ?_
                      rintro e w66 ⟨s68, s69, s70, s71, s72, rfl, ⟨hl73, hl74, hl75, hl76, hl77⟩, k67⟩
                      obtain ⟨a78, c79, S80, rfl, -⟩ := hl73.out
                      obtain ⟨a81, c82, S83, rfl, -⟩ := hl74.out
                      obtain ⟨a84, c85, S86, rfl, -⟩ := hl75.out
                      obtain ⟨a87, c88, S89, rfl, -⟩ := hl76.out
                      obtain ⟨a90, c91, S92, rfl, -⟩ := hl77.out
                      have Kk93 := Lib.hid k67
                      clear k67
                      have Hhl73 : Hid (LiesQ w66 (Par w V0.heap.size [] P) h.a.kids _) := par_give hl73 (Below.size (kept_trans Kk11.out (kept_trans Kk16.out (kept_trans Kk21.out (kept_trans Kk25.out (kept_trans Kk34.out (kept_trans Kk42.out (kept_trans Kk45.out (kept_trans Kk54.out (kept_trans Kk62.out Kk65.out)))))))))) (xlt_nil _)
                      have Hhl74 : Hid (LiesQ w66 (Par w V0.heap.size [] P) h.b.kids _) := par_give hl74 (Below.size (kept_trans Kk11.out (kept_trans Kk16.out (kept_trans Kk21.out (kept_trans Kk25.out (kept_trans Kk34.out (kept_trans Kk42.out (kept_trans Kk45.out (kept_trans Kk54.out (kept_trans Kk62.out Kk65.out)))))))))) (xlt_nil _)
                      have Hhl75 : Hid (LiesQ w66 (Par w V0.heap.size [] P) h.x.kids _) := par_give hl75 (Below.size (kept_trans Kk11.out (kept_trans Kk16.out (kept_trans Kk21.out (kept_trans Kk25.out (kept_trans Kk34.out (kept_trans Kk42.out (kept_trans Kk45.out (kept_trans Kk54.out (kept_trans Kk62.out Kk65.out)))))))))) (xlt_nil _)
                      have Hhl76 : Hid (LiesQ w66 (Par w V0.heap.size [] P) h.y.kids _) := par_give hl76 (Below.size (kept_trans Kk11.out (kept_trans Kk16.out (kept_trans Kk21.out (kept_trans Kk25.out (kept_trans Kk34.out (kept_trans Kk42.out (kept_trans Kk45.out (kept_trans Kk54.out (kept_trans Kk62.out Kk65.out)))))))))) (xlt_nil _)
                      have Hhl77 : Hid (LiesQ w66 (Par w V0.heap.size [] P) h.h.kids _) := par_give hl77 (Below.size (kept_trans Kk11.out (kept_trans Kk16.out (kept_trans Kk21.out (kept_trans Kk25.out (kept_trans Kk34.out (kept_trans Kk42.out (kept_trans Kk45.out (kept_trans Kk54.out (kept_trans Kk62.out Kk65.out)))))))))) (xlt_nil _)
                      clear hl73 hl74 hl75 hl76 hl77
                      clear hHeld
                      refine hK.out _ _ ?_ (fun hHeld => ?_)
                      · (try dsimp only)
                        exact seesN_kept _ (kept_trans Kk34.out (kept_trans Kk42.out (kept_trans Kk45.out (kept_trans Kk54.out (kept_trans Kk62.out (kept_trans Kk65.out Kk93.out))))))
                      clear hK K
                      (try simp only [Act.put, List.setIfInBounds_toArray, List.set_cons_zero, List.set_cons_succ])
                      refine wpAnyH_ready (rs := [19]) (by kernel_rfl) (by simp) ?_
                      refine AllReadyH.cons (o := hetPointsr3_19) rfl (fun K hK => ?_) ?_
                      · unfold hetPointsr3_19
                        go_simp
                        refine (htype_any h (Par w V0.heap.size [] P) _ (.slice a78 h.a.kids.length c79) (.slice a81 h.b.kids.length c82) (.slice a84 h.x.kids.length c85) (.slice a87 h.y.kids.length c88) (.slice a90 h.h.kids.length c91) ⟨((show He.fine h from ⟨Gh.out.1, Gh.out.2.1, Gh.out.2.2.1, Gh.out.2.2.2.1, Gh.out.2.2.2.2.1, Gh.out.2.2.2.2.2⟩)).1, ((show He.fine h from ⟨Gh.out.1, Gh.out.2.1, Gh.out.2.2.1, Gh.out.2.2.2.1, Gh.out.2.2.2.2.1, Gh.out.2.2.2.2.2⟩)).2.1, ((show He.fine h from ⟨Gh.out.1, Gh.out.2.1, Gh.out.2.2.1, Gh.out.2.2.2.1, Gh.out.2.2.2.2.1, Gh.out.2.2.2.2.2⟩)).2.2.1, ((show He.fine h from ⟨Gh.out.1, Gh.out.2.1, Gh.out.2.2.1, Gh.out.2.2.2.1, Gh.out.2.2.2.2.1, Gh.out.2.2.2.2.2⟩)).2.2.2.1, ((show He.fine h from ⟨Gh.out.1, Gh.out.2.1, Gh.out.2.2.1, Gh.out.2.2.2.1, Gh.out.2.2.2.2.1, Gh.out.2.2.2.2.2⟩)).2.2.2.2.1, ((show He.fine h from ⟨Gh.out.1, Gh.out.2.1, Gh.out.2.2.1, Gh.out.2.2.2.1, Gh.out.2.2.2.2.1, Gh.out.2.2.2.2.2⟩)).2.2.2.2.2⟩ ⟨Hhl73.out, Hhl74.out, Hhl75.out, Hhl76.out, Hhl77.out⟩).mono ?_
                        obtain ⟨U101, hU101⟩ : ∃ qu, heType h = qu := ⟨_, rfl⟩
                        rw [hU101]
                        have HU101 := Lib.hid hU101
                        clear hU101
                        rintro e w94 ⟨s96, rfl, hl97, k95⟩
                        obtain ⟨a98, c99, S100, rfl, -⟩ := hl97.out
                        have Kk102 := Lib.hid k95
                        clear k95
                        have Hhl97 : Hid (LiesQ w94 (Par w V0.heap.size [] P) U101.kids _) := par_give hl97 (Below.size (kept_trans Kk11.out (kept_trans Kk16.out (kept_trans Kk21.out (kept_trans Kk25.out (kept_trans Kk34.out (kept_trans Kk42.out (kept_trans Kk45.out (kept_trans Kk54.out (kept_trans Kk62.out (kept_trans Kk65.out Kk93.out))))))))))) (xlt_nil _)
                        clear hl97
                        clear hHeld
                        refine hK.out _ _ ?_ (fun hHeld => ?_)
                        · (try dsimp only)
                          exact seesN_kept _ (kept_trans Kk34.out (kept_trans Kk42.out (kept_trans Kk45.out (kept_trans Kk54.out (kept_trans Kk62.out (kept_trans Kk65.out (kept_trans Kk93.out Kk102.out)))))))
                        clear hK K
                        (try simp only [Act.put, List.setIfInBounds_toArray, List.set_cons_zero, List.set_cons_succ])
                        refine wpAnyH_ready (rs := [21]) (by kernel_rfl) (by simp) ?_
                        refine AllReadyH.cons (o := hetPointsr3_21) rfl (fun K hK => ?_) ?_
                        · unfold hetPointsr3_21
                          go_simp
                          refine (rType_any h (Par w V0.heap.size [] P) _ (.slice aha h.a.kids.length cha) (.slice ahb h.b.kids.length chb) (.slice ahx h.x.kids.length chx) (.slice ahy h.y.kids.length chy) (.slice ahh h.h.kids.length chh) ⟨Gh.out.1, Gh.out.2.1, Gh.out.2.2.1, Gh.out.2.2.2.1, Gh.out.2.2.2.2.1, Gh.out.2.2.2.2.2⟩ ⟨(HLha.out.later (kept_trans Kk11.out (kept_trans Kk16.out (kept_trans Kk21.out (kept_trans Kk25.out (kept_trans Kk34.out (kept_trans Kk42.out (kept_trans Kk45.out (kept_trans Kk54.out (kept_trans Kk62.out (kept_trans Kk65.out (kept_trans Kk93.out Kk102.out)))))))))))), (HLhb.out.later (kept_trans Kk11.out (kept_trans Kk16.out (kept_trans Kk21.out (kept_trans Kk25.out (kept_trans Kk34.out (kept_trans Kk42.out (kept_trans Kk45.out (kept_trans Kk54.out (kept_trans Kk62.out (kept_trans Kk65.out (kept_trans Kk93.out Kk102.out)))))))))))), (HLhx.out.later (kept_trans Kk11.out (kept_trans Kk16.out (kept_trans Kk21.out (kept_trans Kk25.out (kept_trans Kk34.out (kept_trans Kk42.out (kept_trans Kk45.out (kept_trans Kk54.out (kept_trans Kk62.out (kept_trans Kk65.out (kept_trans Kk93.out Kk102.out)))))))))))), (HLhy.out.later (kept_trans Kk11.out (kept_trans Kk16.out (kept_trans Kk21.out (kept_trans Kk25.out (kept_trans Kk34.out (kept_trans Kk42.out (kept_trans Kk45.out (kept_trans Kk54.out (kept_trans Kk62.out (kept_trans Kk65.out (kept_trans Kk93.out Kk102.out)))))))))))), (HLhh.out.later (kept_trans Kk11.out (kept_trans Kk16.out (kept_trans Kk21.out (kept_trans Kk25.out (kept_trans Kk34.out (kept_trans Kk42.out (kept_trans Kk45.out (kept_trans Kk54.out (kept_trans Kk62.out (kept_trans Kk65.out (kept_trans Kk93.out Kk102.out))))))))))))⟩).mono ?_
                          rw [HU101.out]
                          rintro e w103 ⟨s105, rfl, hl106, k104⟩
                          obtain ⟨a107, c108, S109, rfl, -⟩ := hl106.out
                          have Kk110 := Lib.hid k104
                          clear k104
                          have Hhl106 : Hid (LiesQ w103 (Par w V0.heap.size [] P) U101.kids _) := par_give hl106 (Below.size (kept_trans Kk11.out (kept_trans Kk16.out (kept_trans Kk21.out (kept_trans Kk25.out (kept_trans Kk34.out (kept_trans Kk42.out (kept_trans Kk45.out (kept_trans Kk54.out (kept_trans Kk62.out (kept_trans Kk65.out (kept_trans Kk93.out Kk102.out)))))))))))) (xlt_nil _)
                          clear hl106
                          clear hHeld
                          refine hK.out _ _ ?_ (fun hHeld => ?_)
                          · (try dsimp only)
                            exact seesN_kept _ (kept_trans Kk34.out (kept_trans Kk42.out (kept_trans Kk45.out (kept_trans Kk54.out (kept_trans Kk62.out (kept_trans Kk65.out (kept_trans Kk93.out (kept_trans Kk102.out Kk110.out))))))))
                          clear hK K
                          (try simp only [Act.put, List.setIfInBounds_toArray, List.set_cons_zero, List.set_cons_succ])
                          refine wpAnyH_ready (rs := [22]) (by kernel_rfl) (by simp) ?_
                          refine AllReadyH.cons (o := hetPointsr3_22) rfl (fun K hK => ?_) ?_
                          · unfold hetPointsr3_22
                            go_simp
                            refine (keepsame_eq U101 _ (.slice a98 U101.kids.length c99) (.slice a107 U101.kids.length c108) (Hhl97.out.later Kk110.out).lies Hhl106.out.lies).mono ?_
                            rintro e w111 ⟨rfl, k112⟩
                            have Kk113 := Lib.hid k112
                            clear k112
                            clear hHeld
                            refine hK.out _ _ ?_ (fun hHeld => ?_)
                            · (try dsimp only)
                              exact seesN_kept _ (kept_trans Kk34.out (kept_trans Kk42.out (kept_trans Kk45.out (kept_trans Kk54.out (kept_trans Kk62.out (kept_trans Kk65.out (kept_trans Kk93.out (kept_trans Kk102.out (kept_trans Kk110.out Kk113.out)))))))))
                            clear hK K
                            (try simp only [Act.put, List.setIfInBounds_toArray, List.set_cons_zero, List.set_cons_succ])
                            refine take_at 23 42 hetPointsr3_23 (v := ?_) (Or.inl ⟨by rfl, ?_⟩) ?_
                            rotate_left 1
                            · ((intro w hSw; (try dsimp only at hSw); unfold hetPointsr3_23; go_simp) <;> with_reducible rfl)
                            (try simp only [Act.put, List.setIfInBounds_toArray, List.set_cons_zero, List.set_cons_succ])
                            refine take_at 24 43 hetPointsr3_24 (v := ?_) (Or.inl ⟨by rfl, ?_⟩) ?_
                            rotate_left 1
                            · ((intro w hSw; (try dsimp only at hSw); unfold hetPointsr3_24; go_simp) <;> with_reducible rfl)
                            (try simp only [Act.put, List.setIfInBounds_toArray, List.set_cons_zero, List.set_cons_succ])
                            refine wpAnyH_ready (rs := [25]) (by kernel_rfl) (by simp) ?_
                            refine AllReadyH.cons (o := hetPointsr3_25) rfl (fun K hK => ?_) ?_
                            · unfold hetPointsr3_25
                              go_simp
                              refine (wakes23_any _).mono ?_
                              rintro e w114 ⟨rfl, k115⟩
                              have Kk116 := Lib.hid k115
                              clear k115
                              clear hHeld
                              refine hK.out _ _ ?_ (fun hHeld => ?_)
                              · (try dsimp only)
                                exact seesN_kept _ (kept_trans Kk34.out (kept_trans Kk42.out (kept_trans Kk45.out (kept_trans Kk54.out (kept_trans Kk62.out (kept_trans Kk65.out (kept_trans Kk93.out (kept_trans Kk102.out (kept_trans Kk110.out (kept_trans Kk113.out Kk116.out))))))))))
                              clear hK K
                              (try simp only [Act.put, List.setIfInBounds_toArray, List.set_cons_zero, List.set_cons_succ])
                              refine take_at 26 45 hetPointsr3_26 (v := ?_) (Or.inl ⟨by rfl, ?_⟩) ?_
                              rotate_left 1
                              · ((intro w hSw; (try dsimp only at hSw); unfold hetPointsr3_26; go_simp) <;> with_reducible rfl)
                              (try simp only [Act.put, List.setIfInBounds_toArray, List.set_cons_zero, List.set_cons_succ])
                              refine take_at 27 8 hetPointsr3_27 (v := ?_) (Or.inl ⟨by rfl, ?_⟩) ?_
                              rotate_left 1
                              · ((intro w hSw; (try dsimp only at hSw); unfold hetPointsr3_27; go_simp) <;> with_reducible rfl)
                              (try simp only [Act.put, List.setIfInBounds_toArray, List.set_cons_zero, List.set_cons_succ])
                              refine wpAnyH_done (by kernel_rfl) ?_ _
                              clear hHeld
                              have kvV0 : SeesN V0 V0.heap.size w114 := seesN_kept _ (kept_trans Kk11.out (kept_trans Kk16.out (kept_trans Kk21.out (kept_trans Kk25.out (kept_trans Kk34.out (kept_trans Kk42.out (kept_trans Kk45.out (kept_trans Kk54.out (kept_trans Kk62.out (kept_trans Kk65.out (kept_trans Kk93.out (kept_trans Kk102.out (kept_trans Kk110.out (kept_trans Kk113.out Kk116.out))))))))))))))
                              go_wp2
                              go_ret
                              exact ⟨rfl, (kept_trans Kk6.out (kept_trans Kk11.out (kept_trans Kk16.out (kept_trans Kk21.out (kept_trans Kk25.out (kept_trans Kk34.out (kept_trans Kk42.out (kept_trans Kk45.out (kept_trans Kk54.out (kept_trans Kk62.out (kept_trans Kk65.out (kept_trans Kk93.out (kept_trans Kk102.out (kept_trans Kk110.out (kept_trans Kk113.out Kk116.out)))))))))))))))⟩
                            exact AllReadyH.nil
                          exact AllReadyH.nil
                        exact AllReadyH.nil
                      exact AllReadyH.nil
                    exact AllReadyH.nil
                  exact AllReadyH.nil
                exact AllReadyH.nil
              exact AllReadyH.nil
            exact AllReadyH.nil
          exact AllReadyH.nil
        exact AllReadyH.nil
      | true =>
        have kvV0 : SeesN V0 V0.heap.size w17 := seesN_kept _ (kept_trans Kk11.out (kept_trans Kk16.out Kk21.out))
        go_wp2
        go_ret
        exact ⟨rfl, (kept_trans Kk6.out (kept_trans Kk11.out (kept_trans Kk16.out Kk21.out)))⟩
    | true =>
      have kvV0 : SeesN V0 V0.heap.size w12 := seesN_kept _ (kept_trans Kk11.out Kk16.out)
      go_wp2
      go_ret
      exact ⟨rfl, (kept_trans Kk6.out (kept_trans Kk11.out Kk16.out))⟩
  | true =>
    have kvV0 : SeesN V0 V0.heap.size w7 := seesN_kept _ Kk11.out
    go_wp2
    go_ret
    exact ⟨rfl, (kept_trans Kk6.out Kk11.out)⟩

end Go.Proofs.Ytkdceahmknhojaa

namespace Go.Proofs.Ytkdceahmknhojaa
open Go.ChangeShapes Go.WideShapes Go.ChangeAt Go.RowKit

theorem own : ownKnob Try.prog.godebug = none := by kernel_rfl
theorem cells_int : Try.prog.cellsOf 3 = 1 := by kernel_rfl
theorem cells_kids : Try.prog.cellsOf 30 = 1 := by kernel_rfl
theorem cells_term : Try.prog.cellsOf 32 = 5 := by kernel_rfl
theorem laidOut : laidOutB Try.prog = true := by kernel_rfl

instance instOpenTm : Inhabited (Tm × Value) := ⟨(.mk 0 0 0 0 [], .nilIface)⟩

theorem list5 {α : Type} {l : List α} (h : l.length = 5) : ∃ a b c d e, l = [a, b, c, d, e] := by
  match l, h with
  | [a, b, c, d, e], _ => exact ⟨a, b, c, d, e, rfl⟩

theorem wf_I64 {x : Int} (h : (Lit.int .i64 x).wf = true) : I64 x := by
  simp [Lit.wf] at h
  have hm : IntKind.i64.min = -9223372036854775808 := by decide
  rw [hm] at h
  exact h

set_option maxRecDepth 100000 in
theorem open_term {H : Type} {enc : TypeId × Value → H} {w : World} {base : Nat} {sp : Nat → Bool} {hd : Bool} : ∀ (fuel : Nat) (cs : List Value) (x : DataW H × List MemPlace),
    DataW.trod enc Try.prog w base sp hd fuel 32 cs = some x → ∃ (t : Tm) (s : Value), cs = [.int .i64 t.k, .int .i64 t.i, .int .i64 t.j, .int .i64 t.n, s] ∧ t.fine ∧ Lies w t.kids s := by
  intro fuel
  induction fuel using Nat.strongRecOn with
  | _ fuel ih =>
    intro cs x h
    obtain ⟨xs, n, rfl, rfl, hl, hlen, hf⟩ := DataW.trod_struct Try.underlying32 h
    rw [cells_term] at hl
    obtain ⟨v0, v1, v2, v3, v4, rfl⟩ := list5 hl
    obtain ⟨y0, y1, y2, y3, y4, rfl⟩ := list5 hlen
    have g0 := hf 0 _ rfl
    have g1 := hf 1 _ rfl
    have g2 := hf 2 _ rfl
    have g3 := hf 3 _ rfl
    have g4 := hf 4 _ rfl
    simp [cells_int, cells_kids] at g0 g1 g2 g3 g4
    obtain ⟨k, e0, -, w0⟩ := DataW.trod_int Try.underlying3 g0
    obtain ⟨i, e1, -, w1⟩ := DataW.trod_int Try.underlying3 g1
    obtain ⟨j, e2, -, w2⟩ := DataW.trod_int Try.underlying3 g2
    obtain ⟨m, e3, -, w3⟩ := DataW.trod_int Try.underlying3 g3
    simp at e0 e1 e2 e3
    subst e0 e1 e2 e3
    rcases DataW.trod_slice Try.underlying30 g4 with ⟨e4, -⟩ | ⟨a, len, cap, elems, rest, n', rfl, e4, -, hb, hlc, hm, hlen', hel, -, -⟩
    · simp at e4
      subst e4
      exact ⟨.mk k i j m [], _, rfl, ⟨wf_I64 w0, wf_I64 w1, wf_I64 w2, wf_I64 w3⟩, .mk [] none 0 (fun _ => .nilIface) (Nat.le_refl _) (by decide) (fun _ h => by cases h) (fun _ h => by cases h) (fun _ h => by cases h)⟩
    · simp at e4
      subst e4
      have key : ∀ i, i < len → ∃ p : Tm × Value, p.1.fine ∧ Lies w p.1.kids p.2 ∧ ∃ b o, a = ⟨b, o, none⟩ ∧ Node w b (o + i * 5) p.1 p.2 := by
        intro i hi
        have h1 := hel i hi
        rw [cells_term, List.getElem?_eq_getElem (by omega)] at h1
        obtain ⟨cs', h2, h3⟩ := Option.bind_eq_some_iff.1 h1
        obtain ⟨t, s, rfl, hfine, hlies⟩ := ih n' (by omega) _ _ h3
        obtain ⟨-, -, hcell⟩ := World.cells?_some h2
        have hs0 : a.spot = none := by
          have h1 := hel 0 (by omega)
          rw [cells_term, List.getElem?_eq_getElem (by omega)] at h1
          obtain ⟨cs0, h2, -⟩ := Option.bind_eq_some_iff.1 h1
          obtain ⟨-, hl0, hc0⟩ := World.cells?_some h2
          have c0 := hc0 0 (by omega)
          rw [List.getElem?_eq_getElem (by omega)] at c0
          simpa [Addr.add] using World.cell?_spot c0
        obtain ⟨b, o, spot⟩ := a
        simp only at hs0
        subst hs0
        refine ⟨(t, s), hfine, hlies, b, o, rfl, ?_⟩
        have hc : ∀ q, q < 5 → w.cell? ⟨b, o + i * 5 + q, none⟩ = [Value.int .i64 t.k, .int .i64 t.i, .int .i64 t.j, .int .i64 t.n, s][q]? := fun q hq => by
          have := hcell q hq
          rwa [add_plain, add_plain] at this
        exact ⟨hc 0 (by omega), hc 1 (by omega), hc 2 (by omega), hc 3 (by omega), hc 4 (by omega)⟩
      obtain ⟨f, hf'⟩ := Go.Deep.choose_lt (α := Tm × Value) (p := fun i p => p.1.fine ∧ Lies w p.1.kids p.2 ∧ ∃ b o, a = ⟨b, o, none⟩ ∧ Node w b (o + i * 5) p.1 p.2) key
      have hl5 : ((List.range len).map fun i => (f i).1).length = len := by simp
      refine ⟨.mk k i j m ((List.range len).map fun i => (f i).1), _, rfl, ⟨wf_I64 w0, wf_I64 w1, wf_I64 w2, wf_I64 w3⟩, ?_⟩
      have := Lies.mk (w := w) ((List.range len).map fun i => (f i).1) (some a) cap (fun i => (f i).2) (by simpa using hlc) hm
        (fun x hx => by
          obtain ⟨i, hi, rfl⟩ := List.mem_map.1 hx
          exact (hf' i (List.mem_range.1 hi)).1)
        (fun i hi => by
          obtain ⟨b, o, ha, hn⟩ := (hf' i (by simpa using hi)).2.2
          exact ⟨b, o, by rw [ha], by simpa using hn⟩)
        (fun i hi => by simpa using (hf' i (by simpa using hi)).2.1)
      rwa [hl5] at this
end Go.Proofs.Ytkdceahmknhojaa

namespace Go.Proofs.Ytkdceahmknhojaa
open Go.ChangeShapes Go.WideShapes Go.ChangeAt Go.RowKit

instance instOpenEn : Inhabited (En × Value) := ⟨(⟨.mk 0 0 0 0 [], 0⟩, .nilIface)⟩
end Go.Proofs.Ytkdceahmknhojaa

namespace Go.Proofs.Ytkdceahmknhojaa
open Go.ChangeShapes Go.WideShapes Go.ChangeAt Go.RowKit

set_option maxRecDepth 100000 in
theorem open_argTF {H : Type} {enc : TypeId × Value → H} {W : World} {r : Reach} {b0 base : Nat} {sp : Nat → Bool} {hd : Bool} {v : Value} {d : DataW H} {p : List MemPlace} (hv : Value.okWide Try.prog W r b0 32 v)
    (h : DataW.Trod enc Try.prog W base sp hd 32 v d p) : ∃ (t : Tm) (s : Value), Lies W t.kids s ∧ t.fine ∧ v = tv t s := by
  obtain ⟨cs, rfl, hsz⟩ := okWide_struct Try.underlying32 hv
  obtain ⟨fuel, hf⟩ := h
  obtain ⟨t, s, hcs, hft, hl⟩ := open_term fuel _ _ hf
  refine ⟨t, s, hl, hft, ?_⟩
  have : cs.toList = [.int .i64 t.k, .int .i64 t.i, .int .i64 t.j, .int .i64 t.n, s] := by simpa [Value.cells] using hcs
  rw [show cs = #[.int .i64 t.k, .int .i64 t.i, .int .i64 t.j, .int .i64 t.n, s] from by cases cs; simp_all]
end Go.Proofs.Ytkdceahmknhojaa

namespace Go.Proofs.Ytkdceahmknhojaa
open Go.ChangeShapes Go.WideShapes Go.ChangeAt Go.RowKit

theorem cells_het : Try.prog.cellsOf 45 = 26 := by kernel_rfl
theorem list26 {α : Type} {l : List α} (h : l.length = 26) : ∃ v0 v1 v2 v3 v4 v5 v6 v7 v8 v9 v10 v11 v12 v13 v14 v15 v16 v17 v18 v19 v20 v21 v22 v23 v24 v25, l = [v0, v1, v2, v3, v4, v5, v6, v7, v8, v9, v10, v11, v12, v13, v14, v15, v16, v17, v18, v19, v20, v21, v22, v23, v24, v25] := by
  match l, h with
  | [v0, v1, v2, v3, v4, v5, v6, v7, v8, v9, v10, v11, v12, v13, v14, v15, v16, v17, v18, v19, v20, v21, v22, v23, v24, v25], _ => exact ⟨v0, v1, v2, v3, v4, v5, v6, v7, v8, v9, v10, v11, v12, v13, v14, v15, v16, v17, v18, v19, v20, v21, v22, v23, v24, v25, rfl⟩
theorem flds6 {α : Type} {l : List α} (h : l.length = 6) : ∃ y0 y1 y2 y3 y4 y5, l = [y0, y1, y2, y3, y4, y5] := by
  match l, h with
  | [y0, y1, y2, y3, y4, y5], _ => exact ⟨y0, y1, y2, y3, y4, y5, rfl⟩
set_option maxRecDepth 100000 in
theorem open_het {H : Type} {enc : TypeId × Value → H} {w : World} {base : Nat} {sp : Nat → Bool} {hd : Bool} (fuel : Nat) (cs : List Value) (x : DataW H × List MemPlace)
    (h : DataW.trod enc Try.prog w base sp hd fuel 45 cs = some x) : ∃ (j : He) (sa sb sx sy sh : Value), cs = [.int .i64 j.i, .int .i64 j.a.k, .int .i64 j.a.i, .int .i64 j.a.j, .int .i64 j.a.n, sa, .int .i64 j.b.k, .int .i64 j.b.i, .int .i64 j.b.j, .int .i64 j.b.n, sb, .int .i64 j.x.k, .int .i64 j.x.i, .int .i64 j.x.j, .int .i64 j.x.n, sx, .int .i64 j.y.k, .int .i64 j.y.i, .int .i64 j.y.j, .int .i64 j.y.n, sy, .int .i64 j.h.k, .int .i64 j.h.i, .int .i64 j.h.j, .int .i64 j.h.n, sh] ∧ j.fine ∧ HLies w j sa sb sx sy sh := by
  obtain ⟨xs, n, rfl, rfl, hl, hlen, hf⟩ := DataW.trod_struct Try.underlying45 h
  rw [cells_het] at hl
  obtain ⟨v0, v1, v2, v3, v4, v5, v6, v7, v8, v9, v10, v11, v12, v13, v14, v15, v16, v17, v18, v19, v20, v21, v22, v23, v24, v25, rfl⟩ := list26 hl
  obtain ⟨y0, y1, y2, y3, y4, y5, rfl⟩ := flds6 hlen
  have g0 := hf 0 _ rfl
  have g1 := hf 1 _ rfl
  have g2 := hf 2 _ rfl
  have g3 := hf 3 _ rfl
  have g4 := hf 4 _ rfl
  have g5 := hf 5 _ rfl
  simp [cells_int, cells_term] at g0 g1 g2 g3 g4 g5
  obtain ⟨ii, ei, -, wi⟩ := DataW.trod_int Try.underlying3 g0
  simp at ei
  subst ei
  obtain ⟨ta, sa, hca, hfa, hla⟩ := open_term n _ _ g1
  simp at hca
  obtain ⟨rfl, rfl, rfl, rfl, rfl⟩ := hca
  obtain ⟨tb, sb, hcb, hfb, hlb⟩ := open_term n _ _ g2
  simp at hcb
  obtain ⟨rfl, rfl, rfl, rfl, rfl⟩ := hcb
  obtain ⟨tx, sx, hcx, hfx, hlx⟩ := open_term n _ _ g3
  simp at hcx
  obtain ⟨rfl, rfl, rfl, rfl, rfl⟩ := hcx
  obtain ⟨ty, sy, hcy, hfy, hly⟩ := open_term n _ _ g4
  simp at hcy
  obtain ⟨rfl, rfl, rfl, rfl, rfl⟩ := hcy
  obtain ⟨th, sh, hch, hfh, hlh⟩ := open_term n _ _ g5
  simp at hch
  obtain ⟨rfl, rfl, rfl, rfl, rfl⟩ := hch
  exact ⟨⟨ii, ta, tb, tx, ty, th⟩, _, _, _, _, _, rfl, ⟨wf_I64 wi, hfa, hfb, hfx, hfy, hfh⟩, hla, hlb, hlx, hly, hlh⟩
set_option maxRecDepth 100000 in
theorem open_argH {H : Type} {enc : TypeId × Value → H} {W : World} {r : Reach} {b0 base : Nat} {sp : Nat → Bool} {hd : Bool} {v : Value} {d : DataW H} {p : List MemPlace} (hv' : Value.okWide Try.prog W r b0 45 v)
    (h : DataW.Trod enc Try.prog W base sp hd 45 v d p) : ∃ (j : He) (sa sb sx sy sh : Value), HLies W j sa sb sx sy sh ∧ j.fine ∧ v = hv j sa sb sx sy sh := by
  obtain ⟨cs, rfl, hsz⟩ := okWide_struct Try.underlying45 hv'
  obtain ⟨fuel, hf⟩ := h
  obtain ⟨j, sa, sb, sx, sy, sh, hcs, hfj, hl⟩ := open_het fuel _ _ hf
  refine ⟨j, sa, sb, sx, sy, sh, hl, hfj, ?_⟩
  have : cs.toList = [.int .i64 j.i, .int .i64 j.a.k, .int .i64 j.a.i, .int .i64 j.a.j, .int .i64 j.a.n, sa, .int .i64 j.b.k, .int .i64 j.b.i, .int .i64 j.b.j, .int .i64 j.b.n, sb, .int .i64 j.x.k, .int .i64 j.x.i, .int .i64 j.x.j, .int .i64 j.x.n, sx, .int .i64 j.y.k, .int .i64 j.y.i, .int .i64 j.y.j, .int .i64 j.y.n, sy, .int .i64 j.h.k, .int .i64 j.h.i, .int .i64 j.h.j, .int .i64 j.h.n, sh] := by simpa [Value.cells] using hcs
  rw [show cs = #[.int .i64 j.i, .int .i64 j.a.k, .int .i64 j.a.i, .int .i64 j.a.j, .int .i64 j.a.n, sa, .int .i64 j.b.k, .int .i64 j.b.i, .int .i64 j.b.j, .int .i64 j.b.n, sb, .int .i64 j.x.k, .int .i64 j.x.i, .int .i64 j.x.j, .int .i64 j.x.n, sx, .int .i64 j.y.k, .int .i64 j.y.i, .int .i64 j.y.j, .int .i64 j.y.n, sy, .int .i64 j.h.k, .int .i64 j.h.i, .int .i64 j.h.j, .int .i64 j.h.n, sh] from by cases cs; simp_all]
end Go.Proofs.Ytkdceahmknhojaa

namespace Go.Proofs.Ytkdceahmknhojaa
open Go.ChangeShapes Go.WideShapes

def code (l : List Nat) : List Char := l.map Char.ofNat
def joinN : List (List Nat) → List Nat
  | [] => []
  | [a] => a
  | a :: b :: r => a ++ 32 :: joinN (b :: r)

theorem words_one : ∀ a : List Nat, (a.all fun n => Char.ofNat n != Char.ofNat 32) = true → wordsSigns (code a) = [code a]
  | [], _ => rfl
  | n :: a, h => by
    simp only [List.all_cons, Bool.and_eq_true, bne_iff_ne] at h
    have ih := words_one a h.2
    show wordsSigns (Char.ofNat n :: code a) = _
    rw [wordsSigns]
    · rw [ih]; rfl
    · exact h.1
theorem words_more : ∀ (a : List Nat) (r : List Char), (a.all fun n => Char.ofNat n != Char.ofNat 32) = true → wordsSigns (code a ++ Char.ofNat 32 :: r) = code a :: wordsSigns r
  | [], r, _ => by
    show wordsSigns (Char.ofNat 32 :: r) = _
    rw [show Char.ofNat 32 = _ from rfl, wordsSigns]; rfl
  | n :: a, r, h => by
    simp only [List.all_cons, Bool.and_eq_true, bne_iff_ne] at h
    have ih := words_more a r h.2
    show wordsSigns (Char.ofNat n :: (code a ++ Char.ofNat 32 :: r)) = _
    rw [wordsSigns]
    · rw [ih]; rfl
    · exact h.1
theorem words_join : ∀ ws : List (List Nat), ws ≠ [] → (ws.all fun w => w.all fun n => Char.ofNat n != Char.ofNat 32) = true → wordsSigns (code (joinN ws)) = ws.map code
  | [], h, _ => absurd rfl h
  | [a], _, h => by simp only [List.all_cons, List.all_nil, Bool.and_true] at h; exact words_one a h
  | a :: b :: r, _, h => by
    have h' := h
    rw [List.all_cons, Bool.and_eq_true] at h'
    have ih := words_join (b :: r) (by simp) h'.2
    show wordsSigns (code (a ++ 32 :: joinN (b :: r))) = _
    rw [show code (a ++ 32 :: joinN (b :: r)) = code a ++ Char.ofNat 32 :: code (joinN (b :: r)) from by simp [code], words_more a _ h'.1, ih]; rfl

def cutWords : List (List Nat) := [[104, 97, 114, 110, 101, 115, 115],
  [102, 52, 56, 51, 100, 56, 99, 49, 49, 97, 51, 102, 55, 56, 101, 50, 99, 54, 102, 50, 51, 49, 56, 54, 48, 102, 51, 98, 99, 101, 97, 56, 98, 48, 97, 101, 97, 49, 51, 98, 100, 54, 53, 52, 99, 48, 102, 54, 97, 101, 50, 57, 100, 97, 48, 97, 50, 55, 55, 50, 52, 56, 55, 49],
  [99, 117, 116],
  [97, 116],
  [116, 114, 97, 110, 115, 104, 105, 112, 47, 116, 114, 97, 110, 115, 104, 105, 112, 108, 97, 119, 49, 53, 46, 80, 114, 101, 109, 105, 115, 101, 69, 120, 97, 99, 116],
  [116, 114, 97, 110, 115, 104, 105, 112, 47, 116, 114, 97, 110, 115, 104, 105, 112, 108, 97, 119, 49, 53, 46, 82, 117, 108, 101, 82, 105, 103, 104, 116],
  [116, 114, 97, 110, 115, 104, 105, 112, 47, 116, 114, 97, 110, 115, 104, 105, 112, 108, 97, 119, 49, 53, 46, 82, 117, 108, 101, 84, 117, 114, 110, 101, 100],
  [116, 114, 97, 110, 115, 104, 105, 112, 47, 116, 114, 97, 110, 115, 104, 105, 112, 108, 97, 119, 49, 53, 46, 82, 117, 108, 101, 76, 101, 118, 101, 108, 115],
  [116, 114, 97, 110, 115, 104, 105, 112, 47, 116, 114, 97, 110, 115, 104, 105, 112, 108, 97, 119, 50, 51, 46, 72, 101, 116, 80, 111, 105, 110, 116, 115],
  [116, 114, 97, 110, 115, 104, 105, 112, 47, 116, 114, 97, 110, 115, 104, 105, 112, 108, 97, 119, 50, 51, 46, 72, 101, 116, 77, 97, 107, 101, 115],
  [116, 114, 97, 110, 115, 104, 105, 112, 47, 116, 114, 97, 110, 115, 104, 105, 112, 108, 97, 119, 50, 51, 46, 72, 101, 116, 84, 104, 101, 110],
  [116, 114, 97, 110, 115, 104, 105, 112, 47, 116, 114, 97, 110, 115, 104, 105, 112, 108, 97, 119, 50, 51, 46, 72, 101, 116, 69, 110, 100, 115],
  [116, 114, 97, 110, 115, 104, 105, 112, 47, 116, 114, 97, 110, 115, 104, 105, 112, 108, 97, 119, 50, 52, 46, 67, 111, 110, 103, 84, 121, 112, 101, 115],
  [116, 114, 97, 110, 115, 104, 105, 112, 47, 116, 114, 97, 110, 115, 104, 105, 112, 108, 97, 119, 50, 52, 46, 67, 111, 110, 103, 67, 97, 108, 108, 115],
  [116, 114, 97, 110, 115, 104, 105, 112, 47, 116, 114, 97, 110, 115, 104, 105, 112, 108, 97, 119, 50, 52, 46, 67, 111, 110, 103, 69, 113, 115]]

set_option maxRecDepth 100000 in
theorem cut_words : wordsSigns Try.prog.initOrder.toList = cutWords.map code := by
  have h : Try.prog.initOrder.toList = code (joinN cutWords) := by
    show (String.ofList (code (joinN cutWords))).toList = _
    exact String.toList_ofList
  rw [h]
  exact words_join cutWords (by simp [cutWords]) (by decide +kernel)

theorem cut_behind : behindMainWord (cutWords.map code) = code [99, 117, 116] :: cutWords.tail.tail.tail.map code := by kernel_rfl
theorem cut_lifts : stripLifts liftWords (code [99, 117, 116] :: cutWords.tail.tail.tail.map code) = ([], code [99, 117, 116] :: cutWords.tail.tail.tail.map code) := by kernel_rfl
theorem cut1 : (code [99, 117, 116] == "gc".toList) = false := by kernel_rfl
theorem cut2 : (code [99, 117, 116] == "spec".toList) = false := by kernel_rfl
theorem cut3 : (code [99, 117, 116] == "cut".toList) = true := by kernel_rfl
theorem cut_all : behindMainWord (wordsSigns Try.prog.initOrder.toList) = code [99, 117, 116] :: cutWords.tail.tail.tail.map code := by rw [cut_words, cut_behind]
theorem make_of (P : Program) {c : List Char} {rest : List (List Char)} (h : behindMainWord (wordsSigns P.initOrder.toList) = c :: rest) (h1 : (c == "gc".toList) = false) (h2 : (c == "spec".toList) = false) (h3 : (c == "cut".toList) = true) : P.make = some .cut := by
  unfold Program.make; rw [h]
  simp only [h1, h2, h3, Bool.or_self, Bool.false_eq_true, if_false, Bool.true_or, if_true]
theorem mayEnter_of (P : Program) {c : List Char} {rest : List (List Char)} (h : behindMainWord (wordsSigns P.initOrder.toList) = c :: rest) (h3 : ((stripLifts liftWords (c :: rest)).2.head? == some "cut".toList) = true)
    (h4 : (stripLifts liftWords (c :: rest)).1 = []) (h5 : P.laysLater = false) (h6 : P.bearsReflect = false) (h7 : P.doorFits [] = true) : P.mayEnter = true := by
  unfold Program.mayEnter; rw [h]
  refine Bool.or_eq_true_iff.2 (Or.inr ?_)
  rw [h3, h4, h5, h6, h7]; rfl
theorem row_make : Try.prog.make = some .cut := make_of Try.prog cut_all cut1 cut2 cut3
theorem row_mayEnter : Try.prog.mayEnter = true := mayEnter_of Try.prog cut_all (by rw [cut_lifts]; kernel_rfl) (by rw [cut_lifts]) (by kernel_rfl) (by kernel_rfl) (by kernel_rfl)
theorem row_lifts : Try.prog.liftsFinal = false := by unfold Program.liftsFinal Program.headLifts; rw [cut_all, cut_lifts]; kernel_rfl
end Go.Proofs.Ytkdceahmknhojaa

namespace Go.Proofs.Ytkdceahmknhojaa.lawHetPoints
open Go.ChangeShapes Go.WideShapes Go.ChangeAt Go.RowKit

set_option maxRecDepth 100000 in
theorem lifted (os : Os) (started : os.Started) (H : Type) (enc : TypeId × Value → H) :
    ReturnsInHanded {} Try.checked os 7 .any (Rows.hetPointsSpec.pre6 enc Try.prog Try.f7 Rows.hetPointsRow.domain false) (Rows.hetPointsSpec.post enc Try.prog Try.f7 false true false false) := by
  refine returnsInHanded_of_change (C := Try.checked) own started (by kernel_rfl) Try.func7
    (ChangeSpec.witness6 (enc := enc) (C := Try.checked) false ⟨#[], #[.int .i64 0, .agg #[.int .i64 0, .int .i64 0, .int .i64 0, .int .i64 0, .slice none 0 0], .agg #[.int .i64 0, .int .i64 0, .int .i64 0, .int .i64 0, .slice none 0 0], .agg #[.int .i64 0, .int .i64 0, .int .i64 0, .int .i64 0, .int .i64 0, .slice none 0 0, .int .i64 0, .int .i64 0, .int .i64 0, .int .i64 0, .slice none 0 0, .int .i64 0, .int .i64 0, .int .i64 0, .int .i64 0, .slice none 0 0, .int .i64 0, .int .i64 0, .int .i64 0, .int .i64 0, .slice none 0 0, .int .i64 0, .int .i64 0, .int .i64 0, .int .i64 0, .slice none 0 0]], []⟩ 8 (by kernel_rfl) (by kernel_rfl) (by kernel_rfl) (by kernel_rfl)) ?_
  intro W base args ds gs before hval0 hW hcnd _
  have hval : ∀ (j : Nat) t v, Try.f7.params[j]? = some t → args[j]? = some v → Value.okWide Try.prog W .any base t v := hval0
  have hW' := hW
  obtain ⟨p, q, hA0, hV, rfl, hfz, hnd⟩ := hW
  have hA : DataW.TrodAll enc Try.prog W 0 (fun _ => true) true Try.f7.params.toList args.toList ds p := hA0
  rw [Try.params7] at hA hval
  obtain ⟨v0, vs0, d0, ds0, p0, q0, hargs0, rfl, rfl, h0, r0⟩ := trodAll_cons hA
  obtain ⟨v1, vs1, d1, ds1, p1, q1, hargs1, rfl, rfl, h1, r1⟩ := trodAll_cons r0
  obtain ⟨v2, vs2, d2, ds2, p2, q2, hargs2, rfl, rfl, h2, r2⟩ := trodAll_cons r1
  obtain ⟨v3, vs3, d3, ds3, p3, q3, hargs3, rfl, rfl, h3, r3⟩ := trodAll_cons r2
  obtain ⟨rfl, rfl, rfl⟩ := trodAll_nil r3
  obtain rfl : args = #[v0, v1, v2, v3] := by cases args; simp_all
  obtain ⟨rfl, rfl⟩ := trodVars_none hV
  obtain ⟨a0, rfl, rfl, rfl, w0⟩ := open_int Try.underlying3 (hval 0 3 v0 rfl rfl) h0
  have h1k := h1
  have hlt1 : ∀ x ∈ p1, x.block < W.heap.size := fun x hx => by have := hW'.lt x (by simp [hx]); simpa using this
  obtain ⟨t1, s1, hl1, hf1, hv1⟩ := open_argTF (hval 1 32 v1 rfl rfl) h1
  subst hv1
  have h2k := h2
  have hlt2 : ∀ x ∈ p2, x.block < W.heap.size := fun x hx => by have := hW'.lt x (by simp [hx]); simpa using this
  obtain ⟨t2, s2, hl2, hf2, hv2⟩ := open_argTF (hval 2 32 v2 rfl rfl) h2
  subst hv2
  have h3k := h3
  have hlt3 : ∀ x ∈ p3, x.block < W.heap.size := fun x hx => by have := hW'.lt x (by simp [hx]); simpa using this
  obtain ⟨t3, sa3, sb3, sx3, sy3, sh3, hl3, hf3, hv3⟩ := open_argH (hval 3 45 v3 rfl rfl) h3
  subst hv3
  clear hA0 hval0
  simp only [List.append_nil] at hW'
  refine (hetPoints_any a0 t1 t2 t3 (fun b => b < W.heap.size) W s1 s2 sa3 sb3 sx3 sy3 sh3 (wf_I64 w0) hf1 hl1.q hf2 hl2.q hf3 hl3.q).mono fun e W' ⟨he, hb⟩ => ?_
  subst he
  exact ⟨_, rfl, _, _, _, [], _, [], hW', trodAll_cons_mk (shut_bool Try.underlying4 _) trodAll_mk0, (trodAll_cons_mk (shut_int Try.underlying3 w0) (trodAll_cons_mk (Below.trod laidOut (by kernel_rfl) (of_decide_eq_true (by kernel_rfl)) h1k hb hlt1) (trodAll_cons_mk (Below.trod laidOut (by kernel_rfl) (of_decide_eq_true (by kernel_rfl)) h2k hb hlt2) (trodAll_cons_mk (Below.trod laidOut (by kernel_rfl) (of_decide_eq_true (by kernel_rfl)) h3k hb hlt3) trodAll_mk0)))), rfl, hb.frame _, fun h => by cases h⟩

theorem closed : joinedFacts Try.prog 7 Try.f7 Rows.hetPointsSpec Rows.hetPointsRow = true := by
  unfold joinedFacts
  rw [row_mayEnter, row_lifts, row_make]
  kernel_rfl

theorem proved : Rows.HetPointsSaid :=
  OpenClaim.holds_of_wide 7 Try.f7 rfl rfl rfl rfl rfl rfl rfl ⟨rfl, rfl, rfl, rfl, rfl⟩ rfl rfl rfl rfl rfl (by kernel_rfl) Try.func7 closed
    (of_decide_eq_true (by kernel_rfl)) (by unfold Func.isWrapper; first | (rw [if_pos (by decide +kernel)]; kernel_rfl) | (rw [if_neg (by decide +kernel)]; exact ⟨rfl, rfl⟩))
    (fun os started H enc _ => lifted os started H enc)
#print axioms proved
end Go.Proofs.Ytkdceahmknhojaa.lawHetPoints
