/-
  CongTypes holds: for every input the call returns true, and the arguments read as before. No condition.
-/
import Derived.Test.YtkdceahmknhojaaRows
import Derived.WalkKit
import Derived.Lib.Hide
import Derived.KernelRfl
import Derived.Deep.RegionWith
import Derived.Deep.RegionHeld3
import Derived.Deep.AppendLies
import Derived.Laws.Rows
import Derived.Laws.IdiomCopy
import Derived.Deep.Slices
import Derived.Lib.QuietBelow
import Derived.StillTailTactics
import Derived.BigQuiet
import Derived.IntWalk
import Derived.OwnWalk
import Derived.Deep.RegionLaw
import Derived.Deep.QuietTactic
import Derived.Deep.LoopGhost
import Derived.Deep.DeepCutAuto
import Derived.Deep.MidRow
import Derived.OrdersHeld
import Derived.Laws.Tables
import Derived.Laws.CopyOwn
import Derived.Laws.CopyRow
import Derived.Deep.Upon
import Derived.ArgAppend
import Derived.Deep.RegionHeld
import Derived.Lib.MinMax
import Derived.ProofKit
import Derived.OpenShut
import Derived.Carry
import Derived.ChangeSlices
import Derived.JoinedOf
import Derived.Test.YtkdceahmknhojaaCongTypesQ7
namespace Go.Proofs.Ytkdceahmknhojaa
open Go.RowKit

end Go.Proofs.Ytkdceahmknhojaa

namespace Go.Proofs.Ytkdceahmknhojaa
open Go.RowKit

def congTypesr4_0 : Oper := { dst := some 21, op := Go.Op.load 72 (Go.Operand.tmp 9), type := 72, pos := "law.go:63", after := #[], guard := none }
def congTypesr4_1 : Oper := { dst := some 22, op := Go.Op.call { callee := Go.Callee.value (Go.Operand.func 55), args := #[Go.Operand.tmp 21], argTypes := #[72] }, type := 32, pos := "law.go:63", after := #[{ on := 0, ground := Go.Ground.data }], guard := none }
def congTypesr4_2 : Oper := { dst := some 23, op := Go.Op.load 69 (Go.Operand.tmp 4), type := 69, pos := "law.go:63", after := #[], guard := none }
def congTypesr4_3 : Oper := { dst := some 24, op := Go.Op.call { callee := Go.Callee.value (Go.Operand.func 56), args := #[Go.Operand.tmp 23], argTypes := #[69] }, type := 32, pos := "law.go:63", after := #[{ on := 2, ground := Go.Ground.data }, { on := 1, ground := Go.Ground.chain }], guard := none }
def congTypesr4_4 : Oper := { dst := some 25, op := Go.Op.call { callee := Go.Callee.value (Go.Operand.func 25), args := #[Go.Operand.tmp 22, Go.Operand.tmp 24], argTypes := #[32, 32] }, type := 4, pos := "law.go:63", after := #[{ on := 1, ground := Go.Ground.data }, { on := 3, ground := Go.Ground.data }, { on := 3, ground := Go.Ground.chain }], guard := none }
def congTypesr4_5 : Oper := { dst := some 26, op := Go.Op.move (Go.Operand.tmp 25), type := 4, pos := "law.go:63", after := #[{ on := 4, ground := Go.Ground.data }, { on := 4, ground := Go.Ground.chain }], guard := none }
def congTypesr4_6 : Oper := { dst := some 27, op := Go.Op.load 72 (Go.Operand.tmp 9), type := 72, pos := "law.go:63", after := #[{ on := 5, ground := Go.Ground.guard }], guard := some (5, true) }
def congTypesr4_7 : Oper := { dst := some 28, op := Go.Op.call { callee := Go.Callee.value (Go.Operand.func 57), args := #[Go.Operand.tmp 27], argTypes := #[72] }, type := 32, pos := "law.go:63", after := #[{ on := 6, ground := Go.Ground.data }, { on := 5, ground := Go.Ground.chain }, { on := 5, ground := Go.Ground.guard }], guard := some (5, true) }
def congTypesr4_8 : Oper := { dst := some 29, op := Go.Op.load 69 (Go.Operand.tmp 4), type := 69, pos := "law.go:63", after := #[{ on := 5, ground := Go.Ground.guard }], guard := some (5, true) }
def congTypesr4_9 : Oper := { dst := some 30, op := Go.Op.call { callee := Go.Callee.value (Go.Operand.func 58), args := #[Go.Operand.tmp 29], argTypes := #[69] }, type := 32, pos := "law.go:63", after := #[{ on := 8, ground := Go.Ground.data }, { on := 7, ground := Go.Ground.chain }, { on := 5, ground := Go.Ground.guard }], guard := some (5, true) }
def congTypesr4_10 : Oper := { dst := some 31, op := Go.Op.call { callee := Go.Callee.value (Go.Operand.func 25), args := #[Go.Operand.tmp 28, Go.Operand.tmp 30], argTypes := #[32, 32] }, type := 4, pos := "law.go:63", after := #[{ on := 7, ground := Go.Ground.data }, { on := 9, ground := Go.Ground.data }, { on := 9, ground := Go.Ground.chain }, { on := 5, ground := Go.Ground.guard }], guard := some (5, true) }
def congTypesr4_11 : Oper := { dst := some 32, op := Go.Op.pick (Go.Operand.tmp 26) (Go.Operand.tmp 31) (Go.Operand.const (Go.Value.bool false)), type := 4, pos := "law.go:63", after := #[{ on := 5, ground := Go.Ground.data }, { on := 10, ground := Go.Ground.data }], guard := none }
def congTypesr4_12 : Oper := { dst := some 33, op := Go.Op.move (Go.Operand.tmp 32), type := 4, pos := "law.go:63", after := #[{ on := 11, ground := Go.Ground.data }, { on := 10, ground := Go.Ground.chain }], guard := none }
def congTypesr4_13 : Oper := { dst := some 34, op := Go.Op.load 72 (Go.Operand.tmp 9), type := 72, pos := "law.go:63", after := #[{ on := 12, ground := Go.Ground.guard }], guard := some (12, true) }
def congTypesr4_14 : Oper := { dst := some 35, op := Go.Op.load 32 (Go.Operand.tmp 5), type := 32, pos := "law.go:63", after := #[{ on := 12, ground := Go.Ground.guard }], guard := some (12, true) }
def congTypesr4_15 : Oper := { dst := some 36, op := Go.Op.load 32 (Go.Operand.tmp 6), type := 32, pos := "law.go:63", after := #[{ on := 12, ground := Go.Ground.guard }], guard := some (12, true) }
def congTypesr4_16 : Oper := { dst := some 37, op := Go.Op.load 32 (Go.Operand.tmp 7), type := 32, pos := "law.go:63", after := #[{ on := 12, ground := Go.Ground.guard }], guard := some (12, true) }
def congTypesr4_17 : Oper := { dst := some 38, op := Go.Op.call { callee := Go.Callee.value (Go.Operand.func 60), args := #[Go.Operand.tmp 34, Go.Operand.tmp 35, Go.Operand.tmp 36, Go.Operand.tmp 37], argTypes := #[72, 32, 32, 32] }, type := 51, pos := "law.go:63", after := #[{ on := 13, ground := Go.Ground.data }, { on := 14, ground := Go.Ground.data }, { on := 15, ground := Go.Ground.data }, { on := 16, ground := Go.Ground.data }, { on := 12, ground := Go.Ground.chain }, { on := 12, ground := Go.Ground.guard }], guard := some (12, true) }
def congTypesr4_18 : Oper := { dst := some 39, op := Go.Op.load 69 (Go.Operand.tmp 4), type := 69, pos := "law.go:63", after := #[{ on := 12, ground := Go.Ground.guard }], guard := some (12, true) }
def congTypesr4_19 : Oper := { dst := some 40, op := Go.Op.load 32 (Go.Operand.tmp 5), type := 32, pos := "law.go:63", after := #[{ on := 12, ground := Go.Ground.guard }], guard := some (12, true) }
def congTypesr4_20 : Oper := { dst := some 41, op := Go.Op.load 32 (Go.Operand.tmp 6), type := 32, pos := "law.go:63", after := #[{ on := 12, ground := Go.Ground.guard }], guard := some (12, true) }
def congTypesr4_21 : Oper := { dst := some 42, op := Go.Op.load 32 (Go.Operand.tmp 7), type := 32, pos := "law.go:63", after := #[{ on := 12, ground := Go.Ground.guard }], guard := some (12, true) }
def congTypesr4_22 : Oper := { dst := some 43, op := Go.Op.call { callee := Go.Callee.value (Go.Operand.func 61), args := #[Go.Operand.tmp 39, Go.Operand.tmp 40, Go.Operand.tmp 41, Go.Operand.tmp 42], argTypes := #[69, 32, 32, 32] }, type := 45, pos := "law.go:63", after := #[{ on := 18, ground := Go.Ground.data }, { on := 19, ground := Go.Ground.data }, { on := 20, ground := Go.Ground.data }, { on := 21, ground := Go.Ground.data }, { on := 17, ground := Go.Ground.chain }, { on := 12, ground := Go.Ground.guard }], guard := some (12, true) }
def congTypesr4_23 : Oper := { dst := some 44, op := Go.Op.call { callee := Go.Callee.value (Go.Operand.func 59), args := #[Go.Operand.tmp 38, Go.Operand.tmp 43], argTypes := #[51, 45] }, type := 4, pos := "law.go:63", after := #[{ on := 17, ground := Go.Ground.data }, { on := 22, ground := Go.Ground.data }, { on := 22, ground := Go.Ground.chain }, { on := 12, ground := Go.Ground.guard }], guard := some (12, true) }
def congTypesr4_24 : Oper := { dst := some 45, op := Go.Op.pick (Go.Operand.tmp 33) (Go.Operand.tmp 44) (Go.Operand.const (Go.Value.bool false)), type := 4, pos := "law.go:63", after := #[{ on := 12, ground := Go.Ground.data }, { on := 23, ground := Go.Ground.data }], guard := none }
def congTypesr4_25 : Oper := { dst := some 46, op := Go.Op.move (Go.Operand.tmp 45), type := 4, pos := "law.go:63", after := #[{ on := 24, ground := Go.Ground.data }, { on := 23, ground := Go.Ground.chain }], guard := none }
def congTypesr4_26 : Oper := { dst := some 47, op := Go.Op.call { callee := Go.Callee.value (Go.Operand.func 62), args := #[], argTypes := #[] }, type := 4, pos := "law.go:63", after := #[{ on := 25, ground := Go.Ground.chain }, { on := 25, ground := Go.Ground.guard }], guard := some (25, true) }
def congTypesr4_27 : Oper := { dst := some 48, op := Go.Op.pick (Go.Operand.tmp 46) (Go.Operand.tmp 47) (Go.Operand.const (Go.Value.bool false)), type := 4, pos := "law.go:63", after := #[{ on := 25, ground := Go.Ground.data }, { on := 26, ground := Go.Ground.data }], guard := none }
def congTypesr4_28 : Oper := { dst := some 8, op := Go.Op.assign (Go.Operand.tmp 48), type := 4, pos := "law.go:63", after := #[{ on := 27, ground := Go.Ground.data }, { on := 26, ground := Go.Ground.chain }, { on := 0, ground := Go.Ground.phase }, { on := 1, ground := Go.Ground.phase }, { on := 2, ground := Go.Ground.phase }, { on := 3, ground := Go.Ground.phase }, { on := 4, ground := Go.Ground.phase }, { on := 5, ground := Go.Ground.phase }, { on := 6, ground := Go.Ground.phase }, { on := 7, ground := Go.Ground.phase }, { on := 8, ground := Go.Ground.phase }, { on := 9, ground := Go.Ground.phase }, { on := 10, ground := Go.Ground.phase }, { on := 11, ground := Go.Ground.phase }, { on := 12, ground := Go.Ground.phase }, { on := 13, ground := Go.Ground.phase }, { on := 14, ground := Go.Ground.phase }, { on := 15, ground := Go.Ground.phase }, { on := 16, ground := Go.Ground.phase }, { on := 17, ground := Go.Ground.phase }, { on := 18, ground := Go.Ground.phase }, { on := 19, ground := Go.Ground.phase }, { on := 20, ground := Go.Ground.phase }, { on := 21, ground := Go.Ground.phase }, { on := 22, ground := Go.Ground.phase }, { on := 23, ground := Go.Ground.phase }, { on := 24, ground := Go.Ground.phase }, { on := 25, ground := Go.Ground.phase }, { on := 26, ground := Go.Ground.phase }, { on := 27, ground := Go.Ground.phase }], guard := none }
set_option maxRecDepth 20000 in
set_option maxHeartbeats 4000000 in
theorem congTypes_any (x : Tm) (y : Tm) (z : Tm) (g : Fm) (P : Nat → Prop) (w : World) (sga : Value) (sgc : Value) (sgb : Value) (sgd : Value) (sge : Value) (sgf : Value) (sx : Value) (sy : Value) (sz : Value) (hfg : g.fine) (hlg : FQ w P g sga sgc sgb sgd sge sgf) (hfx : x.fine) (hlx : LiesQ w P x.kids sx) (hfy : y.fine) (hly : LiesQ w P y.kids sy) (hfz : z.fine) (hlz : LiesQ w P z.kids sz) : Calls Try.prog 11 #[fv g sga sgc sgb sgd sge sgf, tv x sx, tv y sy, tv z sz] w fun e w' => e = .returned (.bool true) ∧ Kept w w' := by
  have Gg := Lib.hid hfg
  clear hfg
  obtain ⟨hlga, hlgc, hlgb, hlgd, hlge, hlgf⟩ := hlg
  obtain ⟨aga, cga, Sga, rfl, -⟩ := hlga.out
  obtain ⟨agc, cgc, Sgc, rfl, -⟩ := hlgc.out
  obtain ⟨agb, cgb, Sgb, rfl, -⟩ := hlgb.out
  obtain ⟨agd, cgd, Sgd, rfl, -⟩ := hlgd.out
  obtain ⟨age, cge, Sge, rfl, -⟩ := hlge.out
  obtain ⟨agf, cgf, Sgf, rfl, -⟩ := hlgf.out
  have Gx := Lib.hid hfx
  clear hfx
  obtain ⟨ax, cx, Sx, rfl, -⟩ := hlx.out
  have Gy := Lib.hid hfy
  clear hfy
  obtain ⟨ay, cy, Sy, rfl, -⟩ := hly.out
  have Gz := Lib.hid hfz
  clear hfz
  obtain ⟨az, cz, Sz, rfl, -⟩ := hlz.out
  obtain ⟨du, hu1, hu2⟩ := under_term
  obtain ⟨dg, dg1, dg2⟩ := under_of 72 (by kernel_rfl)
  obtain ⟨dq, dq1, dq2⟩ := under_of 69 (by kernel_rfl)
  unfold fv
  unfold tv
  go_enter Try.func11, Try.ntmps11
  go_upto_region 1 with fail
  refine at_code (fun V0 hV0 => ?_)
  obtain ⟨k5, x1, x2, x3, x4, z6⟩ := alloc4 hV0
  have Kk7 := Lib.hid k5
  clear k5
  have Hx1 := Lib.hid x1
  have Hx2 := Lib.hid x2
  have Hx3 := Lib.hid x3
  have Hx4 := Lib.hid x4
  have Z0 := Lib.hid z6
  clear z6 x1 x2 x3 x4 hV0
  have HLga : Hid (LiesQ V0 (Par w V0.heap.size [] P) g.a.kids _) := (par_in _ _ hlga).later Kk7.out
  clear hlga
  have HLgc : Hid (LiesQ V0 (Par w V0.heap.size [] P) g.c.kids _) := (par_in _ _ hlgc).later Kk7.out
  clear hlgc
  have HLgb : Hid (LiesQ V0 (Par w V0.heap.size [] P) g.b.kids _) := (par_in _ _ hlgb).later Kk7.out
  clear hlgb
  have HLgd : Hid (LiesQ V0 (Par w V0.heap.size [] P) g.d.kids _) := (par_in _ _ hlgd).later Kk7.out
  clear hlgd
  have HLge : Hid (LiesQ V0 (Par w V0.heap.size [] P) g.e.kids _) := (par_in _ _ hlge).later Kk7.out
  clear hlge
  have HLgf : Hid (LiesQ V0 (Par w V0.heap.size [] P) g.f.kids _) := (par_in _ _ hlgf).later Kk7.out
  clear hlgf
  have HLx : Hid (LiesQ V0 (Par w V0.heap.size [] P) x.kids _) := (par_in _ _ hlx).later Kk7.out
  clear hlx
  have HLy : Hid (LiesQ V0 (Par w V0.heap.size [] P) y.kids _) := (par_in _ _ hly).later Kk7.out
  clear hly
  have HLz : Hid (LiesQ V0 (Par w V0.heap.size [] P) z.kids _) := (par_in _ _ hlz).later Kk7.out
  clear hlz
  have kvV0 : SeesN V0 V0.heap.size V0 := seesN_kept _ (kept_refl _)
  go_wp2_with (refine stop_load 69 (.tmp 4) rfl ?_)
  intro _
  refine wpList_load_part (w.heap.size) 0 69 (.tmp 4) #[.int .i64 g.i, .int .i64 g.j, .int .i64 g.a.k, .int .i64 g.a.i, .int .i64 g.a.j, .int .i64 g.a.n, (.slice aga g.a.kids.length cga), .int .i64 g.c.k, .int .i64 g.c.i, .int .i64 g.c.j, .int .i64 g.c.n, (.slice agc g.c.kids.length cgc), .int .i64 g.b.k, .int .i64 g.b.i, .int .i64 g.b.j, .int .i64 g.b.n, (.slice agb g.b.kids.length cgb), .int .i64 g.d.k, .int .i64 g.d.i, .int .i64 g.d.j, .int .i64 g.d.n, (.slice agd g.d.kids.length cgd), .int .i64 g.e.k, .int .i64 g.e.i, .int .i64 g.e.j, .int .i64 g.e.n, (.slice age g.e.kids.length cge), .int .i64 g.f.k, .int .i64 g.f.i, .int .i64 g.f.j, .int .i64 g.f.n, (.slice agf g.f.kids.length cgf)] dq Hx1.out (by rfl) rfl (by rfl) (by rfl) dq1 (by cases dq <;> first | rfl | exact dq2) (by kernel_rfl) ?_
  go_wp2_with fail
  clear kvV0
  refine (lheavy0_any g (Par w V0.heap.size [] P) _ (.slice aga g.a.kids.length cga) (.slice agc g.c.kids.length cgc) (.slice agb g.b.kids.length cgb) (.slice agd g.d.kids.length cgd) (.slice age g.e.kids.length cge) (.slice agf g.f.kids.length cgf) (show Fm.fine g from ⟨Gg.out.1, Gg.out.2.1, Gg.out.2.2.1, Gg.out.2.2.2.1, Gg.out.2.2.2.2.1, Gg.out.2.2.2.2.2.1, Gg.out.2.2.2.2.2.2.1, Gg.out.2.2.2.2.2.2.2⟩) ⟨HLga.out, HLgc.out, HLgb.out, HLgd.out, HLge.out, HLgf.out⟩).mono ?_
  rintro e w8 ⟨gb10, rfl, hg11, k9⟩
  have Hhg11 := Lib.hid hg11
  clear hg11
  have Kk12 := Lib.hid k9
  clear k9
  cases gb10 with
  | false =>
    have HIhg11 := Lib.hid (Hhg11.out rfl)
    have kvV0 : SeesN V0 V0.heap.size w8 := seesN_kept _ Kk12.out
    go_wp2_with (refine stop_load 32 (.tmp 5) rfl ?_)
    intro _
    refine wpList_load_part (w.heap.size + 1) 0 32 (.tmp 5) #[.int .i64 x.k, .int .i64 x.i, .int .i64 x.j, .int .i64 x.n, (.slice ax x.kids.length cx)] du (blk_at Hx2.out Kk12.out) (by rfl) rfl (by rfl) (by rfl) hu1 (by cases du <;> first | rfl | exact hu2) size_term ?_
    go_wp2_with (refine stop_load 32 (.tmp 6) rfl ?_)
    intro _
    refine wpList_load_part (w.heap.size + 2) 0 32 (.tmp 6) #[.int .i64 y.k, .int .i64 y.i, .int .i64 y.j, .int .i64 y.n, (.slice ay y.kids.length cy)] du (blk_at Hx3.out Kk12.out) (by rfl) rfl (by rfl) (by rfl) hu1 (by cases du <;> first | rfl | exact hu2) size_term ?_
    go_wp2_with (refine stop_load 32 (.tmp 7) rfl ?_)
    intro _
    refine wpList_load_part (w.heap.size + 3) 0 32 (.tmp 7) #[.int .i64 z.k, .int .i64 z.i, .int .i64 z.j, .int .i64 z.n, (.slice az z.kids.length cz)] du (blk_at Hx4.out Kk12.out) (by rfl) rfl (by rfl) (by rfl) hu1 (by cases du <;> first | rfl | exact hu2) size_term ?_
    go_wp2_with fail
    refine at_world (fun W14 hW14 => ?_)
    clear kvV0
    obtain ⟨k16, x15, z17⟩ := alloc1 hW14
    have Kk18 := Lib.hid k16
    clear k16
    have Hx15 := Lib.hid x15
    have Hz17 := Lib.hid z17
    clear x15 z17 hW14
    have kq20 := (kept_trans Kk12.out Kk18.out)
    have HR19 := Lib.hid (q_row3 Hx15.out Gx.out (HLx.out.later kq20) Gy.out (HLy.out.later kq20) Gz.out (HLz.out.later kq20) (par_new (Below.size Kk12.out) (xlt_nil _) (Nat.le_refl _)))
    clear kq20
    refine (greats9_any [x, y, z] 120 (by decide) _ _ HR19.out.lies).mono ?_
    rintro e w21 ⟨gb23, rfl, hg24, k22⟩
    have Hhg24 := Lib.hid hg24
    clear hg24
    have Kk25 := Lib.hid k22
    clear k22
    cases gb23 with
    | false =>
      have HIhg24 := Lib.hid (Hhg24.out rfl)
      have kvV0 : SeesN V0 V0.heap.size w21 := seesN_kept _ (kept_trans Kk12.out (kept_trans Kk18.out Kk25.out))
      go_wp2_with (refine stop_load 69 (.tmp 4) rfl ?_)
      intro _
      refine wpList_load_part (w.heap.size) 0 69 (.tmp 4) #[.int .i64 g.i, .int .i64 g.j, .int .i64 g.a.k, .int .i64 g.a.i, .int .i64 g.a.j, .int .i64 g.a.n, (.slice aga g.a.kids.length cga), .int .i64 g.c.k, .int .i64 g.c.i, .int .i64 g.c.j, .int .i64 g.c.n, (.slice agc g.c.kids.length cgc), .int .i64 g.b.k, .int .i64 g.b.i, .int .i64 g.b.j, .int .i64 g.b.n, (.slice agb g.b.kids.length cgb), .int .i64 g.d.k, .int .i64 g.d.i, .int .i64 g.d.j, .int .i64 g.d.n, (.slice agd g.d.kids.length cgd), .int .i64 g.e.k, .int .i64 g.e.i, .int .i64 g.e.j, .int .i64 g.e.n, (.slice age g.e.kids.length cge), .int .i64 g.f.k, .int .i64 g.f.i, .int .i64 g.f.j, .int .i64 g.f.n, (.slice agf g.f.kids.length cgf)] dq (blk_at Hx1.out (kept_trans Kk12.out (kept_trans Kk18.out Kk25.out))) (by rfl) rfl (by rfl) (by rfl) dq1 (by cases dq <;> first | rfl | exact dq2) (by kernel_rfl) ?_
      go_wp2_with fail
      clear kvV0
      refine (lfam4_any g (Par w V0.heap.size [] P) _ (.slice aga g.a.kids.length cga) (.slice agc g.c.kids.length cgc) (.slice agb g.b.kids.length cgb) (.slice agd g.d.kids.length cgd) (.slice age g.e.kids.length cge) (.slice agf g.f.kids.length cgf) (show Fm.fine g from ⟨Gg.out.1, Gg.out.2.1, Gg.out.2.2.1, Gg.out.2.2.2.1, Gg.out.2.2.2.2.1, Gg.out.2.2.2.2.2.1, Gg.out.2.2.2.2.2.2.1, Gg.out.2.2.2.2.2.2.2⟩) ⟨(HLga.out.later (kept_trans Kk12.out (kept_trans Kk18.out Kk25.out))), (HLgc.out.later (kept_trans Kk12.out (kept_trans Kk18.out Kk25.out))), (HLgb.out.later (kept_trans Kk12.out (kept_trans Kk18.out Kk25.out))), (HLgd.out.later (kept_trans Kk12.out (kept_trans Kk18.out Kk25.out))), (HLge.out.later (kept_trans Kk12.out (kept_trans Kk18.out Kk25.out))), (HLgf.out.later (kept_trans Kk12.out (kept_trans Kk18.out Kk25.out)))⟩).mono ?_
      rintro e w26 ⟨s28, s29, s30, s31, s32, s33, rfl, ⟨hl34, hl35, hl36, hl37, hl38, hl39⟩, k27⟩
      obtain ⟨a40, c41, S42, rfl, -⟩ := hl34.out
      obtain ⟨a43, c44, S45, rfl, -⟩ := hl35.out
      obtain ⟨a46, c47, S48, rfl, -⟩ := hl36.out
      obtain ⟨a49, c50, S51, rfl, -⟩ := hl37.out
      obtain ⟨a52, c53, S54, rfl, -⟩ := hl38.out
      obtain ⟨a55, c56, S57, rfl, -⟩ := hl39.out
      have Kk58 := Lib.hid k27
      clear k27
      have Hhl34 : Hid (LiesQ w26 (Par w V0.heap.size [] P) g.a.kids _) := par_give hl34 (Below.size (kept_trans Kk12.out (kept_trans Kk18.out Kk25.out))) (xlt_nil _)
      have Hhl35 : Hid (LiesQ w26 (Par w V0.heap.size [] P) g.c.kids _) := par_give hl35 (Below.size (kept_trans Kk12.out (kept_trans Kk18.out Kk25.out))) (xlt_nil _)
      have Hhl36 : Hid (LiesQ w26 (Par w V0.heap.size [] P) g.b.kids _) := par_give hl36 (Below.size (kept_trans Kk12.out (kept_trans Kk18.out Kk25.out))) (xlt_nil _)
      have Hhl37 : Hid (LiesQ w26 (Par w V0.heap.size [] P) g.d.kids _) := par_give hl37 (Below.size (kept_trans Kk12.out (kept_trans Kk18.out Kk25.out))) (xlt_nil _)
      have Hhl38 : Hid (LiesQ w26 (Par w V0.heap.size [] P) g.e.kids _) := par_give hl38 (Below.size (kept_trans Kk12.out (kept_trans Kk18.out Kk25.out))) (xlt_nil _)
      have Hhl39 : Hid (LiesQ w26 (Par w V0.heap.size [] P) g.f.kids _) := par_give hl39 (Below.size (kept_trans Kk12.out (kept_trans Kk18.out Kk25.out))) (xlt_nil _)
      clear hl34 hl35 hl36 hl37 hl38 hl39
      have kvV0 : SeesN V0 V0.heap.size w26 := seesN_kept _ (kept_trans Kk12.out (kept_trans Kk18.out (kept_trans Kk25.out Kk58.out)))
      go_wp2_with (refine stop_store 72 (.tmp 9) (.tmp 20) rfl ?_)
      intro _
      refine wpList_store_part_n (by rfl) 72 (.tmp 9) (.tmp 20) rfl (w26.heap.size) 0 #[.int .i64 g.i, .int .i64 g.j, .int .i64 g.a.k, .int .i64 g.a.i, .int .i64 g.a.j, .int .i64 g.a.n, (.slice a40 g.a.kids.length c41), .int .i64 g.c.k, .int .i64 g.c.i, .int .i64 g.c.j, .int .i64 g.c.n, (.slice a43 g.c.kids.length c44), .int .i64 g.b.k, .int .i64 g.b.i, .int .i64 g.b.j, .int .i64 g.b.n, (.slice a46 g.b.kids.length c47), .int .i64 g.d.k, .int .i64 g.d.i, .int .i64 g.d.j, .int .i64 g.d.n, (.slice a49 g.d.kids.length c50), .int .i64 g.e.k, .int .i64 g.e.i, .int .i64 g.e.j, .int .i64 g.e.n, (.slice a52 g.e.kids.length c53), .int .i64 g.f.k, .int .i64 g.f.i, .int .i64 g.f.j, .int .i64 g.f.n, (.slice a55 g.f.kids.length c56)] (by rfl) (by rfl) 72 (by kernel_rfl) (row_ok rfl) ?_
      intro W59 hW59
      clear kvV0
      obtain ⟨k62, x61, z63⟩ := alloc1 hW59
      have Kk64 := Lib.hid k62
      clear k62
      have Hx61 := Lib.hid x61
      have Hz63 := Lib.hid z63
      clear x61 z63 hW59
      have HG65 : Hid (V0.heap.size ≤ w26.heap.size) := (Below.size (kept_trans Kk12.out (kept_trans Kk18.out (kept_trans Kk25.out Kk58.out))))
      have XL66 : Hid (XLt (w26.heap.size :: []) W59) := (xlt_more (xlt_nil _) Kk64.out (by have := Hz63.out; omega))
      refine ⟨_, #[.int .i64 g.i, .int .i64 g.j, .int .i64 g.a.k, .int .i64 g.a.i, .int .i64 g.a.j, .int .i64 g.a.n, (.slice a40 g.a.kids.length c41), .int .i64 g.c.k, .int .i64 g.c.i, .int .i64 g.c.j, .int .i64 g.c.n, (.slice a43 g.c.kids.length c44), .int .i64 g.b.k, .int .i64 g.b.i, .int .i64 g.b.j, .int .i64 g.b.n, (.slice a46 g.b.kids.length c47), .int .i64 g.d.k, .int .i64 g.d.i, .int .i64 g.d.j, .int .i64 g.d.n, (.slice a49 g.d.kids.length c50), .int .i64 g.e.k, .int .i64 g.e.i, .int .i64 g.e.j, .int .i64 g.e.n, (.slice a52 g.e.kids.length c53), .int .i64 g.f.k, .int .i64 g.f.i, .int .i64 g.f.j, .int .i64 g.f.n, (.slice a55 g.f.kids.length c56)], Hx61.out, rfl, Nat.le_of_ble_eq_true rfl, ?_⟩
      intro W60 hW60
      have KB67 := Lib.hid (kept_set (kept_trans Kk7.out (kept_trans Kk12.out (kept_trans Kk18.out (kept_trans Kk25.out (kept_trans Kk58.out Kk64.out))))) hW60 (by have := HG65.out; have := Z0.out; omega))
      have KB68 := Lib.hid (kept_set (kept_trans Kk12.out (kept_trans Kk18.out (kept_trans Kk25.out (kept_trans Kk58.out Kk64.out)))) hW60 HG65.out)
      have HL69 : Hid (LiesQ W60 (Par w V0.heap.size (w26.heap.size :: []) P) g.a.kids _) := par_set (par_grow HLga.out (kept_trans Kk12.out (kept_trans Kk18.out (kept_trans Kk25.out (kept_trans Kk58.out Kk64.out)))) (List.forall_mem_cons.2 ⟨(Or.inr (Nat.le_trans (Below.size (kept_trans Kk12.out (kept_trans Kk18.out (kept_trans Kk25.out Kk58.out)))) (Nat.le_refl w26.heap.size))), (fun _ h => nomatch h)⟩)) hW60 (List.mem_cons_self ..) (by have := HG65.out; have := Z0.out; omega)
      have HL70 : Hid (LiesQ W60 (Par w V0.heap.size (w26.heap.size :: []) P) g.c.kids _) := par_set (par_grow HLgc.out (kept_trans Kk12.out (kept_trans Kk18.out (kept_trans Kk25.out (kept_trans Kk58.out Kk64.out)))) (List.forall_mem_cons.2 ⟨(Or.inr (Nat.le_trans (Below.size (kept_trans Kk12.out (kept_trans Kk18.out (kept_trans Kk25.out Kk58.out)))) (Nat.le_refl w26.heap.size))), (fun _ h => nomatch h)⟩)) hW60 (List.mem_cons_self ..) (by have := HG65.out; have := Z0.out; omega)
      have HL71 : Hid (LiesQ W60 (Par w V0.heap.size (w26.heap.size :: []) P) g.b.kids _) := par_set (par_grow HLgb.out (kept_trans Kk12.out (kept_trans Kk18.out (kept_trans Kk25.out (kept_trans Kk58.out Kk64.out)))) (List.forall_mem_cons.2 ⟨(Or.inr (Nat.le_trans (Below.size (kept_trans Kk12.out (kept_trans Kk18.out (kept_trans Kk25.out Kk58.out)))) (Nat.le_refl w26.heap.size))), (fun _ h => nomatch h)⟩)) hW60 (List.mem_cons_self ..) (by have := HG65.out; have := Z0.out; omega)
      have HL72 : Hid (LiesQ W60 (Par w V0.heap.size (w26.heap.size :: []) P) g.d.kids _) := par_set (par_grow HLgd.out (kept_trans Kk12.out (kept_trans Kk18.out (kept_trans Kk25.out (kept_trans Kk58.out Kk64.out)))) (List.forall_mem_cons.2 ⟨(Or.inr (Nat.le_trans (Below.size (kept_trans Kk12.out (kept_trans Kk18.out (kept_trans Kk25.out Kk58.out)))) (Nat.le_refl w26.heap.size))), (fun _ h => nomatch h)⟩)) hW60 (List.mem_cons_self ..) (by have := HG65.out; have := Z0.out; omega)
      have HL73 : Hid (LiesQ W60 (Par w V0.heap.size (w26.heap.size :: []) P) g.e.kids _) := par_set (par_grow HLge.out (kept_trans Kk12.out (kept_trans Kk18.out (kept_trans Kk25.out (kept_trans Kk58.out Kk64.out)))) (List.forall_mem_cons.2 ⟨(Or.inr (Nat.le_trans (Below.size (kept_trans Kk12.out (kept_trans Kk18.out (kept_trans Kk25.out Kk58.out)))) (Nat.le_refl w26.heap.size))), (fun _ h => nomatch h)⟩)) hW60 (List.mem_cons_self ..) (by have := HG65.out; have := Z0.out; omega)
      have HL74 : Hid (LiesQ W60 (Par w V0.heap.size (w26.heap.size :: []) P) g.f.kids _) := par_set (par_grow HLgf.out (kept_trans Kk12.out (kept_trans Kk18.out (kept_trans Kk25.out (kept_trans Kk58.out Kk64.out)))) (List.forall_mem_cons.2 ⟨(Or.inr (Nat.le_trans (Below.size (kept_trans Kk12.out (kept_trans Kk18.out (kept_trans Kk25.out Kk58.out)))) (Nat.le_refl w26.heap.size))), (fun _ h => nomatch h)⟩)) hW60 (List.mem_cons_self ..) (by have := HG65.out; have := Z0.out; omega)
      have HL75 : Hid (LiesQ W60 (Par w V0.heap.size (w26.heap.size :: []) P) x.kids _) := par_set (par_grow HLx.out (kept_trans Kk12.out (kept_trans Kk18.out (kept_trans Kk25.out (kept_trans Kk58.out Kk64.out)))) (List.forall_mem_cons.2 ⟨(Or.inr (Nat.le_trans (Below.size (kept_trans Kk12.out (kept_trans Kk18.out (kept_trans Kk25.out Kk58.out)))) (Nat.le_refl w26.heap.size))), (fun _ h => nomatch h)⟩)) hW60 (List.mem_cons_self ..) (by have := HG65.out; have := Z0.out; omega)
      have HL76 : Hid (LiesQ W60 (Par w V0.heap.size (w26.heap.size :: []) P) y.kids _) := par_set (par_grow HLy.out (kept_trans Kk12.out (kept_trans Kk18.out (kept_trans Kk25.out (kept_trans Kk58.out Kk64.out)))) (List.forall_mem_cons.2 ⟨(Or.inr (Nat.le_trans (Below.size (kept_trans Kk12.out (kept_trans Kk18.out (kept_trans Kk25.out Kk58.out)))) (Nat.le_refl w26.heap.size))), (fun _ h => nomatch h)⟩)) hW60 (List.mem_cons_self ..) (by have := HG65.out; have := Z0.out; omega)
      have HL77 : Hid (LiesQ W60 (Par w V0.heap.size (w26.heap.size :: []) P) z.kids _) := par_set (par_grow HLz.out (kept_trans Kk12.out (kept_trans Kk18.out (kept_trans Kk25.out (kept_trans Kk58.out Kk64.out)))) (List.forall_mem_cons.2 ⟨(Or.inr (Nat.le_trans (Below.size (kept_trans Kk12.out (kept_trans Kk18.out (kept_trans Kk25.out Kk58.out)))) (Nat.le_refl w26.heap.size))), (fun _ h => nomatch h)⟩)) hW60 (List.mem_cons_self ..) (by have := HG65.out; have := Z0.out; omega)
      have HL78 : Hid (LiesQ W60 (Par w V0.heap.size (w26.heap.size :: []) P) [x, y, z] _) := par_set (par_grow HR19.out (kept_trans Kk25.out (kept_trans Kk58.out Kk64.out)) (List.forall_mem_cons.2 ⟨(Or.inr (Nat.le_trans (Below.size (kept_trans Kk25.out Kk58.out)) (Nat.le_refl w26.heap.size))), (fun _ h => nomatch h)⟩)) hW60 (List.mem_cons_self ..) (by have := HG65.out; have := Z0.out; omega)
      have HL79 : Hid (LiesQ W60 (Par w V0.heap.size (w26.heap.size :: []) P) g.a.kids _) := par_set (par_grow Hhl34.out Kk64.out (List.forall_mem_cons.2 ⟨(Or.inr (Nat.le_refl w26.heap.size)), (fun _ h => nomatch h)⟩)) hW60 (List.mem_cons_self ..) (by have := HG65.out; have := Z0.out; omega)
      have HL80 : Hid (LiesQ W60 (Par w V0.heap.size (w26.heap.size :: []) P) g.c.kids _) := par_set (par_grow Hhl35.out Kk64.out (List.forall_mem_cons.2 ⟨(Or.inr (Nat.le_refl w26.heap.size)), (fun _ h => nomatch h)⟩)) hW60 (List.mem_cons_self ..) (by have := HG65.out; have := Z0.out; omega)
      have HL81 : Hid (LiesQ W60 (Par w V0.heap.size (w26.heap.size :: []) P) g.b.kids _) := par_set (par_grow Hhl36.out Kk64.out (List.forall_mem_cons.2 ⟨(Or.inr (Nat.le_refl w26.heap.size)), (fun _ h => nomatch h)⟩)) hW60 (List.mem_cons_self ..) (by have := HG65.out; have := Z0.out; omega)
      have HL82 : Hid (LiesQ W60 (Par w V0.heap.size (w26.heap.size :: []) P) g.d.kids _) := par_set (par_grow Hhl37.out Kk64.out (List.forall_mem_cons.2 ⟨(Or.inr (Nat.le_refl w26.heap.size)), (fun _ h => nomatch h)⟩)) hW60 (List.mem_cons_self ..) (by have := HG65.out; have := Z0.out; omega)
      have HL83 : Hid (LiesQ W60 (Par w V0.heap.size (w26.heap.size :: []) P) g.e.kids _) := par_set (par_grow Hhl38.out Kk64.out (List.forall_mem_cons.2 ⟨(Or.inr (Nat.le_refl w26.heap.size)), (fun _ h => nomatch h)⟩)) hW60 (List.mem_cons_self ..) (by have := HG65.out; have := Z0.out; omega)
      have HL84 : Hid (LiesQ W60 (Par w V0.heap.size (w26.heap.size :: []) P) g.f.kids _) := par_set (par_grow Hhl39.out Kk64.out (List.forall_mem_cons.2 ⟨(Or.inr (Nat.le_refl w26.heap.size)), (fun _ h => nomatch h)⟩)) hW60 (List.mem_cons_self ..) (by have := HG65.out; have := Z0.out; omega)
      have XL85 := Lib.hid (xlt_set XL66.out hW60)
      have HX86 := Lib.hid (blk_same Hx61.out hW60)
      clear hW60
      have kvV0 : SeesN V0 V0.heap.size W60 := seesN_kept _ KB68.out
      have kvW60 : SeesN W60 V0.heap.size W60 := seesN_kept _ (kept_refl _)
      go_wp2_with fail
      clear kvV0
      clear kvW60
      obtain ⟨W87, h88⟩ : ∃ x, World.drew W60 = x := ⟨_, rfl⟩
      have k89 : Kept W60 W87 := by rw [← h88]; exact kept_drew (kept_refl _)
      have Kk90 := Lib.hid k89
      clear k89
      refine wp_region_held_drew (S := SeesN W87 V0.heap.size) (by kernel_rfl) ?_ (fun hHeld => ?_)
      · (try dsimp only)
        rw [h88]
        exact seesN_kept _ (kept_refl _)
      rw [h88] at hHeld ⊢
      clear h88
      refine take_at 0 21 congTypesr4_0 (yields_part (w26.heap.size) 0 72 (.tmp 9) #[.int .i64 g.i, .int .i64 g.j, .int .i64 g.a.k, .int .i64 g.a.i, .int .i64 g.a.j, .int .i64 g.a.n, (.slice a40 g.a.kids.length c41), .int .i64 g.c.k, .int .i64 g.c.i, .int .i64 g.c.j, .int .i64 g.c.n, (.slice a43 g.c.kids.length c44), .int .i64 g.b.k, .int .i64 g.b.i, .int .i64 g.b.j, .int .i64 g.b.n, (.slice a46 g.b.kids.length c47), .int .i64 g.d.k, .int .i64 g.d.i, .int .i64 g.d.j, .int .i64 g.d.n, (.slice a49 g.d.kids.length c50), .int .i64 g.e.k, .int .i64 g.e.i, .int .i64 g.e.j, .int .i64 g.e.n, (.slice a52 g.e.kids.length c53), .int .i64 g.f.k, .int .i64 g.f.i, .int .i64 g.f.j, .int .i64 g.f.n, (.slice a55 g.f.kids.length c56)] dg (fun _ h => seesN_blk HX86.out trivial (seesN_of Kk90.out h)) (by rfl) rfl (by rfl) (by rfl) dg1 (by cases dg <;> first | rfl | exact dg2) (by kernel_rfl)) ?_
      (try simp only [Act.put, List.setIfInBounds_toArray, List.set_cons_zero, List.set_cons_succ])
      refine take_at 2 23 congTypesr4_2 (yields_part (w.heap.size) 0 69 (.tmp 4) #[.int .i64 g.i, .int .i64 g.j, .int .i64 g.a.k, .int .i64 g.a.i, .int .i64 g.a.j, .int .i64 g.a.n, (.slice aga g.a.kids.length cga), .int .i64 g.c.k, .int .i64 g.c.i, .int .i64 g.c.j, .int .i64 g.c.n, (.slice agc g.c.kids.length cgc), .int .i64 g.b.k, .int .i64 g.b.i, .int .i64 g.b.j, .int .i64 g.b.n, (.slice agb g.b.kids.length cgb), .int .i64 g.d.k, .int .i64 g.d.i, .int .i64 g.d.j, .int .i64 g.d.n, (.slice agd g.d.kids.length cgd), .int .i64 g.e.k, .int .i64 g.e.i, .int .i64 g.e.j, .int .i64 g.e.n, (.slice age g.e.kids.length cge), .int .i64 g.f.k, .int .i64 g.f.i, .int .i64 g.f.j, .int .i64 g.f.n, (.slice agf g.f.kids.length cgf)] dq (fun _ h => seesN_blk Hx1.out trivial (seesN_of (kept_trans KB68.out Kk90.out) h)) (by rfl) rfl (by rfl) (by rfl) dq1 (by cases dq <;> first | rfl | exact dq2) (by kernel_rfl)) ?_
      (try simp only [Act.put, List.setIfInBounds_toArray, List.set_cons_zero, List.set_cons_succ])
      refine wpAnyH_ready (rs := [1]) (by kernel_rfl) (by simp) ?_
      refine AllReadyH.cons (o := congTypesr4_1) rfl (fun K hK => ?_) ?_
      · unfold congTypesr4_1
        go_simp
        refine (cPi_any g (Par w V0.heap.size (w26.heap.size :: []) P) W87 (.slice a40 g.a.kids.length c41) (.slice a43 g.c.kids.length c44) (.slice a46 g.b.kids.length c47) (.slice a49 g.d.kids.length c50) (.slice a52 g.e.kids.length c53) (.slice a55 g.f.kids.length c56) (show Fm.fine g from ⟨((show Fm.fine g from ⟨Gg.out.1, Gg.out.2.1, Gg.out.2.2.1, Gg.out.2.2.2.1, Gg.out.2.2.2.2.1, Gg.out.2.2.2.2.2.1, Gg.out.2.2.2.2.2.2.1, Gg.out.2.2.2.2.2.2.2⟩)).1, ((show Fm.fine g from ⟨Gg.out.1, Gg.out.2.1, Gg.out.2.2.1, Gg.out.2.2.2.1, Gg.out.2.2.2.2.1, Gg.out.2.2.2.2.2.1, Gg.out.2.2.2.2.2.2.1, Gg.out.2.2.2.2.2.2.2⟩)).2.1, ((show Fm.fine g from ⟨Gg.out.1, Gg.out.2.1, Gg.out.2.2.1, Gg.out.2.2.2.1, Gg.out.2.2.2.2.1, Gg.out.2.2.2.2.2.1, Gg.out.2.2.2.2.2.2.1, Gg.out.2.2.2.2.2.2.2⟩)).2.2.1, ((show Fm.fine g from ⟨Gg.out.1, Gg.out.2.1, Gg.out.2.2.1, Gg.out.2.2.2.1, Gg.out.2.2.2.2.1, Gg.out.2.2.2.2.2.1, Gg.out.2.2.2.2.2.2.1, Gg.out.2.2.2.2.2.2.2⟩)).2.2.2.1, ((show Fm.fine g from ⟨Gg.out.1, Gg.out.2.1, Gg.out.2.2.1, Gg.out.2.2.2.1, Gg.out.2.2.2.2.1, Gg.out.2.2.2.2.2.1, Gg.out.2.2.2.2.2.2.1, Gg.out.2.2.2.2.2.2.2⟩)).2.2.2.2.1, ((show Fm.fine g from ⟨Gg.out.1, Gg.out.2.1, Gg.out.2.2.1, Gg.out.2.2.2.1, Gg.out.2.2.2.2.1, Gg.out.2.2.2.2.2.1, Gg.out.2.2.2.2.2.2.1, Gg.out.2.2.2.2.2.2.2⟩)).2.2.2.2.2.1, ((show Fm.fine g from ⟨Gg.out.1, Gg.out.2.1, Gg.out.2.2.1, Gg.out.2.2.2.1, Gg.out.2.2.2.2.1, Gg.out.2.2.2.2.2.1, Gg.out.2.2.2.2.2.2.1, Gg.out.2.2.2.2.2.2.2⟩)).2.2.2.2.2.2.1, ((show Fm.fine g from ⟨Gg.out.1, Gg.out.2.1, Gg.out.2.2.1, Gg.out.2.2.2.1, Gg.out.2.2.2.2.1, Gg.out.2.2.2.2.2.1, Gg.out.2.2.2.2.2.2.1, Gg.out.2.2.2.2.2.2.2⟩)).2.2.2.2.2.2.2⟩) ⟨(HL79.out.later Kk90.out), (HL80.out.later Kk90.out), (HL81.out.later Kk90.out), (HL82.out.later Kk90.out), (HL83.out.later Kk90.out), (HL84.out.later Kk90.out)⟩).mono ?_
        obtain ⟨U98, hU98⟩ : ∃ qu, cgPi g = qu := ⟨_, rfl⟩
        rw [hU98]
        have HU98 := Lib.hid hU98
        clear hU98
        rintro e w91 ⟨s93, rfl, hl94, k92⟩
        obtain ⟨a95, c96, S97, rfl, -⟩ := hl94.out
        have Kk99 := Lib.hid k92
        clear k92
        have Hhl94 : Hid (LiesQ w91 (Par w V0.heap.size (w26.heap.size :: []) P) U98.kids _) := par_give hl94 (Below.size (kept_trans KB68.out Kk90.out)) (xlt_later XL85.out Kk90.out)
        clear hl94
        clear hHeld
        refine hK.out _ _ (seesN_kept _ Kk99.out) (fun hHeld => ?_)
        clear hK K
        (try simp only [Act.put, List.setIfInBounds_toArray, List.set_cons_zero, List.set_cons_succ])
        refine wpAnyH_ready (rs := [3]) (by kernel_rfl) (by simp) ?_
        refine AllReadyH.cons (o := congTypesr4_3) rfl (fun K hK => ?_) ?_
        · unfold congTypesr4_3
          go_simp
          refine (rcPi_any g (Par w V0.heap.size (w26.heap.size :: []) P) w91 (.slice aga g.a.kids.length cga) (.slice agc g.c.kids.length cgc) (.slice agb g.b.kids.length cgb) (.slice agd g.d.kids.length cgd) (.slice age g.e.kids.length cge) (.slice agf g.f.kids.length cgf) (show Fm.fine g from ⟨Gg.out.1, Gg.out.2.1, Gg.out.2.2.1, Gg.out.2.2.2.1, Gg.out.2.2.2.2.1, Gg.out.2.2.2.2.2.1, Gg.out.2.2.2.2.2.2.1, Gg.out.2.2.2.2.2.2.2⟩) ⟨(HL69.out.later (kept_trans Kk90.out Kk99.out)), (HL70.out.later (kept_trans Kk90.out Kk99.out)), (HL71.out.later (kept_trans Kk90.out Kk99.out)), (HL72.out.later (kept_trans Kk90.out Kk99.out)), (HL73.out.later (kept_trans Kk90.out Kk99.out)), (HL74.out.later (kept_trans Kk90.out Kk99.out))⟩).mono ?_
          rw [HU98.out]
          rintro e w100 ⟨s102, rfl, hl103, k101⟩
          obtain ⟨a104, c105, S106, rfl, -⟩ := hl103.out
          have Kk107 := Lib.hid k101
          clear k101
          have Hhl103 : Hid (LiesQ w100 (Par w V0.heap.size (w26.heap.size :: []) P) U98.kids _) := par_give hl103 (Below.size (kept_trans KB68.out (kept_trans Kk90.out Kk99.out))) (xlt_later XL85.out (kept_trans Kk90.out Kk99.out))
          clear hl103
          clear hHeld
          refine hK.out _ _ (seesN_kept _ (kept_trans Kk99.out Kk107.out)) (fun hHeld => ?_)
          clear hK K
          (try simp only [Act.put, List.setIfInBounds_toArray, List.set_cons_zero, List.set_cons_succ])
          refine wpAnyH_ready (rs := [4]) (by kernel_rfl) (by simp) ?_
          refine AllReadyH.cons (o := congTypesr4_4) rfl (fun K hK => ?_) ?_
          · unfold congTypesr4_4
            go_simp
            refine (keepsame_eq U98 _ (.slice a95 U98.kids.length c96) (.slice a104 U98.kids.length c105) (Hhl94.out.later Kk107.out).lies Hhl103.out.lies).mono ?_
            rintro e w108 ⟨rfl, k109⟩
            have Kk110 := Lib.hid k109
            clear k109
            clear hHeld
            refine hK.out _ _ (seesN_kept _ (kept_trans Kk99.out (kept_trans Kk107.out Kk110.out))) (fun hHeld => ?_)
            clear hK K
            (try simp only [Act.put, List.setIfInBounds_toArray, List.set_cons_zero, List.set_cons_succ])
            refine take_at 5 26 congTypesr4_5 (v := ?_) (Or.inl ⟨by rfl, ?_⟩) ?_
            rotate_left 1
            · ((intro w hSw; (try dsimp only at hSw); unfold congTypesr4_5; go_simp) <;> with_reducible rfl)
            (try simp only [Act.put, List.setIfInBounds_toArray, List.set_cons_zero, List.set_cons_succ])
            refine take_at 6 27 congTypesr4_6 (yields_part (w26.heap.size) 0 72 (.tmp 9) #[.int .i64 g.i, .int .i64 g.j, .int .i64 g.a.k, .int .i64 g.a.i, .int .i64 g.a.j, .int .i64 g.a.n, (.slice a40 g.a.kids.length c41), .int .i64 g.c.k, .int .i64 g.c.i, .int .i64 g.c.j, .int .i64 g.c.n, (.slice a43 g.c.kids.length c44), .int .i64 g.b.k, .int .i64 g.b.i, .int .i64 g.b.j, .int .i64 g.b.n, (.slice a46 g.b.kids.length c47), .int .i64 g.d.k, .int .i64 g.d.i, .int .i64 g.d.j, .int .i64 g.d.n, (.slice a49 g.d.kids.length c50), .int .i64 g.e.k, .int .i64 g.e.i, .int .i64 g.e.j, .int .i64 g.e.n, (.slice a52 g.e.kids.length c53), .int .i64 g.f.k, .int .i64 g.f.i, .int .i64 g.f.j, .int .i64 g.f.n, (.slice a55 g.f.kids.length c56)] dg (fun _ h => seesN_blk HX86.out trivial (seesN_of Kk90.out h)) (by rfl) rfl (by rfl) (by rfl) dg1 (by cases dg <;> first | rfl | exact dg2) (by kernel_rfl)) ?_
            (try simp only [Act.put, List.setIfInBounds_toArray, List.set_cons_zero, List.set_cons_succ])
            refine take_at 8 29 congTypesr4_8 (yields_part (w.heap.size) 0 69 (.tmp 4) #[.int .i64 g.i, .int .i64 g.j, .int .i64 g.a.k, .int .i64 g.a.i, .int .i64 g.a.j, .int .i64 g.a.n, (.slice aga g.a.kids.length cga), .int .i64 g.c.k, .int .i64 g.c.i, .int .i64 g.c.j, .int .i64 g.c.n, (.slice agc g.c.kids.length cgc), .int .i64 g.b.k, .int .i64 g.b.i, .int .i64 g.b.j, .int .i64 g.b.n, (.slice agb g.b.kids.length cgb), .int .i64 g.d.k, .int .i64 g.d.i, .int .i64 g.d.j, .int .i64 g.d.n, (.slice agd g.d.kids.length cgd), .int .i64 g.e.k, .int .i64 g.e.i, .int .i64 g.e.j, .int .i64 g.e.n, (.slice age g.e.kids.length cge), .int .i64 g.f.k, .int .i64 g.f.i, .int .i64 g.f.j, .int .i64 g.f.n, (.slice agf g.f.kids.length cgf)] dq (fun _ h => seesN_blk Hx1.out trivial (seesN_of (kept_trans KB68.out Kk90.out) h)) (by rfl) rfl (by rfl) (by rfl) dq1 (by cases dq <;> first | rfl | exact dq2) (by kernel_rfl)) ?_
            (try simp only [Act.put, List.setIfInBounds_toArray, List.set_cons_zero, List.set_cons_succ])
            refine wpAnyH_ready (rs := [7]) (by kernel_rfl) (by simp) ?_
            refine AllReadyH.cons (o := congTypesr4_7) rfl (fun K hK => ?_) ?_
            · unfold congTypesr4_7
              go_simp
              refine (cSig_any g (Par w V0.heap.size (w26.heap.size :: []) P) w108 (.slice a40 g.a.kids.length c41) (.slice a43 g.c.kids.length c44) (.slice a46 g.b.kids.length c47) (.slice a49 g.d.kids.length c50) (.slice a52 g.e.kids.length c53) (.slice a55 g.f.kids.length c56) (show Fm.fine g from ⟨((show Fm.fine g from ⟨Gg.out.1, Gg.out.2.1, Gg.out.2.2.1, Gg.out.2.2.2.1, Gg.out.2.2.2.2.1, Gg.out.2.2.2.2.2.1, Gg.out.2.2.2.2.2.2.1, Gg.out.2.2.2.2.2.2.2⟩)).1, ((show Fm.fine g from ⟨Gg.out.1, Gg.out.2.1, Gg.out.2.2.1, Gg.out.2.2.2.1, Gg.out.2.2.2.2.1, Gg.out.2.2.2.2.2.1, Gg.out.2.2.2.2.2.2.1, Gg.out.2.2.2.2.2.2.2⟩)).2.1, ((show Fm.fine g from ⟨Gg.out.1, Gg.out.2.1, Gg.out.2.2.1, Gg.out.2.2.2.1, Gg.out.2.2.2.2.1, Gg.out.2.2.2.2.2.1, Gg.out.2.2.2.2.2.2.1, Gg.out.2.2.2.2.2.2.2⟩)).2.2.1, ((show Fm.fine g from ⟨Gg.out.1, Gg.out.2.1, Gg.out.2.2.1, Gg.out.2.2.2.1, Gg.out.2.2.2.2.1, Gg.out.2.2.2.2.2.1, Gg.out.2.2.2.2.2.2.1, Gg.out.2.2.2.2.2.2.2⟩)).2.2.2.1, ((show Fm.fine g from ⟨Gg.out.1, Gg.out.2.1, Gg.out.2.2.1, Gg.out.2.2.2.1, Gg.out.2.2.2.2.1, Gg.out.2.2.2.2.2.1, Gg.out.2.2.2.2.2.2.1, Gg.out.2.2.2.2.2.2.2⟩)).2.2.2.2.1, ((show Fm.fine g from ⟨Gg.out.1, Gg.out.2.1, Gg.out.2.2.1, Gg.out.2.2.2.1, Gg.out.2.2.2.2.1, Gg.out.2.2.2.2.2.1, Gg.out.2.2.2.2.2.2.1, Gg.out.2.2.2.2.2.2.2⟩)).2.2.2.2.2.1, ((show Fm.fine g from ⟨Gg.out.1, Gg.out.2.1, Gg.out.2.2.1, Gg.out.2.2.2.1, Gg.out.2.2.2.2.1, Gg.out.2.2.2.2.2.1, Gg.out.2.2.2.2.2.2.1, Gg.out.2.2.2.2.2.2.2⟩)).2.2.2.2.2.2.1, ((show Fm.fine g from ⟨Gg.out.1, Gg.out.2.1, Gg.out.2.2.1, Gg.out.2.2.2.1, Gg.out.2.2.2.2.1, Gg.out.2.2.2.2.2.1, Gg.out.2.2.2.2.2.2.1, Gg.out.2.2.2.2.2.2.2⟩)).2.2.2.2.2.2.2⟩) ⟨(HL79.out.later (kept_trans Kk90.out (kept_trans Kk99.out (kept_trans Kk107.out Kk110.out)))), (HL80.out.later (kept_trans Kk90.out (kept_trans Kk99.out (kept_trans Kk107.out Kk110.out)))), (HL81.out.later (kept_trans Kk90.out (kept_trans Kk99.out (kept_trans Kk107.out Kk110.out)))), (HL82.out.later (kept_trans Kk90.out (kept_trans Kk99.out (kept_trans Kk107.out Kk110.out)))), (HL83.out.later (kept_trans Kk90.out (kept_trans Kk99.out (kept_trans Kk107.out Kk110.out)))), (HL84.out.later (kept_trans Kk90.out (kept_trans Kk99.out (kept_trans Kk107.out Kk110.out))))⟩).mono ?_
              obtain ⟨U118, hU118⟩ : ∃ qu, cgSig g = qu := ⟨_, rfl⟩
              rw [hU118]
              have HU118 := Lib.hid hU118
              clear hU118
              rintro e w111 ⟨s113, rfl, hl114, k112⟩
              obtain ⟨a115, c116, S117, rfl, -⟩ := hl114.out
              have Kk119 := Lib.hid k112
              clear k112
              have Hhl114 : Hid (LiesQ w111 (Par w V0.heap.size (w26.heap.size :: []) P) U118.kids _) := par_give hl114 (Below.size (kept_trans KB68.out (kept_trans Kk90.out (kept_trans Kk99.out (kept_trans Kk107.out Kk110.out))))) (xlt_later XL85.out (kept_trans Kk90.out (kept_trans Kk99.out (kept_trans Kk107.out Kk110.out))))
              clear hl114
              clear hHeld
              refine hK.out _ _ (seesN_kept _ (kept_trans Kk99.out (kept_trans Kk107.out (kept_trans Kk110.out Kk119.out)))) (fun hHeld => ?_)
              clear hK K
              (try simp only [Act.put, List.setIfInBounds_toArray, List.set_cons_zero, List.set_cons_succ])
              refine wpAnyH_ready (rs := [9]) (by kernel_rfl) (by simp) ?_
              refine AllReadyH.cons (o := congTypesr4_9) rfl (fun K hK => ?_) ?_
              · unfold congTypesr4_9
                go_simp
                refine (rcSig_any g (Par w V0.heap.size (w26.heap.size :: []) P) w111 (.slice aga g.a.kids.length cga) (.slice agc g.c.kids.length cgc) (.slice agb g.b.kids.length cgb) (.slice agd g.d.kids.length cgd) (.slice age g.e.kids.length cge) (.slice agf g.f.kids.length cgf) (show Fm.fine g from ⟨Gg.out.1, Gg.out.2.1, Gg.out.2.2.1, Gg.out.2.2.2.1, Gg.out.2.2.2.2.1, Gg.out.2.2.2.2.2.1, Gg.out.2.2.2.2.2.2.1, Gg.out.2.2.2.2.2.2.2⟩) ⟨(HL69.out.later (kept_trans Kk90.out (kept_trans Kk99.out (kept_trans Kk107.out (kept_trans Kk110.out Kk119.out))))), (HL70.out.later (kept_trans Kk90.out (kept_trans Kk99.out (kept_trans Kk107.out (kept_trans Kk110.out Kk119.out))))), (HL71.out.later (kept_trans Kk90.out (kept_trans Kk99.out (kept_trans Kk107.out (kept_trans Kk110.out Kk119.out))))), (HL72.out.later (kept_trans Kk90.out (kept_trans Kk99.out (kept_trans Kk107.out (kept_trans Kk110.out Kk119.out))))), (HL73.out.later (kept_trans Kk90.out (kept_trans Kk99.out (kept_trans Kk107.out (kept_trans Kk110.out Kk119.out))))), (HL74.out.later (kept_trans Kk90.out (kept_trans Kk99.out (kept_trans Kk107.out (kept_trans Kk110.out Kk119.out)))))⟩).mono ?_
                rw [HU118.out]
                rintro e w120 ⟨s122, rfl, hl123, k121⟩
                obtain ⟨a124, c125, S126, rfl, -⟩ := hl123.out
                have Kk127 := Lib.hid k121
                clear k121
                have Hhl123 : Hid (LiesQ w120 (Par w V0.heap.size (w26.heap.size :: []) P) U118.kids _) := par_give hl123 (Below.size (kept_trans KB68.out (kept_trans Kk90.out (kept_trans Kk99.out (kept_trans Kk107.out (kept_trans Kk110.out Kk119.out)))))) (xlt_later XL85.out (kept_trans Kk90.out (kept_trans Kk99.out (kept_trans Kk107.out (kept_trans Kk110.out Kk119.out)))))
                clear hl123
                clear hHeld
                refine hK.out _ _ (seesN_kept _ (kept_trans Kk99.out (kept_trans Kk107.out (kept_trans Kk110.out (kept_trans Kk119.out Kk127.out))))) (fun hHeld => ?_)
                clear hK K
                (try simp only [Act.put, List.setIfInBounds_toArray, List.set_cons_zero, List.set_cons_succ])
                refine wpAnyH_ready (rs := [10]) (by kernel_rfl) (by simp) ?_
                refine AllReadyH.cons (o := congTypesr4_10) rfl (fun K hK => ?_) ?_
                · unfold congTypesr4_10
                  go_simp
                  refine (keepsame_eq U118 _ (.slice a115 U118.kids.length c116) (.slice a124 U118.kids.length c125) (Hhl114.out.later Kk127.out).lies Hhl123.out.lies).mono ?_
                  rintro e w128 ⟨rfl, k129⟩
                  have Kk130 := Lib.hid k129
                  clear k129
                  clear hHeld
                  refine hK.out _ _ (seesN_kept _ (kept_trans Kk99.out (kept_trans Kk107.out (kept_trans Kk110.out (kept_trans Kk119.out (kept_trans Kk127.out Kk130.out)))))) (fun hHeld => ?_)
                  clear hK K
                  (try simp only [Act.put, List.setIfInBounds_toArray, List.set_cons_zero, List.set_cons_succ])
                  refine take_at 11 32 congTypesr4_11 (v := ?_) (Or.inl ⟨by rfl, ?_⟩) ?_
                  rotate_left 1
                  · ((intro w hSw; (try dsimp only at hSw); unfold congTypesr4_11; go_simp) <;> with_reducible rfl)
                  (try simp only [Act.put, List.setIfInBounds_toArray, List.set_cons_zero, List.set_cons_succ])
                  refine take_at 12 33 congTypesr4_12 (v := ?_) (Or.inl ⟨by rfl, ?_⟩) ?_
                  rotate_left 1
                  · ((intro w hSw; (try dsimp only at hSw); unfold congTypesr4_12; go_simp) <;> with_reducible rfl)
                  (try simp only [Act.put, List.setIfInBounds_toArray, List.set_cons_zero, List.set_cons_succ])
                  refine take_at 13 34 congTypesr4_13 (yields_part (w26.heap.size) 0 72 (.tmp 9) #[.int .i64 g.i, .int .i64 g.j, .int .i64 g.a.k, .int .i64 g.a.i, .int .i64 g.a.j, .int .i64 g.a.n, (.slice a40 g.a.kids.length c41), .int .i64 g.c.k, .int .i64 g.c.i, .int .i64 g.c.j, .int .i64 g.c.n, (.slice a43 g.c.kids.length c44), .int .i64 g.b.k, .int .i64 g.b.i, .int .i64 g.b.j, .int .i64 g.b.n, (.slice a46 g.b.kids.length c47), .int .i64 g.d.k, .int .i64 g.d.i, .int .i64 g.d.j, .int .i64 g.d.n, (.slice a49 g.d.kids.length c50), .int .i64 g.e.k, .int .i64 g.e.i, .int .i64 g.e.j, .int .i64 g.e.n, (.slice a52 g.e.kids.length c53), .int .i64 g.f.k, .int .i64 g.f.i, .int .i64 g.f.j, .int .i64 g.f.n, (.slice a55 g.f.kids.length c56)] dg (fun _ h => seesN_blk HX86.out trivial (seesN_of Kk90.out h)) (by rfl) rfl (by rfl) (by rfl) dg1 (by cases dg <;> first | rfl | exact dg2) (by kernel_rfl)) ?_
                  (try simp only [Act.put, List.setIfInBounds_toArray, List.set_cons_zero, List.set_cons_succ])
                  refine take_at 14 35 congTypesr4_14 (yields_part (w.heap.size + 1) 0 32 (.tmp 5) #[.int .i64 x.k, .int .i64 x.i, .int .i64 x.j, .int .i64 x.n, (.slice ax x.kids.length cx)] du (fun _ h => seesN_blk Hx2.out trivial (seesN_of (kept_trans KB68.out Kk90.out) h)) (by rfl) rfl (by rfl) (by rfl) hu1 (by cases du <;> first | rfl | exact hu2) size_term) ?_
                  (try simp only [Act.put, List.setIfInBounds_toArray, List.set_cons_zero, List.set_cons_succ])
                  refine take_at 15 36 congTypesr4_15 (yields_part (w.heap.size + 2) 0 32 (.tmp 6) #[.int .i64 y.k, .int .i64 y.i, .int .i64 y.j, .int .i64 y.n, (.slice ay y.kids.length cy)] du (fun _ h => seesN_blk Hx3.out trivial (seesN_of (kept_trans KB68.out Kk90.out) h)) (by rfl) rfl (by rfl) (by rfl) hu1 (by cases du <;> first | rfl | exact hu2) size_term) ?_
                  (try simp only [Act.put, List.setIfInBounds_toArray, List.set_cons_zero, List.set_cons_succ])
                  refine take_at 16 37 congTypesr4_16 (yields_part (w.heap.size + 3) 0 32 (.tmp 7) #[.int .i64 z.k, .int .i64 z.i, .int .i64 z.j, .int .i64 z.n, (.slice az z.kids.length cz)] du (fun _ h => seesN_blk Hx4.out trivial (seesN_of (kept_trans KB68.out Kk90.out) h)) (by rfl) rfl (by rfl) (by rfl) hu1 (by cases du <;> first | rfl | exact hu2) size_term) ?_
                  (try simp only [Act.put, List.setIfInBounds_toArray, List.set_cons_zero, List.set_cons_succ])
                  refine take_at 18 39 congTypesr4_18 (yields_part (w.heap.size) 0 69 (.tmp 4) #[.int .i64 g.i, .int .i64 g.j, .int .i64 g.a.k, .int .i64 g.a.i, .int .i64 g.a.j, .int .i64 g.a.n, (.slice aga g.a.kids.length cga), .int .i64 g.c.k, .int .i64 g.c.i, .int .i64 g.c.j, .int .i64 g.c.n, (.slice agc g.c.kids.length cgc), .int .i64 g.b.k, .int .i64 g.b.i, .int .i64 g.b.j, .int .i64 g.b.n, (.slice agb g.b.kids.length cgb), .int .i64 g.d.k, .int .i64 g.d.i, .int .i64 g.d.j, .int .i64 g.d.n, (.slice agd g.d.kids.length cgd), .int .i64 g.e.k, .int .i64 g.e.i, .int .i64 g.e.j, .int .i64 g.e.n, (.slice age g.e.kids.length cge), .int .i64 g.f.k, .int .i64 g.f.i, .int .i64 g.f.j, .int .i64 g.f.n, (.slice agf g.f.kids.length cgf)] dq (fun _ h => seesN_blk Hx1.out trivial (seesN_of (kept_trans KB68.out Kk90.out) h)) (by rfl) rfl (by rfl) (by rfl) dq1 (by cases dq <;> first | rfl | exact dq2) (by kernel_rfl)) ?_
                  (try simp only [Act.put, List.setIfInBounds_toArray, List.set_cons_zero, List.set_cons_succ])
                  refine take_at 19 40 congTypesr4_19 (yields_part (w.heap.size + 1) 0 32 (.tmp 5) #[.int .i64 x.k, .int .i64 x.i, .int .i64 x.j, .int .i64 x.n, (.slice ax x.kids.length cx)] du (fun _ h => seesN_blk Hx2.out trivial (seesN_of (kept_trans KB68.out Kk90.out) h)) (by rfl) rfl (by rfl) (by rfl) hu1 (by cases du <;> first | rfl | exact hu2) size_term) ?_
                  (try simp only [Act.put, List.setIfInBounds_toArray, List.set_cons_zero, List.set_cons_succ])
                  refine take_at 20 41 congTypesr4_20 (yields_part (w.heap.size + 2) 0 32 (.tmp 6) #[.int .i64 y.k, .int .i64 y.i, .int .i64 y.j, .int .i64 y.n, (.slice ay y.kids.length cy)] du (fun _ h => seesN_blk Hx3.out trivial (seesN_of (kept_trans KB68.out Kk90.out) h)) (by rfl) rfl (by rfl) (by rfl) hu1 (by cases du <;> first | rfl | exact hu2) size_term) ?_
                  (try simp only [Act.put, List.setIfInBounds_toArray, List.set_cons_zero, List.set_cons_succ])
                  refine take_at 21 42 congTypesr4_21 (yields_part (w.heap.size + 3) 0 32 (.tmp 7) #[.int .i64 z.k, .int .i64 z.i, .int .i64 z.j, .int .i64 z.n, (.slice az z.kids.length cz)] du (fun _ h => seesN_blk Hx4.out trivial (seesN_of (kept_trans KB68.out Kk90.out) h)) (by rfl) rfl (by rfl) (by rfl) hu1 (by cases du <;> first | rfl | exact hu2) size_term) ?_
                  (try simp only [Act.put, List.setIfInBounds_toArray, List.set_cons_zero, List.set_cons_succ])
                  refine wpAnyH_ready (rs := [17]) (by kernel_rfl) (by simp) ?_
                  refine AllReadyH.cons (o := congTypesr4_17) rfl (fun K hK => ?_) ?_
                  · unfold congTypesr4_17
                    go_simp
                    refine (cLam_any x y z g (Par w V0.heap.size (w26.heap.size :: []) P) w128 (.slice a40 g.a.kids.length c41) (.slice a43 g.c.kids.length c44) (.slice a46 g.b.kids.length c47) (.slice a49 g.d.kids.length c50) (.slice a52 g.e.kids.length c53) (.slice a55 g.f.kids.length c56) (.slice ax x.kids.length cx) (.slice ay y.kids.length cy) (.slice az z.kids.length cz) (show Fm.fine g from ⟨((show Fm.fine g from ⟨Gg.out.1, Gg.out.2.1, Gg.out.2.2.1, Gg.out.2.2.2.1, Gg.out.2.2.2.2.1, Gg.out.2.2.2.2.2.1, Gg.out.2.2.2.2.2.2.1, Gg.out.2.2.2.2.2.2.2⟩)).1, ((show Fm.fine g from ⟨Gg.out.1, Gg.out.2.1, Gg.out.2.2.1, Gg.out.2.2.2.1, Gg.out.2.2.2.2.1, Gg.out.2.2.2.2.2.1, Gg.out.2.2.2.2.2.2.1, Gg.out.2.2.2.2.2.2.2⟩)).2.1, ((show Fm.fine g from ⟨Gg.out.1, Gg.out.2.1, Gg.out.2.2.1, Gg.out.2.2.2.1, Gg.out.2.2.2.2.1, Gg.out.2.2.2.2.2.1, Gg.out.2.2.2.2.2.2.1, Gg.out.2.2.2.2.2.2.2⟩)).2.2.1, ((show Fm.fine g from ⟨Gg.out.1, Gg.out.2.1, Gg.out.2.2.1, Gg.out.2.2.2.1, Gg.out.2.2.2.2.1, Gg.out.2.2.2.2.2.1, Gg.out.2.2.2.2.2.2.1, Gg.out.2.2.2.2.2.2.2⟩)).2.2.2.1, ((show Fm.fine g from ⟨Gg.out.1, Gg.out.2.1, Gg.out.2.2.1, Gg.out.2.2.2.1, Gg.out.2.2.2.2.1, Gg.out.2.2.2.2.2.1, Gg.out.2.2.2.2.2.2.1, Gg.out.2.2.2.2.2.2.2⟩)).2.2.2.2.1, ((show Fm.fine g from ⟨Gg.out.1, Gg.out.2.1, Gg.out.2.2.1, Gg.out.2.2.2.1, Gg.out.2.2.2.2.1, Gg.out.2.2.2.2.2.1, Gg.out.2.2.2.2.2.2.1, Gg.out.2.2.2.2.2.2.2⟩)).2.2.2.2.2.1, ((show Fm.fine g from ⟨Gg.out.1, Gg.out.2.1, Gg.out.2.2.1, Gg.out.2.2.2.1, Gg.out.2.2.2.2.1, Gg.out.2.2.2.2.2.1, Gg.out.2.2.2.2.2.2.1, Gg.out.2.2.2.2.2.2.2⟩)).2.2.2.2.2.2.1, ((show Fm.fine g from ⟨Gg.out.1, Gg.out.2.1, Gg.out.2.2.1, Gg.out.2.2.2.1, Gg.out.2.2.2.2.1, Gg.out.2.2.2.2.2.1, Gg.out.2.2.2.2.2.2.1, Gg.out.2.2.2.2.2.2.2⟩)).2.2.2.2.2.2.2⟩) ⟨(HL79.out.later (kept_trans Kk90.out (kept_trans Kk99.out (kept_trans Kk107.out (kept_trans Kk110.out (kept_trans Kk119.out (kept_trans Kk127.out Kk130.out))))))), (HL80.out.later (kept_trans Kk90.out (kept_trans Kk99.out (kept_trans Kk107.out (kept_trans Kk110.out (kept_trans Kk119.out (kept_trans Kk127.out Kk130.out))))))), (HL81.out.later (kept_trans Kk90.out (kept_trans Kk99.out (kept_trans Kk107.out (kept_trans Kk110.out (kept_trans Kk119.out (kept_trans Kk127.out Kk130.out))))))), (HL82.out.later (kept_trans Kk90.out (kept_trans Kk99.out (kept_trans Kk107.out (kept_trans Kk110.out (kept_trans Kk119.out (kept_trans Kk127.out Kk130.out))))))), (HL83.out.later (kept_trans Kk90.out (kept_trans Kk99.out (kept_trans Kk107.out (kept_trans Kk110.out (kept_trans Kk119.out (kept_trans Kk127.out Kk130.out))))))), (HL84.out.later (kept_trans Kk90.out (kept_trans Kk99.out (kept_trans Kk107.out (kept_trans Kk110.out (kept_trans Kk119.out (kept_trans Kk127.out Kk130.out)))))))⟩ Gx.out (HL75.out.later (kept_trans Kk90.out (kept_trans Kk99.out (kept_trans Kk107.out (kept_trans Kk110.out (kept_trans Kk119.out (kept_trans Kk127.out Kk130.out))))))) Gy.out (HL76.out.later (kept_trans Kk90.out (kept_trans Kk99.out (kept_trans Kk107.out (kept_trans Kk110.out (kept_trans Kk119.out (kept_trans Kk127.out Kk130.out))))))) Gz.out (HL77.out.later (kept_trans Kk90.out (kept_trans Kk99.out (kept_trans Kk107.out (kept_trans Kk110.out (kept_trans Kk119.out (kept_trans Kk127.out Kk130.out)))))))).mono ?_
                    obtain ⟨U133, hU133⟩ : ∃ qu, cgLam g x y z = qu := ⟨_, rfl⟩
                    rw [hU133]
                    have HU133 := Lib.hid hU133
                    clear hU133
                    rintro e w131 ⟨s134, s135, s136, s137, s138, rfl, ⟨hl139, hl140, hl141, hl142, hl143⟩, k132⟩
                    obtain ⟨a144, c145, S146, rfl, -⟩ := hl139.out
                    obtain ⟨a147, c148, S149, rfl, -⟩ := hl140.out
                    obtain ⟨a150, c151, S152, rfl, -⟩ := hl141.out
                    obtain ⟨a153, c154, S155, rfl, -⟩ := hl142.out
                    obtain ⟨a156, c157, S158, rfl, -⟩ := hl143.out
                    have Kk159 := Lib.hid k132
                    clear k132
                    have Hhl139 : Hid (LiesQ w131 (Par w V0.heap.size (w26.heap.size :: []) P) U133.a.kids _) := par_give hl139 (Below.size (kept_trans KB68.out (kept_trans Kk90.out (kept_trans Kk99.out (kept_trans Kk107.out (kept_trans Kk110.out (kept_trans Kk119.out (kept_trans Kk127.out Kk130.out)))))))) (xlt_later XL85.out (kept_trans Kk90.out (kept_trans Kk99.out (kept_trans Kk107.out (kept_trans Kk110.out (kept_trans Kk119.out (kept_trans Kk127.out Kk130.out)))))))
                    have Hhl140 : Hid (LiesQ w131 (Par w V0.heap.size (w26.heap.size :: []) P) U133.b.kids _) := par_give hl140 (Below.size (kept_trans KB68.out (kept_trans Kk90.out (kept_trans Kk99.out (kept_trans Kk107.out (kept_trans Kk110.out (kept_trans Kk119.out (kept_trans Kk127.out Kk130.out)))))))) (xlt_later XL85.out (kept_trans Kk90.out (kept_trans Kk99.out (kept_trans Kk107.out (kept_trans Kk110.out (kept_trans Kk119.out (kept_trans Kk127.out Kk130.out)))))))
                    have Hhl141 : Hid (LiesQ w131 (Par w V0.heap.size (w26.heap.size :: []) P) U133.x.kids _) := par_give hl141 (Below.size (kept_trans KB68.out (kept_trans Kk90.out (kept_trans Kk99.out (kept_trans Kk107.out (kept_trans Kk110.out (kept_trans Kk119.out (kept_trans Kk127.out Kk130.out)))))))) (xlt_later XL85.out (kept_trans Kk90.out (kept_trans Kk99.out (kept_trans Kk107.out (kept_trans Kk110.out (kept_trans Kk119.out (kept_trans Kk127.out Kk130.out)))))))
                    have Hhl142 : Hid (LiesQ w131 (Par w V0.heap.size (w26.heap.size :: []) P) U133.y.kids _) := par_give hl142 (Below.size (kept_trans KB68.out (kept_trans Kk90.out (kept_trans Kk99.out (kept_trans Kk107.out (kept_trans Kk110.out (kept_trans Kk119.out (kept_trans Kk127.out Kk130.out)))))))) (xlt_later XL85.out (kept_trans Kk90.out (kept_trans Kk99.out (kept_trans Kk107.out (kept_trans Kk110.out (kept_trans Kk119.out (kept_trans Kk127.out Kk130.out)))))))
                    have Hhl143 : Hid (LiesQ w131 (Par w V0.heap.size (w26.heap.size :: []) P) U133.h.kids _) := par_give hl143 (Below.size (kept_trans KB68.out (kept_trans Kk90.out (kept_trans Kk99.out (kept_trans Kk107.out (kept_trans Kk110.out (kept_trans Kk119.out (kept_trans Kk127.out Kk130.out)))))))) (xlt_later XL85.out (kept_trans Kk90.out (kept_trans Kk99.out (kept_trans Kk107.out (kept_trans Kk110.out (kept_trans Kk119.out (kept_trans Kk127.out Kk130.out)))))))
                    clear hl139 hl140 hl141 hl142 hl143
                    clear hHeld
                    refine hK.out _ _ (seesN_kept _ (kept_trans Kk99.out (kept_trans Kk107.out (kept_trans Kk110.out (kept_trans Kk119.out (kept_trans Kk127.out (kept_trans Kk130.out Kk159.out))))))) (fun hHeld => ?_)
                    clear hK K
                    (try simp only [Act.put, List.setIfInBounds_toArray, List.set_cons_zero, List.set_cons_succ])
                    refine wpAnyH_ready (rs := [22]) (by kernel_rfl) (by simp) ?_
                    refine AllReadyH.cons (o := congTypesr4_22) rfl (fun K hK => ?_) ?_
                    · unfold congTypesr4_22
                      go_simp
                      refine (rcLam_any x y z g (Par w V0.heap.size (w26.heap.size :: []) P) w131 (.slice aga g.a.kids.length cga) (.slice agc g.c.kids.length cgc) (.slice agb g.b.kids.length cgb) (.slice agd g.d.kids.length cgd) (.slice age g.e.kids.length cge) (.slice agf g.f.kids.length cgf) (.slice ax x.kids.length cx) (.slice ay y.kids.length cy) (.slice az z.kids.length cz) (show Fm.fine g from ⟨Gg.out.1, Gg.out.2.1, Gg.out.2.2.1, Gg.out.2.2.2.1, Gg.out.2.2.2.2.1, Gg.out.2.2.2.2.2.1, Gg.out.2.2.2.2.2.2.1, Gg.out.2.2.2.2.2.2.2⟩) ⟨(HL69.out.later (kept_trans Kk90.out (kept_trans Kk99.out (kept_trans Kk107.out (kept_trans Kk110.out (kept_trans Kk119.out (kept_trans Kk127.out (kept_trans Kk130.out Kk159.out)))))))), (HL70.out.later (kept_trans Kk90.out (kept_trans Kk99.out (kept_trans Kk107.out (kept_trans Kk110.out (kept_trans Kk119.out (kept_trans Kk127.out (kept_trans Kk130.out Kk159.out)))))))), (HL71.out.later (kept_trans Kk90.out (kept_trans Kk99.out (kept_trans Kk107.out (kept_trans Kk110.out (kept_trans Kk119.out (kept_trans Kk127.out (kept_trans Kk130.out Kk159.out)))))))), (HL72.out.later (kept_trans Kk90.out (kept_trans Kk99.out (kept_trans Kk107.out (kept_trans Kk110.out (kept_trans Kk119.out (kept_trans Kk127.out (kept_trans Kk130.out Kk159.out)))))))), (HL73.out.later (kept_trans Kk90.out (kept_trans Kk99.out (kept_trans Kk107.out (kept_trans Kk110.out (kept_trans Kk119.out (kept_trans Kk127.out (kept_trans Kk130.out Kk159.out)))))))), (HL74.out.later (kept_trans Kk90.out (kept_trans Kk99.out (kept_trans Kk107.out (kept_trans Kk110.out (kept_trans Kk119.out (kept_trans Kk127.out (kept_trans Kk130.out Kk159.out))))))))⟩ Gx.out (HL75.out.later (kept_trans Kk90.out (kept_trans Kk99.out (kept_trans Kk107.out (kept_trans Kk110.out (kept_trans Kk119.out (kept_trans Kk127.out (kept_trans Kk130.out Kk159.out)))))))) Gy.out (HL76.out.later (kept_trans Kk90.out (kept_trans Kk99.out (kept_trans Kk107.out (kept_trans Kk110.out (kept_trans Kk119.out (kept_trans Kk127.out (kept_trans Kk130.out Kk159.out)))))))) Gz.out (HL77.out.later (kept_trans Kk90.out (kept_trans Kk99.out (kept_trans Kk107.out (kept_trans Kk110.out (kept_trans Kk119.out (kept_trans Kk127.out (kept_trans Kk130.out Kk159.out))))))))).mono ?_
                      rw [HU133.out]
                      rintro e w160 ⟨s162, s163, s164, s165, s166, rfl, ⟨hl167, hl168, hl169, hl170, hl171⟩, k161⟩
                      obtain ⟨a172, c173, S174, rfl, -⟩ := hl167.out
                      obtain ⟨a175, c176, S177, rfl, -⟩ := hl168.out
                      obtain ⟨a178, c179, S180, rfl, -⟩ := hl169.out
                      obtain ⟨a181, c182, S183, rfl, -⟩ := hl170.out
                      obtain ⟨a184, c185, S186, rfl, -⟩ := hl171.out
                      have Kk187 := Lib.hid k161
                      clear k161
                      have Hhl167 : Hid (LiesQ w160 (Par w V0.heap.size (w26.heap.size :: []) P) U133.a.kids _) := par_give hl167 (Below.size (kept_trans KB68.out (kept_trans Kk90.out (kept_trans Kk99.out (kept_trans Kk107.out (kept_trans Kk110.out (kept_trans Kk119.out (kept_trans Kk127.out (kept_trans Kk130.out Kk159.out))))))))) (xlt_later XL85.out (kept_trans Kk90.out (kept_trans Kk99.out (kept_trans Kk107.out (kept_trans Kk110.out (kept_trans Kk119.out (kept_trans Kk127.out (kept_trans Kk130.out Kk159.out))))))))
                      have Hhl168 : Hid (LiesQ w160 (Par w V0.heap.size (w26.heap.size :: []) P) U133.b.kids _) := par_give hl168 (Below.size (kept_trans KB68.out (kept_trans Kk90.out (kept_trans Kk99.out (kept_trans Kk107.out (kept_trans Kk110.out (kept_trans Kk119.out (kept_trans Kk127.out (kept_trans Kk130.out Kk159.out))))))))) (xlt_later XL85.out (kept_trans Kk90.out (kept_trans Kk99.out (kept_trans Kk107.out (kept_trans Kk110.out (kept_trans Kk119.out (kept_trans Kk127.out (kept_trans Kk130.out Kk159.out))))))))
                      have Hhl169 : Hid (LiesQ w160 (Par w V0.heap.size (w26.heap.size :: []) P) U133.x.kids _) := par_give hl169 (Below.size (kept_trans KB68.out (kept_trans Kk90.out (kept_trans Kk99.out (kept_trans Kk107.out (kept_trans Kk110.out (kept_trans Kk119.out (kept_trans Kk127.out (kept_trans Kk130.out Kk159.out))))))))) (xlt_later XL85.out (kept_trans Kk90.out (kept_trans Kk99.out (kept_trans Kk107.out (kept_trans Kk110.out (kept_trans Kk119.out (kept_trans Kk127.out (kept_trans Kk130.out Kk159.out))))))))
                      have Hhl170 : Hid (LiesQ w160 (Par w V0.heap.size (w26.heap.size :: []) P) U133.y.kids _) := par_give hl170 (Below.size (kept_trans KB68.out (kept_trans Kk90.out (kept_trans Kk99.out (kept_trans Kk107.out (kept_trans Kk110.out (kept_trans Kk119.out (kept_trans Kk127.out (kept_trans Kk130.out Kk159.out))))))))) (xlt_later XL85.out (kept_trans Kk90.out (kept_trans Kk99.out (kept_trans Kk107.out (kept_trans Kk110.out (kept_trans Kk119.out (kept_trans Kk127.out (kept_trans Kk130.out Kk159.out))))))))
                      have Hhl171 : Hid (LiesQ w160 (Par w V0.heap.size (w26.heap.size :: []) P) U133.h.kids _) := par_give hl171 (Below.size (kept_trans KB68.out (kept_trans Kk90.out (kept_trans Kk99.out (kept_trans Kk107.out (kept_trans Kk110.out (kept_trans Kk119.out (kept_trans Kk127.out (kept_trans Kk130.out Kk159.out))))))))) (xlt_later XL85.out (kept_trans Kk90.out (kept_trans Kk99.out (kept_trans Kk107.out (kept_trans Kk110.out (kept_trans Kk119.out (kept_trans Kk127.out (kept_trans Kk130.out Kk159.out))))))))
                      clear hl167 hl168 hl169 hl170 hl171
                      clear hHeld
                      refine hK.out _ _ (seesN_kept _ (kept_trans Kk99.out (kept_trans Kk107.out (kept_trans Kk110.out (kept_trans Kk119.out (kept_trans Kk127.out (kept_trans Kk130.out (kept_trans Kk159.out Kk187.out)))))))) (fun hHeld => ?_)
                      clear hK K
                      (try simp only [Act.put, List.setIfInBounds_toArray, List.set_cons_zero, List.set_cons_succ])
                      refine wpAnyH_ready (rs := [23]) (by kernel_rfl) (by simp) ?_
                      refine AllReadyH.cons (o := congTypesr4_23) rfl (fun K hK => ?_) ?_
                      · unfold congTypesr4_23
                        go_simp
                        refine (lsame4_any U133 (Par w V0.heap.size (w26.heap.size :: []) P) _ (.slice a144 U133.a.kids.length c145) (.slice a147 U133.b.kids.length c148) (.slice a150 U133.x.kids.length c151) (.slice a153 U133.y.kids.length c154) (.slice a156 U133.h.kids.length c157) (.slice a172 U133.a.kids.length c173) (.slice a175 U133.b.kids.length c176) (.slice a178 U133.x.kids.length c179) (.slice a181 U133.y.kids.length c182) (.slice a184 U133.h.kids.length c185) ⟨(Hhl139.out.later Kk187.out), (Hhl140.out.later Kk187.out), (Hhl141.out.later Kk187.out), (Hhl142.out.later Kk187.out), (Hhl143.out.later Kk187.out)⟩ ⟨Hhl167.out, Hhl168.out, Hhl169.out, Hhl170.out, Hhl171.out⟩).mono ?_
                        rintro e w188 ⟨rfl, k189⟩
                        have Kk190 := Lib.hid k189
                        clear k189
                        clear hHeld
                        refine hK.out _ _ (seesN_kept _ (kept_trans Kk99.out (kept_trans Kk107.out (kept_trans Kk110.out (kept_trans Kk119.out (kept_trans Kk127.out (kept_trans Kk130.out (kept_trans Kk159.out (kept_trans Kk187.out Kk190.out))))))))) (fun hHeld => ?_)
                        clear hK K
                        (try simp only [Act.put, List.setIfInBounds_toArray, List.set_cons_zero, List.set_cons_succ])
                        refine take_at 24 45 congTypesr4_24 (v := ?_) (Or.inl ⟨by rfl, ?_⟩) ?_
                        rotate_left 1
                        · ((intro w hSw; (try dsimp only at hSw); unfold congTypesr4_24; go_simp) <;> with_reducible rfl)
                        (try simp only [Act.put, List.setIfInBounds_toArray, List.set_cons_zero, List.set_cons_succ])
                        refine take_at 25 46 congTypesr4_25 (v := ?_) (Or.inl ⟨by rfl, ?_⟩) ?_
                        rotate_left 1
                        · ((intro w hSw; (try dsimp only at hSw); unfold congTypesr4_25; go_simp) <;> with_reducible rfl)
                        (try simp only [Act.put, List.setIfInBounds_toArray, List.set_cons_zero, List.set_cons_succ])
                        refine wpAnyH_ready (rs := [26]) (by kernel_rfl) (by simp) ?_
                        refine AllReadyH.cons (o := congTypesr4_26) rfl (fun K hK => ?_) ?_
                        · unfold congTypesr4_26
                          go_simp
                          refine (wakes24_any _).mono ?_
                          rintro e w191 ⟨rfl, k192⟩
                          have Kk193 := Lib.hid k192
                          clear k192
                          clear hHeld
                          refine hK.out _ _ (seesN_kept _ (kept_trans Kk99.out (kept_trans Kk107.out (kept_trans Kk110.out (kept_trans Kk119.out (kept_trans Kk127.out (kept_trans Kk130.out (kept_trans Kk159.out (kept_trans Kk187.out (kept_trans Kk190.out Kk193.out)))))))))) (fun hHeld => ?_)
                          clear hK K
                          (try simp only [Act.put, List.setIfInBounds_toArray, List.set_cons_zero, List.set_cons_succ])
                          refine take_at 27 48 congTypesr4_27 (v := ?_) (Or.inl ⟨by rfl, ?_⟩) ?_
                          rotate_left 1
                          · ((intro w hSw; (try dsimp only at hSw); unfold congTypesr4_27; go_simp) <;> with_reducible rfl)
                          (try simp only [Act.put, List.setIfInBounds_toArray, List.set_cons_zero, List.set_cons_succ])
                          refine take_at 28 8 congTypesr4_28 (v := ?_) (Or.inl ⟨by rfl, ?_⟩) ?_
                          rotate_left 1
                          · ((intro w hSw; (try dsimp only at hSw); unfold congTypesr4_28; go_simp) <;> with_reducible rfl)
                          (try simp only [Act.put, List.setIfInBounds_toArray, List.set_cons_zero, List.set_cons_succ])
                          refine wpAnyH_done (by kernel_rfl) ?_ _
                          clear hHeld
                          have kvV0 : SeesN V0 V0.heap.size w191 := seesN_kept _ (kept_trans KB68.out (kept_trans Kk90.out (kept_trans Kk99.out (kept_trans Kk107.out (kept_trans Kk110.out (kept_trans Kk119.out (kept_trans Kk127.out (kept_trans Kk130.out (kept_trans Kk159.out (kept_trans Kk187.out (kept_trans Kk190.out Kk193.out)))))))))))
                          have kvW60 : SeesN W60 V0.heap.size w191 := seesN_kept _ (kept_trans Kk90.out (kept_trans Kk99.out (kept_trans Kk107.out (kept_trans Kk110.out (kept_trans Kk119.out (kept_trans Kk127.out (kept_trans Kk130.out (kept_trans Kk159.out (kept_trans Kk187.out (kept_trans Kk190.out Kk193.out))))))))))
                          go_wp2
                          go_ret
                          exact ⟨rfl, (kept_trans KB67.out (kept_trans Kk90.out (kept_trans Kk99.out (kept_trans Kk107.out (kept_trans Kk110.out (kept_trans Kk119.out (kept_trans Kk127.out (kept_trans Kk130.out (kept_trans Kk159.out (kept_trans Kk187.out (kept_trans Kk190.out Kk193.out)))))))))))⟩
                        exact AllReadyH.nil
                      exact AllReadyH.nil
                    exact AllReadyH.nil
                  exact AllReadyH.nil
                exact AllReadyH.nil
              exact AllReadyH.nil
            exact AllReadyH.nil
          exact AllReadyH.nil
        exact AllReadyH.nil
      exact AllReadyH.nil
    | true =>
      have kvV0 : SeesN V0 V0.heap.size w21 := seesN_kept _ (kept_trans Kk12.out (kept_trans Kk18.out Kk25.out))
      go_wp2
      go_ret
      exact ⟨rfl, (kept_trans Kk7.out (kept_trans Kk12.out (kept_trans Kk18.out Kk25.out)))⟩
  | true =>
    have kvV0 : SeesN V0 V0.heap.size w8 := seesN_kept _ Kk12.out
    go_wp2
    go_ret
    exact ⟨rfl, (kept_trans Kk7.out Kk12.out)⟩

end Go.Proofs.Ytkdceahmknhojaa

namespace Go.Proofs.Ytkdceahmknhojaa
open Go.ChangeShapes Go.WideShapes Go.ChangeAt Go.RowKit

theorem own : ownKnob Try.prog.godebug = none := by kernel_rfl
theorem cells_int : Try.prog.cellsOf 3 = 1 := by kernel_rfl
theorem cells_kids : Try.prog.cellsOf 30 = 1 := by kernel_rfl
theorem cells_term : Try.prog.cellsOf 32 = 5 := by kernel_rfl
theorem laidOut : laidOutB Try.prog = true := by kernel_rfl

instance instOpenTm : Inhabited (Tm × Value) := ⟨(.mk 0 0 0 0 [], .nilIface)⟩

theorem list5 {α : Type} {l : List α} (h : l.length = 5) : ∃ a b c d e, l = [a, b, c, d, e] := by
  match l, h with
  | [a, b, c, d, e], _ => exact ⟨a, b, c, d, e, rfl⟩

theorem wf_I64 {x : Int} (h : (Lit.int .i64 x).wf = true) : I64 x := by
  simp [Lit.wf] at h
  have hm : IntKind.i64.min = -9223372036854775808 := by decide
  rw [hm] at h
  exact h

set_option maxRecDepth 100000 in
theorem open_term {H : Type} {enc : TypeId × Value → H} {w : World} {base : Nat} {sp : Nat → Bool} {hd : Bool} : ∀ (fuel : Nat) (cs : List Value) (x : DataW H × List MemPlace),
    DataW.trod enc Try.prog w base sp hd fuel 32 cs = some x → ∃ (t : Tm) (s : Value), cs = [.int .i64 t.k, .int .i64 t.i, .int .i64 t.j, .int .i64 t.n, s] ∧ t.fine ∧ Lies w t.kids s := by
  intro fuel
  induction fuel using Nat.strongRecOn with
  | _ fuel ih =>
    intro cs x h
    obtain ⟨xs, n, rfl, rfl, hl, hlen, hf⟩ := DataW.trod_struct Try.underlying32 h
    rw [cells_term] at hl
    obtain ⟨v0, v1, v2, v3, v4, rfl⟩ := list5 hl
    obtain ⟨y0, y1, y2, y3, y4, rfl⟩ := list5 hlen
    have g0 := hf 0 _ rfl
    have g1 := hf 1 _ rfl
    have g2 := hf 2 _ rfl
    have g3 := hf 3 _ rfl
    have g4 := hf 4 _ rfl
    simp [cells_int, cells_kids] at g0 g1 g2 g3 g4
    obtain ⟨k, e0, -, w0⟩ := DataW.trod_int Try.underlying3 g0
    obtain ⟨i, e1, -, w1⟩ := DataW.trod_int Try.underlying3 g1
    obtain ⟨j, e2, -, w2⟩ := DataW.trod_int Try.underlying3 g2
    obtain ⟨m, e3, -, w3⟩ := DataW.trod_int Try.underlying3 g3
    simp at e0 e1 e2 e3
    subst e0 e1 e2 e3
    rcases DataW.trod_slice Try.underlying30 g4 with ⟨e4, -⟩ | ⟨a, len, cap, elems, rest, n', rfl, e4, -, hb, hlc, hm, hlen', hel, -, -⟩
    · simp at e4
      subst e4
      exact ⟨.mk k i j m [], _, rfl, ⟨wf_I64 w0, wf_I64 w1, wf_I64 w2, wf_I64 w3⟩, .mk [] none 0 (fun _ => .nilIface) (Nat.le_refl _) (by decide) (fun _ h => by cases h) (fun _ h => by cases h) (fun _ h => by cases h)⟩
    · simp at e4
      subst e4
      have key : ∀ i, i < len → ∃ p : Tm × Value, p.1.fine ∧ Lies w p.1.kids p.2 ∧ ∃ b o, a = ⟨b, o, none⟩ ∧ Node w b (o + i * 5) p.1 p.2 := by
        intro i hi
        have h1 := hel i hi
        rw [cells_term, List.getElem?_eq_getElem (by omega)] at h1
        obtain ⟨cs', h2, h3⟩ := Option.bind_eq_some_iff.1 h1
        obtain ⟨t, s, rfl, hfine, hlies⟩ := ih n' (by omega) _ _ h3
        obtain ⟨-, -, hcell⟩ := World.cells?_some h2
        have hs0 : a.spot = none := by
          have h1 := hel 0 (by omega)
          rw [cells_term, List.getElem?_eq_getElem (by omega)] at h1
          obtain ⟨cs0, h2, -⟩ := Option.bind_eq_some_iff.1 h1
          obtain ⟨-, hl0, hc0⟩ := World.cells?_some h2
          have c0 := hc0 0 (by omega)
          rw [List.getElem?_eq_getElem (by omega)] at c0
          simpa [Addr.add] using World.cell?_spot c0
        obtain ⟨b, o, spot⟩ := a
        simp only at hs0
        subst hs0
        refine ⟨(t, s), hfine, hlies, b, o, rfl, ?_⟩
        have hc : ∀ q, q < 5 → w.cell? ⟨b, o + i * 5 + q, none⟩ = [Value.int .i64 t.k, .int .i64 t.i, .int .i64 t.j, .int .i64 t.n, s][q]? := fun q hq => by
          have := hcell q hq
          rwa [add_plain, add_plain] at this
        exact ⟨hc 0 (by omega), hc 1 (by omega), hc 2 (by omega), hc 3 (by omega), hc 4 (by omega)⟩
      obtain ⟨f, hf'⟩ := Go.Deep.choose_lt (α := Tm × Value) (p := fun i p => p.1.fine ∧ Lies w p.1.kids p.2 ∧ ∃ b o, a = ⟨b, o, none⟩ ∧ Node w b (o + i * 5) p.1 p.2) key
      have hl5 : ((List.range len).map fun i => (f i).1).length = len := by simp
      refine ⟨.mk k i j m ((List.range len).map fun i => (f i).1), _, rfl, ⟨wf_I64 w0, wf_I64 w1, wf_I64 w2, wf_I64 w3⟩, ?_⟩
      have := Lies.mk (w := w) ((List.range len).map fun i => (f i).1) (some a) cap (fun i => (f i).2) (by simpa using hlc) hm
        (fun x hx => by
          obtain ⟨i, hi, rfl⟩ := List.mem_map.1 hx
          exact (hf' i (List.mem_range.1 hi)).1)
        (fun i hi => by
          obtain ⟨b, o, ha, hn⟩ := (hf' i (by simpa using hi)).2.2
          exact ⟨b, o, by rw [ha], by simpa using hn⟩)
        (fun i hi => by simpa using (hf' i (by simpa using hi)).2.1)
      rwa [hl5] at this
end Go.Proofs.Ytkdceahmknhojaa

namespace Go.Proofs.Ytkdceahmknhojaa
open Go.ChangeShapes Go.WideShapes Go.ChangeAt Go.RowKit

instance instOpenEn : Inhabited (En × Value) := ⟨(⟨.mk 0 0 0 0 [], 0⟩, .nilIface)⟩
end Go.Proofs.Ytkdceahmknhojaa

namespace Go.Proofs.Ytkdceahmknhojaa
open Go.ChangeShapes Go.WideShapes Go.ChangeAt Go.RowKit

set_option maxRecDepth 100000 in
theorem open_argTF {H : Type} {enc : TypeId × Value → H} {W : World} {r : Reach} {b0 base : Nat} {sp : Nat → Bool} {hd : Bool} {v : Value} {d : DataW H} {p : List MemPlace} (hv : Value.okWide Try.prog W r b0 32 v)
    (h : DataW.Trod enc Try.prog W base sp hd 32 v d p) : ∃ (t : Tm) (s : Value), Lies W t.kids s ∧ t.fine ∧ v = tv t s := by
  obtain ⟨cs, rfl, hsz⟩ := okWide_struct Try.underlying32 hv
  obtain ⟨fuel, hf⟩ := h
  obtain ⟨t, s, hcs, hft, hl⟩ := open_term fuel _ _ hf
  refine ⟨t, s, hl, hft, ?_⟩
  have : cs.toList = [.int .i64 t.k, .int .i64 t.i, .int .i64 t.j, .int .i64 t.n, s] := by simpa [Value.cells] using hcs
  rw [show cs = #[.int .i64 t.k, .int .i64 t.i, .int .i64 t.j, .int .i64 t.n, s] from by cases cs; simp_all]
end Go.Proofs.Ytkdceahmknhojaa

namespace Go.Proofs.Ytkdceahmknhojaa
open Go.ChangeShapes Go.WideShapes Go.ChangeAt Go.RowKit

theorem cells_fam : Try.prog.cellsOf 69 = 32 := by kernel_rfl
theorem list32 {α : Type} {l : List α} (h : l.length = 32) : ∃ v0 v1 v2 v3 v4 v5 v6 v7 v8 v9 v10 v11 v12 v13 v14 v15 v16 v17 v18 v19 v20 v21 v22 v23 v24 v25 v26 v27 v28 v29 v30 v31, l = [v0, v1, v2, v3, v4, v5, v6, v7, v8, v9, v10, v11, v12, v13, v14, v15, v16, v17, v18, v19, v20, v21, v22, v23, v24, v25, v26, v27, v28, v29, v30, v31] := by
  match l, h with
  | [v0, v1, v2, v3, v4, v5, v6, v7, v8, v9, v10, v11, v12, v13, v14, v15, v16, v17, v18, v19, v20, v21, v22, v23, v24, v25, v26, v27, v28, v29, v30, v31], _ => exact ⟨v0, v1, v2, v3, v4, v5, v6, v7, v8, v9, v10, v11, v12, v13, v14, v15, v16, v17, v18, v19, v20, v21, v22, v23, v24, v25, v26, v27, v28, v29, v30, v31, rfl⟩
theorem flds8 {α : Type} {l : List α} (h : l.length = 8) : ∃ y0 y1 y2 y3 y4 y5 y6 y7, l = [y0, y1, y2, y3, y4, y5, y6, y7] := by
  match l, h with
  | [y0, y1, y2, y3, y4, y5, y6, y7], _ => exact ⟨y0, y1, y2, y3, y4, y5, y6, y7, rfl⟩
set_option maxRecDepth 100000 in
theorem open_fam {H : Type} {enc : TypeId × Value → H} {w : World} {base : Nat} {sp : Nat → Bool} {hd : Bool} (fuel : Nat) (cs : List Value) (x : DataW H × List MemPlace)
    (h : DataW.trod enc Try.prog w base sp hd fuel 69 cs = some x) : ∃ (j : Fm) (sa sc sb sd se sf : Value), cs = [.int .i64 j.i, .int .i64 j.j, .int .i64 j.a.k, .int .i64 j.a.i, .int .i64 j.a.j, .int .i64 j.a.n, sa, .int .i64 j.c.k, .int .i64 j.c.i, .int .i64 j.c.j, .int .i64 j.c.n, sc, .int .i64 j.b.k, .int .i64 j.b.i, .int .i64 j.b.j, .int .i64 j.b.n, sb, .int .i64 j.d.k, .int .i64 j.d.i, .int .i64 j.d.j, .int .i64 j.d.n, sd, .int .i64 j.e.k, .int .i64 j.e.i, .int .i64 j.e.j, .int .i64 j.e.n, se, .int .i64 j.f.k, .int .i64 j.f.i, .int .i64 j.f.j, .int .i64 j.f.n, sf] ∧ j.fine ∧ FLies w j sa sc sb sd se sf := by
  obtain ⟨xs, n, rfl, rfl, hl, hlen, hf⟩ := DataW.trod_struct Try.underlying69 h
  rw [cells_fam] at hl
  obtain ⟨v0, v1, v2, v3, v4, v5, v6, v7, v8, v9, v10, v11, v12, v13, v14, v15, v16, v17, v18, v19, v20, v21, v22, v23, v24, v25, v26, v27, v28, v29, v30, v31, rfl⟩ := list32 hl
  obtain ⟨y0, y1, y2, y3, y4, y5, y6, y7, rfl⟩ := flds8 hlen
  have g0 := hf 0 _ rfl
  have g1 := hf 1 _ rfl
  have g2 := hf 2 _ rfl
  have g3 := hf 3 _ rfl
  have g4 := hf 4 _ rfl
  have g5 := hf 5 _ rfl
  have g6 := hf 6 _ rfl
  have g7 := hf 7 _ rfl
  simp [cells_int, cells_term] at g0 g1 g2 g3 g4 g5 g6 g7
  obtain ⟨ii, ei, -, wi⟩ := DataW.trod_int Try.underlying3 g0
  simp at ei
  subst ei
  obtain ⟨ij, ej, -, wj⟩ := DataW.trod_int Try.underlying3 g1
  simp at ej
  subst ej
  obtain ⟨ta, sa, hca, hfa, hla⟩ := open_term n _ _ g2
  simp at hca
  obtain ⟨rfl, rfl, rfl, rfl, rfl⟩ := hca
  obtain ⟨tc, sc, hcc, hfc, hlc⟩ := open_term n _ _ g3
  simp at hcc
  obtain ⟨rfl, rfl, rfl, rfl, rfl⟩ := hcc
  obtain ⟨tb, sb, hcb, hfb, hlb⟩ := open_term n _ _ g4
  simp at hcb
  obtain ⟨rfl, rfl, rfl, rfl, rfl⟩ := hcb
  obtain ⟨td, sd, hcd, hfd, hld⟩ := open_term n _ _ g5
  simp at hcd
  obtain ⟨rfl, rfl, rfl, rfl, rfl⟩ := hcd
  obtain ⟨te, se, hce, hfe, hle⟩ := open_term n _ _ g6
  simp at hce
  obtain ⟨rfl, rfl, rfl, rfl, rfl⟩ := hce
  obtain ⟨tf, sf, hcf, hff, hlf⟩ := open_term n _ _ g7
  simp at hcf
  obtain ⟨rfl, rfl, rfl, rfl, rfl⟩ := hcf
  exact ⟨⟨ii, ij, ta, tc, tb, td, te, tf⟩, _, _, _, _, _, _, rfl, ⟨wf_I64 wi, wf_I64 wj, hfa, hfc, hfb, hfd, hfe, hff⟩, hla, hlc, hlb, hld, hle, hlf⟩
set_option maxRecDepth 100000 in
theorem open_argG {H : Type} {enc : TypeId × Value → H} {W : World} {r : Reach} {b0 base : Nat} {sp : Nat → Bool} {hd : Bool} {v : Value} {d : DataW H} {p : List MemPlace} (hv' : Value.okWide Try.prog W r b0 69 v)
    (h : DataW.Trod enc Try.prog W base sp hd 69 v d p) : ∃ (j : Fm) (sa sc sb sd se sf : Value), FLies W j sa sc sb sd se sf ∧ j.fine ∧ v = fv j sa sc sb sd se sf := by
  obtain ⟨cs, rfl, hsz⟩ := okWide_struct Try.underlying69 hv'
  obtain ⟨fuel, hf⟩ := h
  obtain ⟨j, sa, sc, sb, sd, se, sf, hcs, hfj, hl⟩ := open_fam fuel _ _ hf
  refine ⟨j, sa, sc, sb, sd, se, sf, hl, hfj, ?_⟩
  have : cs.toList = [.int .i64 j.i, .int .i64 j.j, .int .i64 j.a.k, .int .i64 j.a.i, .int .i64 j.a.j, .int .i64 j.a.n, sa, .int .i64 j.c.k, .int .i64 j.c.i, .int .i64 j.c.j, .int .i64 j.c.n, sc, .int .i64 j.b.k, .int .i64 j.b.i, .int .i64 j.b.j, .int .i64 j.b.n, sb, .int .i64 j.d.k, .int .i64 j.d.i, .int .i64 j.d.j, .int .i64 j.d.n, sd, .int .i64 j.e.k, .int .i64 j.e.i, .int .i64 j.e.j, .int .i64 j.e.n, se, .int .i64 j.f.k, .int .i64 j.f.i, .int .i64 j.f.j, .int .i64 j.f.n, sf] := by simpa [Value.cells] using hcs
  rw [show cs = #[.int .i64 j.i, .int .i64 j.j, .int .i64 j.a.k, .int .i64 j.a.i, .int .i64 j.a.j, .int .i64 j.a.n, sa, .int .i64 j.c.k, .int .i64 j.c.i, .int .i64 j.c.j, .int .i64 j.c.n, sc, .int .i64 j.b.k, .int .i64 j.b.i, .int .i64 j.b.j, .int .i64 j.b.n, sb, .int .i64 j.d.k, .int .i64 j.d.i, .int .i64 j.d.j, .int .i64 j.d.n, sd, .int .i64 j.e.k, .int .i64 j.e.i, .int .i64 j.e.j, .int .i64 j.e.n, se, .int .i64 j.f.k, .int .i64 j.f.i, .int .i64 j.f.j, .int .i64 j.f.n, sf] from by cases cs; simp_all]
end Go.Proofs.Ytkdceahmknhojaa

namespace Go.Proofs.Ytkdceahmknhojaa
open Go.ChangeShapes Go.WideShapes

def code (l : List Nat) : List Char := l.map Char.ofNat
def joinN : List (List Nat) → List Nat
  | [] => []
  | [a] => a
  | a :: b :: r => a ++ 32 :: joinN (b :: r)

theorem words_one : ∀ a : List Nat, (a.all fun n => Char.ofNat n != Char.ofNat 32) = true → wordsSigns (code a) = [code a]
  | [], _ => rfl
  | n :: a, h => by
    simp only [List.all_cons, Bool.and_eq_true, bne_iff_ne] at h
    have ih := words_one a h.2
    show wordsSigns (Char.ofNat n :: code a) = _
    rw [wordsSigns]
    · rw [ih]; rfl
    · exact h.1
theorem words_more : ∀ (a : List Nat) (r : List Char), (a.all fun n => Char.ofNat n != Char.ofNat 32) = true → wordsSigns (code a ++ Char.ofNat 32 :: r) = code a :: wordsSigns r
  | [], r, _ => by
    show wordsSigns (Char.ofNat 32 :: r) = _
    rw [show Char.ofNat 32 = _ from rfl, wordsSigns]; rfl
  | n :: a, r, h => by
    simp only [List.all_cons, Bool.and_eq_true, bne_iff_ne] at h
    have ih := words_more a r h.2
    show wordsSigns (Char.ofNat n :: (code a ++ Char.ofNat 32 :: r)) = _
    rw [wordsSigns]
    · rw [ih]; rfl
    · exact h.1
theorem words_join : ∀ ws : List (List Nat), ws ≠ [] → (ws.all fun w => w.all fun n => Char.ofNat n != Char.ofNat 32) = true → wordsSigns (code (joinN ws)) = ws.map code
  | [], h, _ => absurd rfl h
  | [a], _, h => by simp only [List.all_cons, List.all_nil, Bool.and_true] at h; exact words_one a h
  | a :: b :: r, _, h => by
    have h' := h
    rw [List.all_cons, Bool.and_eq_true] at h'
    have ih := words_join (b :: r) (by simp) h'.2
    show wordsSigns (code (a ++ 32 :: joinN (b :: r))) = _
    rw [show code (a ++ 32 :: joinN (b :: r)) = code a ++ Char.ofNat 32 :: code (joinN (b :: r)) from by simp [code], words_more a _ h'.1, ih]; rfl

def cutWords : List (List Nat) := [[104, 97, 114, 110, 101, 115, 115],
  [102, 52, 56, 51, 100, 56, 99, 49, 49, 97, 51, 102, 55, 56, 101, 50, 99, 54, 102, 50, 51, 49, 56, 54, 48, 102, 51, 98, 99, 101, 97, 56, 98, 48, 97, 101, 97, 49, 51, 98, 100, 54, 53, 52, 99, 48, 102, 54, 97, 101, 50, 57, 100, 97, 48, 97, 50, 55, 55, 50, 52, 56, 55, 49],
  [99, 117, 116],
  [97, 116],
  [116, 114, 97, 110, 115, 104, 105, 112, 47, 116, 114, 97, 110, 115, 104, 105, 112, 108, 97, 119, 49, 53, 46, 80, 114, 101, 109, 105, 115, 101, 69, 120, 97, 99, 116],
  [116, 114, 97, 110, 115, 104, 105, 112, 47, 116, 114, 97, 110, 115, 104, 105, 112, 108, 97, 119, 49, 53, 46, 82, 117, 108, 101, 82, 105, 103, 104, 116],
  [116, 114, 97, 110, 115, 104, 105, 112, 47, 116, 114, 97, 110, 115, 104, 105, 112, 108, 97, 119, 49, 53, 46, 82, 117, 108, 101, 84, 117, 114, 110, 101, 100],
  [116, 114, 97, 110, 115, 104, 105, 112, 47, 116, 114, 97, 110, 115, 104, 105, 112, 108, 97, 119, 49, 53, 46, 82, 117, 108, 101, 76, 101, 118, 101, 108, 115],
  [116, 114, 97, 110, 115, 104, 105, 112, 47, 116, 114, 97, 110, 115, 104, 105, 112, 108, 97, 119, 50, 51, 46, 72, 101, 116, 80, 111, 105, 110, 116, 115],
  [116, 114, 97, 110, 115, 104, 105, 112, 47, 116, 114, 97, 110, 115, 104, 105, 112, 108, 97, 119, 50, 51, 46, 72, 101, 116, 77, 97, 107, 101, 115],
  [116, 114, 97, 110, 115, 104, 105, 112, 47, 116, 114, 97, 110, 115, 104, 105, 112, 108, 97, 119, 50, 51, 46, 72, 101, 116, 84, 104, 101, 110],
  [116, 114, 97, 110, 115, 104, 105, 112, 47, 116, 114, 97, 110, 115, 104, 105, 112, 108, 97, 119, 50, 51, 46, 72, 101, 116, 69, 110, 100, 115],
  [116, 114, 97, 110, 115, 104, 105, 112, 47, 116, 114, 97, 110, 115, 104, 105, 112, 108, 97, 119, 50, 52, 46, 67, 111, 110, 103, 84, 121, 112, 101, 115],
  [116, 114, 97, 110, 115, 104, 105, 112, 47, 116, 114, 97, 110, 115, 104, 105, 112, 108, 97, 119, 50, 52, 46, 67, 111, 110, 103, 67, 97, 108, 108, 115],
  [116, 114, 97, 110, 115, 104, 105, 112, 47, 116, 114, 97, 110, 115, 104, 105, 112, 108, 97, 119, 50, 52, 46, 67, 111, 110, 103, 69, 113, 115]]

set_option maxRecDepth 100000 in
theorem cut_words : wordsSigns Try.prog.initOrder.toList = cutWords.map code := by
  have h : Try.prog.initOrder.toList = code (joinN cutWords) := by
    show (String.ofList (code (joinN cutWords))).toList = _
    exact String.toList_ofList
  rw [h]
  exact words_join cutWords (by simp [cutWords]) (by decide +kernel)

theorem cut_behind : behindMainWord (cutWords.map code) = code [99, 117, 116] :: cutWords.tail.tail.tail.map code := by kernel_rfl
theorem cut_lifts : stripLifts liftWords (code [99, 117, 116] :: cutWords.tail.tail.tail.map code) = ([], code [99, 117, 116] :: cutWords.tail.tail.tail.map code) := by kernel_rfl
theorem cut1 : (code [99, 117, 116] == "gc".toList) = false := by kernel_rfl
theorem cut2 : (code [99, 117, 116] == "spec".toList) = false := by kernel_rfl
theorem cut3 : (code [99, 117, 116] == "cut".toList) = true := by kernel_rfl
theorem cut_all : behindMainWord (wordsSigns Try.prog.initOrder.toList) = code [99, 117, 116] :: cutWords.tail.tail.tail.map code := by rw [cut_words, cut_behind]
theorem make_of (P : Program) {c : List Char} {rest : List (List Char)} (h : behindMainWord (wordsSigns P.initOrder.toList) = c :: rest) (h1 : (c == "gc".toList) = false) (h2 : (c == "spec".toList) = false) (h3 : (c == "cut".toList) = true) : P.make = some .cut := by
  unfold Program.make; rw [h]
  simp only [h1, h2, h3, Bool.or_self, Bool.false_eq_true, if_false, Bool.true_or, if_true]
theorem mayEnter_of (P : Program) {c : List Char} {rest : List (List Char)} (h : behindMainWord (wordsSigns P.initOrder.toList) = c :: rest) (h3 : ((stripLifts liftWords (c :: rest)).2.head? == some "cut".toList) = true)
    (h4 : (stripLifts liftWords (c :: rest)).1 = []) (h5 : P.laysLater = false) (h6 : P.bearsReflect = false) (h7 : P.doorFits [] = true) : P.mayEnter = true := by
  unfold Program.mayEnter; rw [h]
  refine Bool.or_eq_true_iff.2 (Or.inr ?_)
  rw [h3, h4, h5, h6, h7]; rfl
theorem row_make : Try.prog.make = some .cut := make_of Try.prog cut_all cut1 cut2 cut3
theorem row_mayEnter : Try.prog.mayEnter = true := mayEnter_of Try.prog cut_all (by rw [cut_lifts]; kernel_rfl) (by rw [cut_lifts]) (by kernel_rfl) (by kernel_rfl) (by kernel_rfl)
theorem row_lifts : Try.prog.liftsFinal = false := by unfold Program.liftsFinal Program.headLifts; rw [cut_all, cut_lifts]; kernel_rfl
end Go.Proofs.Ytkdceahmknhojaa

namespace Go.Proofs.Ytkdceahmknhojaa.lawCongTypes
open Go.ChangeShapes Go.WideShapes Go.ChangeAt Go.RowKit

set_option maxRecDepth 100000 in
theorem lifted (os : Os) (started : os.Started) (H : Type) (enc : TypeId × Value → H) :
    ReturnsInHanded {} Try.checked os 11 .any (Rows.congTypesSpec.pre6 enc Try.prog Try.f11 Rows.congTypesRow.domain false) (Rows.congTypesSpec.post enc Try.prog Try.f11 false true false false) := by
  refine returnsInHanded_of_change (C := Try.checked) own started (by kernel_rfl) Try.func11
    (ChangeSpec.witness6 (enc := enc) (C := Try.checked) false ⟨#[], #[.agg #[.int .i64 0, .int .i64 0, .int .i64 0, .int .i64 0, .int .i64 0, .int .i64 0, .slice none 0 0, .int .i64 0, .int .i64 0, .int .i64 0, .int .i64 0, .slice none 0 0, .int .i64 0, .int .i64 0, .int .i64 0, .int .i64 0, .slice none 0 0, .int .i64 0, .int .i64 0, .int .i64 0, .int .i64 0, .slice none 0 0, .int .i64 0, .int .i64 0, .int .i64 0, .int .i64 0, .slice none 0 0, .int .i64 0, .int .i64 0, .int .i64 0, .int .i64 0, .slice none 0 0], .agg #[.int .i64 0, .int .i64 0, .int .i64 0, .int .i64 0, .slice none 0 0], .agg #[.int .i64 0, .int .i64 0, .int .i64 0, .int .i64 0, .slice none 0 0], .agg #[.int .i64 0, .int .i64 0, .int .i64 0, .int .i64 0, .slice none 0 0]], []⟩ 8 (by kernel_rfl) (by kernel_rfl) (by kernel_rfl) (by kernel_rfl)) ?_
  intro W base args ds gs before hval0 hW hcnd _
  have hval : ∀ (j : Nat) t v, Try.f11.params[j]? = some t → args[j]? = some v → Value.okWide Try.prog W .any base t v := hval0
  have hW' := hW
  obtain ⟨p, q, hA0, hV, rfl, hfz, hnd⟩ := hW
  have hA : DataW.TrodAll enc Try.prog W 0 (fun _ => true) true Try.f11.params.toList args.toList ds p := hA0
  rw [Try.params11] at hA hval
  obtain ⟨v0, vs0, d0, ds0, p0, q0, hargs0, rfl, rfl, h0, r0⟩ := trodAll_cons hA
  obtain ⟨v1, vs1, d1, ds1, p1, q1, hargs1, rfl, rfl, h1, r1⟩ := trodAll_cons r0
  obtain ⟨v2, vs2, d2, ds2, p2, q2, hargs2, rfl, rfl, h2, r2⟩ := trodAll_cons r1
  obtain ⟨v3, vs3, d3, ds3, p3, q3, hargs3, rfl, rfl, h3, r3⟩ := trodAll_cons r2
  obtain ⟨rfl, rfl, rfl⟩ := trodAll_nil r3
  obtain rfl : args = #[v0, v1, v2, v3] := by cases args; simp_all
  obtain ⟨rfl, rfl⟩ := trodVars_none hV
  have h0k := h0
  have hlt0 : ∀ x ∈ p0, x.block < W.heap.size := fun x hx => by have := hW'.lt x (by simp [hx]); simpa using this
  obtain ⟨t0, sa0, sc0, sb0, sd0, se0, sf0, hl0, hf0, hv0⟩ := open_argG (hval 0 69 v0 rfl rfl) h0
  subst hv0
  have h1k := h1
  have hlt1 : ∀ x ∈ p1, x.block < W.heap.size := fun x hx => by have := hW'.lt x (by simp [hx]); simpa using this
  obtain ⟨t1, s1, hl1, hf1, hv1⟩ := open_argTF (hval 1 32 v1 rfl rfl) h1
  subst hv1
  have h2k := h2
  have hlt2 : ∀ x ∈ p2, x.block < W.heap.size := fun x hx => by have := hW'.lt x (by simp [hx]); simpa using this
  obtain ⟨t2, s2, hl2, hf2, hv2⟩ := open_argTF (hval 2 32 v2 rfl rfl) h2
  subst hv2
  have h3k := h3
  have hlt3 : ∀ x ∈ p3, x.block < W.heap.size := fun x hx => by have := hW'.lt x (by simp [hx]); simpa using this
  obtain ⟨t3, s3, hl3, hf3, hv3⟩ := open_argTF (hval 3 32 v3 rfl rfl) h3
  subst hv3
  clear hA0 hval0
  simp only [List.append_nil] at hW'
  refine (congTypes_any t1 t2 t3 t0 (fun b => b < W.heap.size) W sa0 sc0 sb0 sd0 se0 sf0 s1 s2 s3 hf0 hl0.q hf1 hl1.q hf2 hl2.q hf3 hl3.q).mono fun e W' ⟨he, hb⟩ => ?_
  subst he
  exact ⟨_, rfl, _, _, _, [], _, [], hW', trodAll_cons_mk (shut_bool Try.underlying4 _) trodAll_mk0, (trodAll_cons_mk (Below.trod laidOut (by kernel_rfl) (of_decide_eq_true (by kernel_rfl)) h0k hb hlt0) (trodAll_cons_mk (Below.trod laidOut (by kernel_rfl) (of_decide_eq_true (by kernel_rfl)) h1k hb hlt1) (trodAll_cons_mk (Below.trod laidOut (by kernel_rfl) (of_decide_eq_true (by kernel_rfl)) h2k hb hlt2) (trodAll_cons_mk (Below.trod laidOut (by kernel_rfl) (of_decide_eq_true (by kernel_rfl)) h3k hb hlt3) trodAll_mk0)))), rfl, hb.frame _, fun h => by cases h⟩

theorem closed : joinedFacts Try.prog 11 Try.f11 Rows.congTypesSpec Rows.congTypesRow = true := by
  unfold joinedFacts
  rw [row_mayEnter, row_lifts, row_make]
  kernel_rfl

theorem proved : Rows.CongTypesSaid :=
  OpenClaim.holds_of_wide 11 Try.f11 rfl rfl rfl rfl rfl rfl rfl ⟨rfl, rfl, rfl, rfl, rfl⟩ rfl rfl rfl rfl rfl (by kernel_rfl) Try.func11 closed
    (of_decide_eq_true (by kernel_rfl)) (by unfold Func.isWrapper; first | (rw [if_pos (by decide +kernel)]; kernel_rfl) | (rw [if_neg (by decide +kernel)]; exact ⟨rfl, rfl⟩))
    (fun os started H enc _ => lifted os started H enc)
#print axioms proved
end Go.Proofs.Ytkdceahmknhojaa.lawCongTypes
