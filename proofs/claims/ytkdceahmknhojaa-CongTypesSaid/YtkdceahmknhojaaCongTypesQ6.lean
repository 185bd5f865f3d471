/-
  Facts and contracts that the proof of CongTypes uses.
-/
import Derived.Test.YtkdceahmknhojaaRows
import Derived.WalkKit
import Derived.Lib.Hide
import Derived.KernelRfl
import Derived.Deep.RegionWith
import Derived.Deep.RegionHeld3
import Derived.Deep.AppendLies
import Derived.Laws.Rows
import Derived.Laws.IdiomCopy
import Derived.Deep.Slices
import Derived.Lib.QuietBelow
import Derived.StillTailTactics
import Derived.BigQuiet
import Derived.IntWalk
import Derived.OwnWalk
import Derived.Deep.RegionLaw
import Derived.Deep.QuietTactic
import Derived.Deep.LoopGhost
import Derived.Deep.DeepCutAuto
import Derived.Deep.MidRow
import Derived.OrdersHeld
import Derived.Laws.Tables
import Derived.Laws.CopyOwn
import Derived.Laws.CopyRow
import Derived.Deep.Upon
import Derived.ArgAppend
import Derived.Deep.RegionHeld
import Derived.Lib.MinMax
import Derived.ProofKit
import Derived.OpenShut
import Derived.Carry
import Derived.ChangeSlices
import Derived.JoinedOf
import Derived.Test.YtkdceahmknhojaaCongTypesQ5
namespace Go.Proofs.Ytkdceahmknhojaa
open Go.RowKit

set_option maxRecDepth 20000 in
set_option maxHeartbeats 4000000 in
theorem rfright_any (g : Fm) (P : Nat → Prop) (w : World) (sga : Value) (sgc : Value) (sgb : Value) (sgd : Value) (sge : Value) (sgf : Value) (hfg : g.fine) (hlg : FQ w P g sga sgc sgb sgd sge sgf) : Calls Try.prog 116 #[fv g sga sgc sgb sgd sge sgf] w fun e w' => e = .returned (.bool (fmR g)) ∧ Kept w w' := by
  have Gg := Lib.hid hfg
  clear hfg
  obtain ⟨hlga, hlgc, hlgb, hlgd, hlge, hlgf⟩ := hlg
  obtain ⟨aga, cga, Sga, rfl, -⟩ := hlga.out
  obtain ⟨agc, cgc, Sgc, rfl, -⟩ := hlgc.out
  obtain ⟨agb, cgb, Sgb, rfl, -⟩ := hlgb.out
  obtain ⟨agd, cgd, Sgd, rfl, -⟩ := hlgd.out
  obtain ⟨age, cge, Sge, rfl, -⟩ := hlge.out
  obtain ⟨agf, cgf, Sgf, rfl, -⟩ := hlgf.out
  obtain ⟨du, hu1, hu2⟩ := under_term
  obtain ⟨dq, dq1, dq2⟩ := under_of 69 (by kernel_rfl)
  unfold fv
  go_enter Try.func116, Try.ntmps116
  go_upto_region 1 with fail
  refine at_code (fun V0 hV0 => ?_)
  obtain ⟨k2, x1, z3⟩ := alloc1 hV0
  have Kk4 := Lib.hid k2
  clear k2
  have Hx1 := Lib.hid x1
  have Z0 := Lib.hid z3
  clear z3 x1 hV0
  have HLga : Hid (LiesQ V0 (Par w V0.heap.size [] P) g.a.kids _) := (par_in _ _ hlga).later Kk4.out
  clear hlga
  have HLgc : Hid (LiesQ V0 (Par w V0.heap.size [] P) g.c.kids _) := (par_in _ _ hlgc).later Kk4.out
  clear hlgc
  have HLgb : Hid (LiesQ V0 (Par w V0.heap.size [] P) g.b.kids _) := (par_in _ _ hlgb).later Kk4.out
  clear hlgb
  have HLgd : Hid (LiesQ V0 (Par w V0.heap.size [] P) g.d.kids _) := (par_in _ _ hlgd).later Kk4.out
  clear hlgd
  have HLge : Hid (LiesQ V0 (Par w V0.heap.size [] P) g.e.kids _) := (par_in _ _ hlge).later Kk4.out
  clear hlge
  have HLgf : Hid (LiesQ V0 (Par w V0.heap.size [] P) g.f.kids _) := (par_in _ _ hlgf).later Kk4.out
  clear hlgf
  have ld5 := partN_cell (r := V0.heap.size) Hx1.out trivial 0 (.int .i64 g.i) rfl
  have ld6 := partN_cell (r := V0.heap.size) Hx1.out trivial 1 (.int .i64 g.j) rfl
  have kvV0 : SeesN V0 V0.heap.size V0 := seesN_kept _ (kept_refl _)
  go_wp2_with fail
  clear kvV0
  refine (rlevel_any g.i 3 _ Gg.out.1 (show I64 3 from by unfold I64; decide) (by decide) (by decide)).mono ?_
  obtain ⟨rb10, hb9⟩ : ∃ qb, (levN 3 g.i) = qb := ⟨_, rfl⟩
  rw [hb9]
  have Hhb9 := Lib.hid hb9
  clear hb9
  rintro e w7 ⟨rfl, k8⟩
  have Kk11 := Lib.hid k8
  clear k8
  cases rb10 with
  | false =>
    have kvV0 : SeesN V0 V0.heap.size w7 := seesN_kept _ Kk11.out
    go_wp2
    go_ret
    exact ⟨ret_bool (Eq.symm (show fmR g = false from by unfold fmR; rw [Hhb9.out]; (try rfl))), (kept_trans Kk4.out Kk11.out)⟩
  | true =>
    have kvV0 : SeesN V0 V0.heap.size w7 := seesN_kept _ Kk11.out
    go_wp2_with fail
    clear kvV0
    refine (rlevel_any g.j 3 _ Gg.out.2.1 (show I64 3 from by unfold I64; decide) (by decide) (by decide)).mono ?_
    obtain ⟨rb15, hb14⟩ : ∃ qb, (levN 3 g.j) = qb := ⟨_, rfl⟩
    rw [hb14]
    have Hhb14 := Lib.hid hb14
    clear hb14
    rintro e w12 ⟨rfl, k13⟩
    have Kk16 := Lib.hid k13
    clear k13
    cases rb15 with
    | false =>
      have kvV0 : SeesN V0 V0.heap.size w12 := seesN_kept _ (kept_trans Kk11.out Kk16.out)
      go_wp2
      go_ret
      exact ⟨ret_bool (Eq.symm (show fmR g = false from by unfold fmR; rw [Hhb9.out, Hhb14.out]; (try rfl))), (kept_trans Kk4.out (kept_trans Kk11.out Kk16.out))⟩
    | true =>
      have kvV0 : SeesN V0 V0.heap.size w12 := seesN_kept _ (kept_trans Kk11.out Kk16.out)
      go_wp2_with (refine stop_load 32 (.tmp 12) rfl ?_)
      intro _
      refine wpList_load_part (w.heap.size) 2 32 (.tmp 12) #[.int .i64 g.a.k, .int .i64 g.a.i, .int .i64 g.a.j, .int .i64 g.a.n, (.slice aga g.a.kids.length cga)] du (blk_at Hx1.out (kept_trans Kk11.out Kk16.out)) (by rfl) rfl (by rfl) (by rfl) hu1 (by cases du <;> first | rfl | exact hu2) size_term ?_
      go_wp2_with (refine stop_load 32 (.tmp 14) rfl ?_)
      intro _
      refine wpList_load_part (w.heap.size) 7 32 (.tmp 14) #[.int .i64 g.c.k, .int .i64 g.c.i, .int .i64 g.c.j, .int .i64 g.c.n, (.slice agc g.c.kids.length cgc)] du (blk_at Hx1.out (kept_trans Kk11.out Kk16.out)) (by rfl) rfl (by rfl) (by rfl) hu1 (by cases du <;> first | rfl | exact hu2) size_term ?_
      go_wp2_with (refine stop_load 32 (.tmp 16) rfl ?_)
      intro _
      refine wpList_load_part (w.heap.size) 12 32 (.tmp 16) #[.int .i64 g.b.k, .int .i64 g.b.i, .int .i64 g.b.j, .int .i64 g.b.n, (.slice agb g.b.kids.length cgb)] du (blk_at Hx1.out (kept_trans Kk11.out Kk16.out)) (by rfl) rfl (by rfl) (by rfl) hu1 (by cases du <;> first | rfl | exact hu2) size_term ?_
      go_wp2_with (refine stop_load 32 (.tmp 18) rfl ?_)
      intro _
      refine wpList_load_part (w.heap.size) 17 32 (.tmp 18) #[.int .i64 g.d.k, .int .i64 g.d.i, .int .i64 g.d.j, .int .i64 g.d.n, (.slice agd g.d.kids.length cgd)] du (blk_at Hx1.out (kept_trans Kk11.out Kk16.out)) (by rfl) rfl (by rfl) (by rfl) hu1 (by cases du <;> first | rfl | exact hu2) size_term ?_
      go_wp2_with (refine stop_load 32 (.tmp 20) rfl ?_)
      intro _
      refine wpList_load_part (w.heap.size) 22 32 (.tmp 20) #[.int .i64 g.e.k, .int .i64 g.e.i, .int .i64 g.e.j, .int .i64 g.e.n, (.slice age g.e.kids.length cge)] du (blk_at Hx1.out (kept_trans Kk11.out Kk16.out)) (by rfl) rfl (by rfl) (by rfl) hu1 (by cases du <;> first | rfl | exact hu2) size_term ?_
      go_wp2_with (refine stop_load 32 (.tmp 22) rfl ?_)
      intro _
      refine wpList_load_part (w.heap.size) 27 32 (.tmp 22) #[.int .i64 g.f.k, .int .i64 g.f.i, .int .i64 g.f.j, .int .i64 g.f.n, (.slice agf g.f.kids.length cgf)] du (blk_at Hx1.out (kept_trans Kk11.out Kk16.out)) (by rfl) rfl (by rfl) (by rfl) hu1 (by cases du <;> first | rfl | exact hu2) size_term ?_
      go_wp2_with fail
      refine at_world (fun W18 hW18 => ?_)
      clear kvV0
      obtain ⟨k20, x19, z21⟩ := alloc1 hW18
      have Kk22 := Lib.hid k20
      clear k20
      have Hx19 := Lib.hid x19
      have Hz21 := Lib.hid z21
      clear x19 z21 hW18
      have kq24 := (kept_trans Kk11.out (kept_trans Kk16.out Kk22.out))
      have HR23 := Lib.hid (q_row6 Hx19.out Gg.out.2.2.1 (HLga.out.later kq24) Gg.out.2.2.2.1 (HLgc.out.later kq24) Gg.out.2.2.2.2.1 (HLgb.out.later kq24) Gg.out.2.2.2.2.2.1 (HLgd.out.later kq24) Gg.out.2.2.2.2.2.2.1 (HLge.out.later kq24) Gg.out.2.2.2.2.2.2.2 (HLgf.out.later kq24) (par_new (Below.size (kept_trans Kk11.out Kk16.out)) (xlt_nil _) (Nat.le_refl _)))
      clear kq24
      refine (rplain_any [g.a, g.c, g.b, g.d, g.e, g.f] _ _ HR23.out.lies).mono ?_
      obtain ⟨rb28, hb27⟩ : ∃ qb, (plainL [g.a, g.c, g.b, g.d, g.e, g.f]) = qb := ⟨_, rfl⟩
      rw [hb27]
      have Hhb27 := Lib.hid hb27
      clear hb27
      rintro e w25 ⟨rfl, k26⟩
      have Kk29 := Lib.hid k26
      clear k26
      cases rb28 with
      | false =>
        have kvV0 : SeesN V0 V0.heap.size w25 := seesN_kept _ (kept_trans Kk11.out (kept_trans Kk16.out (kept_trans Kk22.out Kk29.out)))
        go_wp2
        go_ret
        exact ⟨ret_bool (Eq.symm (show fmR g = false from by unfold fmR; rw [Hhb9.out, Hhb14.out, Hhb27.out]; (try rfl))), (kept_trans Kk4.out (kept_trans Kk11.out (kept_trans Kk16.out (kept_trans Kk22.out Kk29.out))))⟩
      | true =>
        have kvV0 : SeesN V0 V0.heap.size w25 := seesN_kept _ (kept_trans Kk11.out (kept_trans Kk16.out (kept_trans Kk22.out Kk29.out)))
        go_wp2
        go_ret
        exact ⟨ret_bool (Eq.symm (show fmR g = true from by unfold fmR; rw [Hhb9.out, Hhb14.out, Hhb27.out]; (try rfl))), (kept_trans Kk4.out (kept_trans Kk11.out (kept_trans Kk16.out (kept_trans Kk22.out Kk29.out))))⟩

def rsixr1_0 : Oper := { dst := some 8, op := Go.Op.fieldAddr 69 (Go.Operand.tmp 4) 2, type := 0, pos := "ref.go:136", after := #[], guard := none }
def rsixr1_1 : Oper := { dst := some 9, op := Go.Op.load 32 (Go.Operand.tmp 8), type := 32, pos := "ref.go:136", after := #[{ on := 0, ground := Go.Ground.data }], guard := none }
def rsixr1_2 : Oper := { dst := some 10, op := Go.Op.fieldAddr 69 (Go.Operand.tmp 4) 3, type := 0, pos := "ref.go:136", after := #[], guard := none }
def rsixr1_3 : Oper := { dst := some 11, op := Go.Op.load 32 (Go.Operand.tmp 10), type := 32, pos := "ref.go:136", after := #[{ on := 2, ground := Go.Ground.data }], guard := none }
def rsixr1_4 : Oper := { dst := some 12, op := Go.Op.fieldAddr 69 (Go.Operand.tmp 4) 6, type := 0, pos := "ref.go:136", after := #[], guard := none }
def rsixr1_5 : Oper := { dst := some 13, op := Go.Op.load 32 (Go.Operand.tmp 12), type := 32, pos := "ref.go:136", after := #[{ on := 4, ground := Go.Ground.data }], guard := none }
def rsixr1_6 : Oper := { dst := some 14, op := Go.Op.fieldAddr 69 (Go.Operand.tmp 4) 2, type := 0, pos := "ref.go:136", after := #[], guard := none }
def rsixr1_7 : Oper := { dst := some 15, op := Go.Op.load 32 (Go.Operand.tmp 14), type := 32, pos := "ref.go:136", after := #[{ on := 6, ground := Go.Ground.data }], guard := none }
def rsixr1_8 : Oper := { dst := some 16, op := Go.Op.fieldAddr 69 (Go.Operand.tmp 4) 4, type := 0, pos := "ref.go:136", after := #[], guard := none }
def rsixr1_9 : Oper := { dst := some 17, op := Go.Op.load 32 (Go.Operand.tmp 16), type := 32, pos := "ref.go:136", after := #[{ on := 8, ground := Go.Ground.data }], guard := none }
def rsixr1_10 : Oper := { dst := some 18, op := Go.Op.buildSlice 30 2 #[(0, Go.Operand.tmp 15), (1, Go.Operand.tmp 17)], type := 30, pos := "ref.go:136", after := #[{ on := 7, ground := Go.Ground.data }, { on := 9, ground := Go.Ground.data }], guard := none }
def rsixr1_11 : Oper := { dst := some 19, op := Go.Op.call { callee := Go.Callee.value (Go.Operand.func 103), args := #[Go.Operand.const (Go.Value.int Go.IntKind.i64 14), Go.Operand.tmp 18], argTypes := #[3, 30] }, type := 32, pos := "ref.go:136", after := #[{ on := 10, ground := Go.Ground.data }], guard := none }
def rsixr1_12 : Oper := { dst := some 20, op := Go.Op.fieldAddr 69 (Go.Operand.tmp 4) 3, type := 0, pos := "ref.go:136", after := #[], guard := none }
def rsixr1_13 : Oper := { dst := some 21, op := Go.Op.load 32 (Go.Operand.tmp 20), type := 32, pos := "ref.go:136", after := #[{ on := 12, ground := Go.Ground.data }], guard := none }
def rsixr1_14 : Oper := { dst := some 22, op := Go.Op.fieldAddr 69 (Go.Operand.tmp 4) 5, type := 0, pos := "ref.go:136", after := #[], guard := none }
def rsixr1_15 : Oper := { dst := some 23, op := Go.Op.load 32 (Go.Operand.tmp 22), type := 32, pos := "ref.go:136", after := #[{ on := 14, ground := Go.Ground.data }], guard := none }
def rsixr1_16 : Oper := { dst := some 24, op := Go.Op.buildSlice 30 2 #[(0, Go.Operand.tmp 21), (1, Go.Operand.tmp 23)], type := 30, pos := "ref.go:136", after := #[{ on := 13, ground := Go.Ground.data }, { on := 15, ground := Go.Ground.data }], guard := none }
def rsixr1_17 : Oper := { dst := some 25, op := Go.Op.call { callee := Go.Callee.value (Go.Operand.func 103), args := #[Go.Operand.const (Go.Value.int Go.IntKind.i64 14), Go.Operand.tmp 24], argTypes := #[3, 30] }, type := 32, pos := "ref.go:136", after := #[{ on := 16, ground := Go.Ground.data }, { on := 11, ground := Go.Ground.chain }], guard := none }
def rsixr1_18 : Oper := { dst := some 26, op := Go.Op.fieldAddr 69 (Go.Operand.tmp 4) 7, type := 0, pos := "ref.go:136", after := #[], guard := none }
def rsixr1_19 : Oper := { dst := some 27, op := Go.Op.load 32 (Go.Operand.tmp 26), type := 32, pos := "ref.go:136", after := #[{ on := 18, ground := Go.Ground.data }], guard := none }
def rsixr1_20 : Oper := { dst := some 28, op := Go.Op.buildSlice 30 6 #[(0, Go.Operand.tmp 9), (1, Go.Operand.tmp 11), (2, Go.Operand.tmp 13), (3, Go.Operand.tmp 19), (4, Go.Operand.tmp 25), (5, Go.Operand.tmp 27)], type := 30, pos := "ref.go:136", after := #[{ on := 1, ground := Go.Ground.data }, { on := 3, ground := Go.Ground.data }, { on := 5, ground := Go.Ground.data }, { on := 11, ground := Go.Ground.data }, { on := 17, ground := Go.Ground.data }, { on := 19, ground := Go.Ground.data }], guard := none }
def rsixr1_21 : Oper := { dst := some 7, op := Go.Op.assign (Go.Operand.tmp 28), type := 30, pos := "ref.go:136", after := #[{ on := 20, ground := Go.Ground.data }, { on := 17, ground := Go.Ground.chain }, { on := 0, ground := Go.Ground.phase }, { on := 1, ground := Go.Ground.phase }, { on := 2, ground := Go.Ground.phase }, { on := 3, ground := Go.Ground.phase }, { on := 4, ground := Go.Ground.phase }, { on := 5, ground := Go.Ground.phase }, { on := 6, ground := Go.Ground.phase }, { on := 7, ground := Go.Ground.phase }, { on := 8, ground := Go.Ground.phase }, { on := 9, ground := Go.Ground.phase }, { on := 10, ground := Go.Ground.phase }, { on := 11, ground := Go.Ground.phase }, { on := 12, ground := Go.Ground.phase }, { on := 13, ground := Go.Ground.phase }, { on := 14, ground := Go.Ground.phase }, { on := 15, ground := Go.Ground.phase }, { on := 16, ground := Go.Ground.phase }, { on := 17, ground := Go.Ground.phase }, { on := 18, ground := Go.Ground.phase }, { on := 19, ground := Go.Ground.phase }, { on := 20, ground := Go.Ground.phase }], guard := none }
def rsixr2_0 : Oper := { dst := some 29, op := Go.Op.move (Go.Operand.tmp 0), type := 3, pos := "ref.go:137", after := #[], guard := none }
def rsixr2_1 : Oper := { dst := some 30, op := Go.Op.fieldAddr 69 (Go.Operand.tmp 4) 0, type := 0, pos := "ref.go:137", after := #[], guard := none }
def rsixr2_2 : Oper := { dst := some 31, op := Go.Op.load 3 (Go.Operand.tmp 30), type := 3, pos := "ref.go:137", after := #[{ on := 1, ground := Go.Ground.data }], guard := none }
def rsixr2_3 : Oper := { dst := some 32, op := Go.Op.fieldAddr 69 (Go.Operand.tmp 4) 1, type := 0, pos := "ref.go:137", after := #[], guard := none }
def rsixr2_4 : Oper := { dst := some 33, op := Go.Op.load 3 (Go.Operand.tmp 32), type := 3, pos := "ref.go:137", after := #[{ on := 3, ground := Go.Ground.data }], guard := none }
def rsixr2_5 : Oper := { dst := some 34, op := Go.Op.move (Go.Operand.tmp 7), type := 30, pos := "ref.go:137", after := #[], guard := none }
def rsixr2_6 : Oper := { dst := some 35, op := Go.Op.move (Go.Operand.tmp 2), type := 30, pos := "ref.go:137", after := #[], guard := none }
def rsixr2_7 : Oper := { dst := some 36, op := Go.Op.call { callee := Go.Callee.builtin Go.Builtin.append, args := #[Go.Operand.tmp 34, Go.Operand.tmp 35], argTypes := #[30, 30] }, type := 30, pos := "ref.go:137", after := #[{ on := 5, ground := Go.Ground.data }, { on := 6, ground := Go.Ground.data }], guard := none }
def rsixr2_8 : Oper := { dst := some 37, op := Go.Op.call { callee := Go.Callee.value (Go.Operand.func 109), args := #[Go.Operand.tmp 29, Go.Operand.tmp 31, Go.Operand.tmp 33, Go.Operand.tmp 36], argTypes := #[3, 3, 3, 30] }, type := 32, pos := "ref.go:137", after := #[{ on := 0, ground := Go.Ground.data }, { on := 2, ground := Go.Ground.data }, { on := 4, ground := Go.Ground.data }, { on := 7, ground := Go.Ground.data }, { on := 7, ground := Go.Ground.chain }], guard := none }
def rsixr2_9 : Oper := { dst := none, op := Go.Op.store 32 (Go.Operand.tmp 6) (Go.Operand.tmp 37), type := 0, pos := "ref.go:137", after := #[{ on := 8, ground := Go.Ground.data }, { on := 8, ground := Go.Ground.chain }, { on := 0, ground := Go.Ground.phase }, { on := 1, ground := Go.Ground.phase }, { on := 2, ground := Go.Ground.phase }, { on := 3, ground := Go.Ground.phase }, { on := 4, ground := Go.Ground.phase }, { on := 5, ground := Go.Ground.phase }, { on := 6, ground := Go.Ground.phase }, { on := 7, ground := Go.Ground.phase }, { on := 8, ground := Go.Ground.phase }], guard := none }
set_option maxRecDepth 20000 in
set_option maxHeartbeats 4000000 in
theorem rsix_any (n : Int) (g : Fm) (more : List Tm) (P : Nat → Prop) (w : World) (sga : Value) (sgc : Value) (sgb : Value) (sgd : Value) (sge : Value) (sgf : Value) (smore : Value) (hrn : I64 n) (hfg : g.fine) (hlg : FQ w P g sga sgc sgb sgd sge sgf) (hlmore : LiesQ w P more smore) (hmn : more.length ≤ 900) : Calls Try.prog 117 #[.int .i64 n, fv g sga sgc sgb sgd sge sgf, smore] w (GivesP P (sixT n g more) w) := by
  have Rn := Lib.hid hrn
  clear hrn
  have Gg := Lib.hid hfg
  clear hfg
  obtain ⟨hlga, hlgc, hlgb, hlgd, hlge, hlgf⟩ := hlg
  obtain ⟨aga, cga, Sga, rfl, -⟩ := hlga.out
  obtain ⟨agc, cgc, Sgc, rfl, -⟩ := hlgc.out
  obtain ⟨agb, cgb, Sgb, rfl, -⟩ := hlgb.out
  obtain ⟨agd, cgd, Sgd, rfl, -⟩ := hlgd.out
  obtain ⟨age, cge, Sge, rfl, -⟩ := hlge.out
  obtain ⟨agf, cgf, Sgf, rfl, -⟩ := hlgf.out
  obtain ⟨amore, cmore, Smore, rfl, -⟩ := hlmore.out
  have Hmn := Lib.hid hmn
  clear hmn
  obtain ⟨du, hu1, hu2⟩ := under_term
  obtain ⟨dq, dq1, dq2⟩ := under_of 69 (by kernel_rfl)
  unfold fv
  go_enter Try.func117, Try.ntmps117
  go_upto_region 1 with fail
  refine at_code (fun V0 hV0 => ?_)
  obtain ⟨k3, x1, x2, z4⟩ := alloc2 hV0
  have Kk5 := Lib.hid k3
  clear k3
  have Hx1 := Lib.hid x1
  have Hx2 := Lib.hid x2
  have Z0 := Lib.hid z4
  clear z4 x1 x2 hV0
  have HLga : Hid (LiesQ V0 (Par w V0.heap.size [] P) g.a.kids _) := (par_in _ _ hlga).later Kk5.out
  clear hlga
  have HLgc : Hid (LiesQ V0 (Par w V0.heap.size [] P) g.c.kids _) := (par_in _ _ hlgc).later Kk5.out
  clear hlgc
  have HLgb : Hid (LiesQ V0 (Par w V0.heap.size [] P) g.b.kids _) := (par_in _ _ hlgb).later Kk5.out
  clear hlgb
  have HLgd : Hid (LiesQ V0 (Par w V0.heap.size [] P) g.d.kids _) := (par_in _ _ hlgd).later Kk5.out
  clear hlgd
  have HLge : Hid (LiesQ V0 (Par w V0.heap.size [] P) g.e.kids _) := (par_in _ _ hlge).later Kk5.out
  clear hlge
  have HLgf : Hid (LiesQ V0 (Par w V0.heap.size [] P) g.f.kids _) := (par_in _ _ hlgf).later Kk5.out
  clear hlgf
  have HLmore : Hid (LiesQ V0 (Par w V0.heap.size [] P) more _) := (par_in _ _ hlmore).later Kk5.out
  clear hlmore
  have ld6 := part_cell (r := (w.heap.size + 1)) Hx1.out (by have := Z0.out; omega) 0 (.int .i64 g.i) rfl
  have ld7 := part_cell (r := (w.heap.size + 1)) Hx1.out (by have := Z0.out; omega) 1 (.int .i64 g.j) rfl
  have kvV0 : Sees V0 (w.heap.size + 1) V0 := sees_kept _ (kept_refl _)
  go_wp2_with fail
  clear kvV0
  obtain ⟨W8, h9⟩ : ∃ x, World.drew V0 = x := ⟨_, rfl⟩
  have k10 : Kept V0 W8 := by rw [← h9]; exact kept_drew (kept_refl _)
  have Kk11 := Lib.hid k10
  clear k10
  refine wp_region_held_drew (S := Sees W8 (w.heap.size + 1)) (by kernel_rfl) ?_ (fun hHeld => ?_)
  · (try dsimp only)
    rw [h9]
    exact sees_kept _ (kept_refl _)
  rw [h9] at hHeld ⊢
  clear h9
  refine take_at 0 8 rsixr1_0 (v := ?_) (Or.inl ⟨by rfl, ?_⟩) ?_
  rotate_left 1
  · ((intro w hSw; (try dsimp only at hSw); unfold rsixr1_0; go_simp) <;> with_reducible rfl)
  (try simp only [Act.put, List.setIfInBounds_toArray, List.set_cons_zero, List.set_cons_succ])
  refine take_at 1 9 rsixr1_1 (yields_part (w.heap.size) 2 32 (.tmp 8) #[.int .i64 g.a.k, .int .i64 g.a.i, .int .i64 g.a.j, .int .i64 g.a.n, (.slice aga g.a.kids.length cga)] du (fun _ h => sees_blk Hx1.out (by have := Z0.out; omega) (sees_of Kk11.out h)) (by rfl) rfl (by rfl) (by rfl) hu1 (by cases du <;> first | rfl | exact hu2) size_term) ?_
  (try simp only [Act.put, List.setIfInBounds_toArray, List.set_cons_zero, List.set_cons_succ])
  refine take_at 2 10 rsixr1_2 (v := ?_) (Or.inl ⟨by rfl, ?_⟩) ?_
  rotate_left 1
  · ((intro w hSw; (try dsimp only at hSw); unfold rsixr1_2; go_simp) <;> with_reducible rfl)
  (try simp only [Act.put, List.setIfInBounds_toArray, List.set_cons_zero, List.set_cons_succ])
  refine take_at 3 11 rsixr1_3 (yields_part (w.heap.size) 7 32 (.tmp 10) #[.int .i64 g.c.k, .int .i64 g.c.i, .int .i64 g.c.j, .int .i64 g.c.n, (.slice agc g.c.kids.length cgc)] du (fun _ h => sees_blk Hx1.out (by have := Z0.out; omega) (sees_of Kk11.out h)) (by rfl) rfl (by rfl) (by rfl) hu1 (by cases du <;> first | rfl | exact hu2) size_term) ?_
  (try simp only [Act.put, List.setIfInBounds_toArray, List.set_cons_zero, List.set_cons_succ])
  refine take_at 4 12 rsixr1_4 (v := ?_) (Or.inl ⟨by rfl, ?_⟩) ?_
  rotate_left 1
  · ((intro w hSw; (try dsimp only at hSw); unfold rsixr1_4; go_simp) <;> with_reducible rfl)
  (try simp only [Act.put, List.setIfInBounds_toArray, List.set_cons_zero, List.set_cons_succ])
  refine take_at 5 13 rsixr1_5 (yields_part (w.heap.size) 22 32 (.tmp 12) #[.int .i64 g.e.k, .int .i64 g.e.i, .int .i64 g.e.j, .int .i64 g.e.n, (.slice age g.e.kids.length cge)] du (fun _ h => sees_blk Hx1.out (by have := Z0.out; omega) (sees_of Kk11.out h)) (by rfl) rfl (by rfl) (by rfl) hu1 (by cases du <;> first | rfl | exact hu2) size_term) ?_
  (try simp only [Act.put, List.setIfInBounds_toArray, List.set_cons_zero, List.set_cons_succ])
  refine take_at 6 14 rsixr1_6 (v := ?_) (Or.inl ⟨by rfl, ?_⟩) ?_
  rotate_left 1
  · ((intro w hSw; (try dsimp only at hSw); unfold rsixr1_6; go_simp) <;> with_reducible rfl)
  (try simp only [Act.put, List.setIfInBounds_toArray, List.set_cons_zero, List.set_cons_succ])
  refine take_at 7 15 rsixr1_7 (yields_part (w.heap.size) 2 32 (.tmp 14) #[.int .i64 g.a.k, .int .i64 g.a.i, .int .i64 g.a.j, .int .i64 g.a.n, (.slice aga g.a.kids.length cga)] du (fun _ h => sees_blk Hx1.out (by have := Z0.out; omega) (sees_of Kk11.out h)) (by rfl) rfl (by rfl) (by rfl) hu1 (by cases du <;> first | rfl | exact hu2) size_term) ?_
  (try simp only [Act.put, List.setIfInBounds_toArray, List.set_cons_zero, List.set_cons_succ])
  refine take_at 8 16 rsixr1_8 (v := ?_) (Or.inl ⟨by rfl, ?_⟩) ?_
  rotate_left 1
  · ((intro w hSw; (try dsimp only at hSw); unfold rsixr1_8; go_simp) <;> with_reducible rfl)
  (try simp only [Act.put, List.setIfInBounds_toArray, List.set_cons_zero, List.set_cons_succ])
  refine take_at 9 17 rsixr1_9 (yields_part (w.heap.size) 12 32 (.tmp 16) #[.int .i64 g.b.k, .int .i64 g.b.i, .int .i64 g.b.j, .int .i64 g.b.n, (.slice agb g.b.kids.length cgb)] du (fun _ h => sees_blk Hx1.out (by have := Z0.out; omega) (sees_of Kk11.out h)) (by rfl) rfl (by rfl) (by rfl) hu1 (by cases du <;> first | rfl | exact hu2) size_term) ?_
  (try simp only [Act.put, List.setIfInBounds_toArray, List.set_cons_zero, List.set_cons_succ])
  refine take_at 12 20 rsixr1_12 (v := ?_) (Or.inl ⟨by rfl, ?_⟩) ?_
  rotate_left 1
  · ((intro w hSw; (try dsimp only at hSw); unfold rsixr1_12; go_simp) <;> with_reducible rfl)
  (try simp only [Act.put, List.setIfInBounds_toArray, List.set_cons_zero, List.set_cons_succ])
  refine take_at 13 21 rsixr1_13 (yields_part (w.heap.size) 7 32 (.tmp 20) #[.int .i64 g.c.k, .int .i64 g.c.i, .int .i64 g.c.j, .int .i64 g.c.n, (.slice agc g.c.kids.length cgc)] du (fun _ h => sees_blk Hx1.out (by have := Z0.out; omega) (sees_of Kk11.out h)) (by rfl) rfl (by rfl) (by rfl) hu1 (by cases du <;> first | rfl | exact hu2) size_term) ?_
  (try simp only [Act.put, List.setIfInBounds_toArray, List.set_cons_zero, List.set_cons_succ])
  refine take_at 14 22 rsixr1_14 (v := ?_) (Or.inl ⟨by rfl, ?_⟩) ?_
  rotate_left 1
  · ((intro w hSw; (try dsimp only at hSw); unfold rsixr1_14; go_simp) <;> with_reducible rfl)
  (try simp only [Act.put, List.setIfInBounds_toArray, List.set_cons_zero, List.set_cons_succ])
  refine take_at 15 23 rsixr1_15 (yields_part (w.heap.size) 17 32 (.tmp 22) #[.int .i64 g.d.k, .int .i64 g.d.i, .int .i64 g.d.j, .int .i64 g.d.n, (.slice agd g.d.kids.length cgd)] du (fun _ h => sees_blk Hx1.out (by have := Z0.out; omega) (sees_of Kk11.out h)) (by rfl) rfl (by rfl) (by rfl) hu1 (by cases du <;> first | rfl | exact hu2) size_term) ?_
  (try simp only [Act.put, List.setIfInBounds_toArray, List.set_cons_zero, List.set_cons_succ])
  refine take_at 18 26 rsixr1_18 (v := ?_) (Or.inl ⟨by rfl, ?_⟩) ?_
  rotate_left 1
  · ((intro w hSw; (try dsimp only at hSw); unfold rsixr1_18; go_simp) <;> with_reducible rfl)
  (try simp only [Act.put, List.setIfInBounds_toArray, List.set_cons_zero, List.set_cons_succ])
  refine take_at 19 27 rsixr1_19 (yields_part (w.heap.size) 27 32 (.tmp 26) #[.int .i64 g.f.k, .int .i64 g.f.i, .int .i64 g.f.j, .int .i64 g.f.n, (.slice agf g.f.kids.length cgf)] du (fun _ h => sees_blk Hx1.out (by have := Z0.out; omega) (sees_of Kk11.out h)) (by rfl) rfl (by rfl) (by rfl) hu1 (by cases du <;> first | rfl | exact hu2) size_term) ?_
  (try simp only [Act.put, List.setIfInBounds_toArray, List.set_cons_zero, List.set_cons_succ])
  apply (via_joinCTACC (K := fun W34 g19 U31 a28 c29 g38 => (Kept W8 W34) ∧ (nodeT 14 [g.a, g.b] = U31) ∧ (LiesQ W34 (Par w V0.heap.size [] P) U31.kids (.slice a28 U31.kids.length c29)) ∧ (LiesQ W34 (Par w V0.heap.size [] P) ([g.c, g.d]) (.slice (some ⟨g38, 0, none⟩) 2 2))))
  intro HJj13
  apply (via_joinCC (K := fun W44 g19 g48 => (Kept W8 W44) ∧ (LiesQ W44 (Par w V0.heap.size [] P) ([g.a, g.b]) (.slice (some ⟨g19, 0, none⟩) 2 2)) ∧ (LiesQ W44 (Par w V0.heap.size [] P) ([g.c, g.d]) (.slice (some ⟨g48, 0, none⟩) 2 2))))
  intro HJj12
  · refine wpAnyH_ready (rs := [10, 16]) (by kernel_rfl) (by simp) ?_
    refine AllReadyH.cons (o := rsixr1_10) rfl (fun K hK => ?_) ?_
    · unfold rsixr1_10
      go_simp
      refine at_K (fun W15 hW15 => ?_)
      obtain ⟨g19, hg20, Kk17, Hx16, Hz18, KV21, HN22⟩ := alloc1v Kk11.out hW15
      rw [hg20]
      clear hW15
      have HR23 := Lib.hid (q_row2 Hx16.out Gg.out.2.2.1 (HLga.out.later KV21.out) Gg.out.2.2.2.2.1 (HLgb.out.later KV21.out) (par_newg HN22.out (fun h => nomatch h)))
      clear hg20
      (try clear hHeld)
      refine hK.out _ _ (sees_kept _ Kk17.out) (fun hHeld => ?_)
      clear hK K
      (try simp only [Act.put, List.setIfInBounds_toArray, List.set_cons_zero, List.set_cons_succ])
      refine wpAnyH_ready (rs := [11, 16]) (by kernel_rfl) (by simp) ?_
      refine AllReadyH.cons (o := rsixr1_11) rfl (fun K hK => ?_) ?_
      · unfold rsixr1_11
        go_simp
        refine (rnode_any 14 [g.a, g.b] (Par w V0.heap.size [] P) _ _ (show I64 14 from by unfold I64; decide) HR23.out (Nat.le_of_ble_eq_true rfl)).mono ?_
        obtain ⟨U31, hU31⟩ : ∃ qu, nodeT 14 [g.a, g.b] = qu := ⟨_, rfl⟩
        rw [hU31]
        have HU31 := Lib.hid hU31
        clear hU31
        rintro e w24 ⟨s26, rfl, hl27, k25⟩
        obtain ⟨a28, c29, S30, rfl, -⟩ := hl27.out
        have Kk32 := Lib.hid k25
        clear k25
        have Hhl27 : Hid (LiesQ w24 (Par w V0.heap.size [] P) U31.kids _) := par_give hl27 (Below.size KV21.out) (xlt_nil _)
        clear hl27
        (try clear hHeld)
        refine hK.out _ _ (sees_kept _ (kept_trans Kk17.out Kk32.out)) (fun hHeld => ?_)
        clear hK K
        (try simp only [Act.put, List.setIfInBounds_toArray, List.set_cons_zero, List.set_cons_succ])
        refine wpAnyH_ready (rs := [16]) (by kernel_rfl) (by simp) ?_
        refine AllReadyH.cons (o := rsixr1_16) rfl (fun K hK => ?_) ?_
        · unfold rsixr1_16
          go_simp
          refine at_K (fun W34 hW34 => ?_)
          obtain ⟨g38, hg39, Kk36, Hx35, Hz37, KV40, HN41⟩ := alloc1v (kept_trans Kk11.out (kept_trans Kk17.out Kk32.out)) hW34
          rw [hg39]
          clear hW34
          have HR42 := Lib.hid (q_row2 Hx35.out Gg.out.2.2.2.1 (HLgc.out.later KV40.out) Gg.out.2.2.2.2.2.1 (HLgd.out.later KV40.out) (par_newg HN41.out (fun h => nomatch h)))
          clear hg39
          (try clear hHeld)
          refine hK.out _ _ (sees_kept _ (kept_trans Kk17.out (kept_trans Kk32.out Kk36.out))) (fun hHeld => ?_)
          clear hK K
          (try simp only [Act.put, List.setIfInBounds_toArray, List.set_cons_zero, List.set_cons_succ])
          exact HJj13 W34 g19 U31 a28 c29 g38 ⟨(kept_trans Kk17.out (kept_trans Kk32.out Kk36.out)), HU31.out, (Hhl27.out.later Kk36.out), HR42.out⟩
        exact AllReadyH.nil
      refine AllReadyH.cons (o := rsixr1_16) rfl (fun K hK => ?_) ?_
      · unfold rsixr1_16
        go_simp
        refine at_K (fun W44 hW44 => ?_)
        obtain ⟨g48, hg49, Kk46, Hx45, Hz47, KV50, HN51⟩ := alloc1v KV21.out hW44
        rw [hg49]
        clear hW44
        have HR52 := Lib.hid (q_row2 Hx45.out Gg.out.2.2.2.1 (HLgc.out.later KV50.out) Gg.out.2.2.2.2.2.1 (HLgd.out.later KV50.out) (par_newg HN51.out (fun h => nomatch h)))
        clear hg49
        (try clear hHeld)
        refine hK.out _ _ (sees_kept _ (kept_trans Kk17.out Kk46.out)) (fun hHeld => ?_)
        clear hK K
        (try simp only [Act.put, List.setIfInBounds_toArray, List.set_cons_zero, List.set_cons_succ])
        exact HJj12 W44 g19 g48 ⟨(kept_trans Kk17.out Kk46.out), (HR23.out.later Kk46.out), HR52.out⟩
      exact AllReadyH.nil
    refine AllReadyH.cons (o := rsixr1_16) rfl (fun K hK => ?_) ?_
    · unfold rsixr1_16
      go_simp
      refine at_K (fun W54 hW54 => ?_)
      obtain ⟨g58, hg59, Kk56, Hx55, Hz57, KV60, HN61⟩ := alloc1v Kk11.out hW54
      rw [hg59]
      clear hW54
      have HR62 := Lib.hid (q_row2 Hx55.out Gg.out.2.2.2.1 (HLgc.out.later KV60.out) Gg.out.2.2.2.2.2.1 (HLgd.out.later KV60.out) (par_newg HN61.out (fun h => nomatch h)))
      clear hg59
      (try clear hHeld)
      refine hK.out _ _ (sees_kept _ Kk56.out) (fun hHeld => ?_)
      clear hK K
      (try simp only [Act.put, List.setIfInBounds_toArray, List.set_cons_zero, List.set_cons_succ])
      refine wpAnyH_ready (rs := [10]) (by kernel_rfl) (by simp) ?_
      refine AllReadyH.cons (o := rsixr1_10) rfl (fun K hK => ?_) ?_
      · unfold rsixr1_10
        go_simp
        refine at_K (fun W64 hW64 => ?_)
        obtain ⟨g68, hg69, Kk66, Hx65, Hz67, KV70, HN71⟩ := alloc1v KV60.out hW64
        rw [hg69]
        clear hW64
        have HR72 := Lib.hid (q_row2 Hx65.out Gg.out.2.2.1 (HLga.out.later KV70.out) Gg.out.2.2.2.2.1 (HLgb.out.later KV70.out) (par_newg HN71.out (fun h => nomatch h)))
        clear hg69
        (try clear hHeld)
        refine hK.out _ _ (sees_kept _ (kept_trans Kk56.out Kk66.out)) (fun hHeld => ?_)
        clear hK K
        (try simp only [Act.put, List.setIfInBounds_toArray, List.set_cons_zero, List.set_cons_succ])
        exact HJj12 W64 g68 g58 ⟨(kept_trans Kk56.out Kk66.out), HR72.out, (HR62.out.later Kk66.out)⟩
      exact AllReadyH.nil
    exact AllReadyH.nil
  · intro W44 g19 g48 k73
    obtain ⟨q74, q75, q76⟩ := k73
    have Kk77 := Lib.hid q74
    have KV78 := Lib.hid (kept_trans Kk11.out Kk77.out)
    have HL79 := Lib.hid q75
    have HL80 := Lib.hid q76
    clear q74 q75 q76
    have hHeld : Sees W8 (w.heap.size + 1) W44 := sees_kept _ Kk77.out
    refine wpAnyH_ready (rs := [11]) (by kernel_rfl) (by simp) ?_
    refine AllReadyH.cons (o := rsixr1_11) rfl (fun K hK => ?_) ?_
    · unfold rsixr1_11
      go_simp
      refine (rnode_any 14 [g.a, g.b] (Par w V0.heap.size [] P) _ _ (show I64 14 from by unfold I64; decide) HL79.out (Nat.le_of_ble_eq_true rfl)).mono ?_
      obtain ⟨U88, hU88⟩ : ∃ qu, nodeT 14 [g.a, g.b] = qu := ⟨_, rfl⟩
      rw [hU88]
      have HU88 := Lib.hid hU88
      clear hU88
      rintro e w81 ⟨s83, rfl, hl84, k82⟩
      obtain ⟨a85, c86, S87, rfl, -⟩ := hl84.out
      have Kk89 := Lib.hid k82
      clear k82
      have Hhl84 : Hid (LiesQ w81 (Par w V0.heap.size [] P) U88.kids _) := par_give hl84 (Below.size KV78.out) (xlt_nil _)
      clear hl84
      (try clear hHeld)
      refine hK.out _ _ (sees_kept _ (kept_trans Kk77.out Kk89.out)) (fun hHeld => ?_)
      clear hK K
      (try simp only [Act.put, List.setIfInBounds_toArray, List.set_cons_zero, List.set_cons_succ])
      exact HJj13 w81 g19 U88 a85 c86 g48 ⟨(kept_trans Kk77.out Kk89.out), HU88.out, Hhl84.out, (HL80.out.later Kk89.out)⟩
    exact AllReadyH.nil
  · intro W34 g19 U31 a28 c29 g38 k90
    obtain ⟨q91, q92, q93, q94⟩ := k90
    have Kk95 := Lib.hid q91
    have KV96 := Lib.hid (kept_trans Kk11.out Kk95.out)
    have HU31 := Lib.hid q92
    have HL97 := Lib.hid q93
    have HL98 := Lib.hid q94
    clear q91 q92 q93 q94
    have hHeld : Sees W8 (w.heap.size + 1) W34 := sees_kept _ Kk95.out
    refine wpAnyH_ready (rs := [17]) (by kernel_rfl) (by simp) ?_
    refine AllReadyH.cons (o := rsixr1_17) rfl (fun K hK => ?_) ?_
    · unfold rsixr1_17
      go_simp
      refine (rnode_any 14 [g.c, g.d] (Par w V0.heap.size [] P) _ _ (show I64 14 from by unfold I64; decide) HL98.out (Nat.le_of_ble_eq_true rfl)).mono ?_
      obtain ⟨U106, hU106⟩ : ∃ qu, nodeT 14 [g.c, g.d] = qu := ⟨_, rfl⟩
      rw [hU106]
      have HU106 := Lib.hid hU106
      clear hU106
      rintro e w99 ⟨s101, rfl, hl102, k100⟩
      obtain ⟨a103, c104, S105, rfl, -⟩ := hl102.out
      have Kk107 := Lib.hid k100
      clear k100
      have Hhl102 : Hid (LiesQ w99 (Par w V0.heap.size [] P) U106.kids _) := par_give hl102 (Below.size KV96.out) (xlt_nil _)
      clear hl102
      clear hHeld
      refine hK.out _ _ (sees_kept _ (kept_trans Kk95.out Kk107.out)) (fun hHeld => ?_)
      clear hK K
      (try simp only [Act.put, List.setIfInBounds_toArray, List.set_cons_zero, List.set_cons_succ])
      refine wpAnyH_ready (rs := [20]) (by kernel_rfl) (by simp) ?_
      refine AllReadyH.cons (o := rsixr1_20) rfl (fun K hK => ?_) ?_
      · unfold rsixr1_20
        go_simp
        refine at_K (fun W109 hW109 => ?_)
        obtain ⟨g113, hg114, Kk111, Hx110, Hz112, KV115, HN116⟩ := alloc1v (kept_trans Kk11.out (kept_trans Kk95.out Kk107.out)) hW109
        rw [hg114]
        clear hW109
        have kq118 := (kept_trans Kk107.out Kk111.out)
        have HR117 := Lib.hid (q_row6 Hx110.out Gg.out.2.2.1 (HLga.out.later KV115.out) Gg.out.2.2.2.1 (HLgc.out.later KV115.out) Gg.out.2.2.2.2.2.2.1 (HLge.out.later KV115.out) (by rw [← HU31.out]; exact (node_fine (show I64 14 from by unfold I64; decide))) (HL97.out.later kq118) (by rw [← HU106.out]; exact (node_fine (show I64 14 from by unfold I64; decide))) (Hhl102.out.later Kk111.out) Gg.out.2.2.2.2.2.2.2 (HLgf.out.later KV115.out) (par_newg HN116.out (fun h => nomatch h)))
        clear kq118
        clear hg114
        clear hHeld
        refine hK.out _ _ (sees_kept _ (kept_trans Kk95.out (kept_trans Kk107.out Kk111.out))) (fun hHeld => ?_)
        clear hK K
        (try simp only [Act.put, List.setIfInBounds_toArray, List.set_cons_zero, List.set_cons_succ])
        refine take_at 21 7 rsixr1_21 (v := ?_) (Or.inl ⟨by rfl, ?_⟩) ?_
        rotate_left 1
        · ((intro w hSw; (try dsimp only at hSw); unfold rsixr1_21; go_simp) <;> with_reducible rfl)
        (try simp only [Act.put, List.setIfInBounds_toArray, List.set_cons_zero, List.set_cons_succ])
        refine wpAnyH_done (by kernel_rfl) ?_ _
        clear hHeld
        have kvV0 : Sees V0 (w.heap.size + 1) W109 := sees_kept _ KV115.out
        go_wp2_with fail
        clear kvV0
        obtain ⟨W119, h120⟩ : ∃ x, World.drew W109 = x := ⟨_, rfl⟩
        have k121 : Kept W109 W119 := by rw [← h120]; exact kept_drew (kept_refl _)
        have Kk122 := Lib.hid k121
        clear k121
        refine wp_region_held_drew (S := Sees W119 (w.heap.size + 1)) (by kernel_rfl) ?_ (fun hHeld => ?_)
        · (try dsimp only)
          rw [h120]
          exact sees_kept _ (kept_refl _)
        rw [h120] at hHeld ⊢
        clear h120
        refine take_at 0 29 rsixr2_0 (v := ?_) (Or.inl ⟨by rfl, ?_⟩) ?_
        rotate_left 1
        · ((intro w hSw; (try dsimp only at hSw); unfold rsixr2_0; go_simp) <;> with_reducible rfl)
        (try simp only [Act.put, List.setIfInBounds_toArray, List.set_cons_zero, List.set_cons_succ])
        refine take_at 1 30 rsixr2_1 (v := ?_) (Or.inl ⟨by rfl, ?_⟩) ?_
        rotate_left 1
        · ((intro w hSw; (try dsimp only at hSw); unfold rsixr2_1; go_simp) <;> with_reducible rfl)
        (try simp only [Act.put, List.setIfInBounds_toArray, List.set_cons_zero, List.set_cons_succ])
        refine take_at 2 31 rsixr2_2 (v := ?_) (Or.inl ⟨by rfl, ?_⟩) ?_
        rotate_left 1
        · ((intro w hSw; (try dsimp only at hSw); have qV0 := sees_of (kept_trans Kk11.out (kept_trans Kk95.out (kept_trans Kk107.out (kept_trans Kk111.out Kk122.out)))) hSw; unfold rsixr2_2; go_simp) <;> with_reducible rfl)
        (try simp only [Act.put, List.setIfInBounds_toArray, List.set_cons_zero, List.set_cons_succ])
        refine take_at 3 32 rsixr2_3 (v := ?_) (Or.inl ⟨by rfl, ?_⟩) ?_
        rotate_left 1
        · ((intro w hSw; (try dsimp only at hSw); unfold rsixr2_3; go_simp) <;> with_reducible rfl)
        (try simp only [Act.put, List.setIfInBounds_toArray, List.set_cons_zero, List.set_cons_succ])
        refine take_at 4 33 rsixr2_4 (v := ?_) (Or.inl ⟨by rfl, ?_⟩) ?_
        rotate_left 1
        · ((intro w hSw; (try dsimp only at hSw); have qV0 := sees_of (kept_trans Kk11.out (kept_trans Kk95.out (kept_trans Kk107.out (kept_trans Kk111.out Kk122.out)))) hSw; unfold rsixr2_4; go_simp) <;> with_reducible rfl)
        (try simp only [Act.put, List.setIfInBounds_toArray, List.set_cons_zero, List.set_cons_succ])
        refine take_at 5 34 rsixr2_5 (v := ?_) (Or.inl ⟨by rfl, ?_⟩) ?_
        rotate_left 1
        · ((intro w hSw; (try dsimp only at hSw); unfold rsixr2_5; go_simp) <;> with_reducible rfl)
        (try simp only [Act.put, List.setIfInBounds_toArray, List.set_cons_zero, List.set_cons_succ])
        refine take_at 6 35 rsixr2_6 (v := ?_) (Or.inl ⟨by rfl, ?_⟩) ?_
        rotate_left 1
        · ((intro w hSw; (try dsimp only at hSw); unfold rsixr2_6; go_simp) <;> with_reducible rfl)
        (try simp only [Act.put, List.setIfInBounds_toArray, List.set_cons_zero, List.set_cons_succ])
        refine wpAnyH_ready (rs := [7]) (by kernel_rfl) (by simp) ?_
        refine AllReadyH.cons (o := rsixr2_7) rfl (fun K hK => ?_) ?_
        · unfold rsixr2_7
          refine step_append_list rfl (.tmp 34) (.tmp 35) rfl [g.a, g.c, g.e, U31, U106, g.f] more (.slice (some ⟨g113, 0, none⟩) 6 6) (.slice amore more.length cmore) rfl rfl (HR117.out.later Kk122.out) (HLmore.out.later (kept_trans Kk11.out (kept_trans Kk95.out (kept_trans Kk107.out (kept_trans Kk111.out Kk122.out))))) ⟨_, rfl⟩ (Nat.le_of_ble_eq_true rfl) (app_len2 (Nat.le_of_ble_eq_true rfl) Hmn.out) ?_
          intro s125 w123 hl126 k124
          obtain ⟨a127, c128, S129, rfl, -⟩ := hl126.out
          have Kk130 := Lib.hid k124
          clear k124
          have Hhl126 : Hid (LiesQ w123 (Par w V0.heap.size [] P) ([g.a, g.c, g.e, U31, U106, g.f] ++ more) _) := par_give hl126 (Below.size (kept_trans Kk11.out (kept_trans Kk95.out (kept_trans Kk107.out (kept_trans Kk111.out Kk122.out))))) (xlt_nil _)
          clear hl126
          clear hHeld
          refine hK.out _ _ (sees_kept _ Kk130.out) (fun hHeld => ?_)
          clear hK K
          (try simp only [Act.put, List.setIfInBounds_toArray, List.set_cons_zero, List.set_cons_succ])
          refine wpAnyH_ready (rs := [8]) (by kernel_rfl) (by simp) ?_
          refine AllReadyH.cons (o := rsixr2_8) rfl (fun K hK => ?_) ?_
          · unfold rsixr2_8
            go_simp
            refine (ruse_any n g.i g.j ([g.a, g.c, g.e, U31, U106, g.f] ++ more) (Par w V0.heap.size [] P) _ _ Rn.out Gg.out.1 Gg.out.2.1 Hhl126.out (app_len (Nat.le_of_ble_eq_true rfl) Hmn.out)).mono ?_
            obtain ⟨U138, hU138⟩ : ∃ qu, useT n g.i g.j ([g.a, g.c, g.e, U31, U106, g.f] ++ more) = qu := ⟨_, rfl⟩
            rw [hU138]
            have HU138 := Lib.hid hU138
            clear hU138
            rintro e w131 ⟨s133, rfl, hl134, k132⟩
            obtain ⟨a135, c136, S137, rfl, -⟩ := hl134.out
            have Kk139 := Lib.hid k132
            clear k132
            have Hhl134 : Hid (LiesQ w131 (Par w V0.heap.size [] P) U138.kids _) := par_give hl134 (Below.size (kept_trans Kk11.out (kept_trans Kk95.out (kept_trans Kk107.out (kept_trans Kk111.out (kept_trans Kk122.out Kk130.out)))))) (xlt_nil _)
            clear hl134
            clear hHeld
            refine hK.out _ _ (sees_kept _ (kept_trans Kk130.out Kk139.out)) (fun hHeld => ?_)
            clear hK K
            (try simp only [Act.put, List.setIfInBounds_toArray, List.set_cons_zero, List.set_cons_succ])
            refine wpAnyH_ready (rs := [9]) (by kernel_rfl) (by simp) ?_
            refine AllReadyH.cons (o := rsixr2_9) rfl (fun K hK => ?_) ?_
            · unfold rsixr2_9
              refine step_store_part rfl 32 (.tmp 6) (.tmp 37) rfl (w.heap.size + 1) 0 #[.int .i64 U138.k, .int .i64 U138.i, .int .i64 U138.j, .int .i64 U138.n, (.slice a135 U138.kids.length c136)] rfl rfl 32 size_term (row_ok rfl) _ #[.int .i64 U138.k, .int .i64 U138.i, .int .i64 U138.j, .int .i64 U138.n, (.slice a135 U138.kids.length c136)] (blk_at Hx2.out (kept_trans Kk11.out (kept_trans Kk95.out (kept_trans Kk107.out (kept_trans Kk111.out (kept_trans Kk122.out (kept_trans Kk130.out Kk139.out))))))) rfl (Nat.le_of_ble_eq_true rfl) ?_
              intro W140 hW140
              clear hHeld
              refine hK.out _ _ (sees_set (kept_trans Kk130.out Kk139.out) hW140) (fun hHeld => ?_)
              clear hK K
              (try simp only [Act.put])
              refine wpAnyH_done (by kernel_rfl) ?_ _
              clear hHeld
              go_wp2_with fail
              refine bodyPost_ret (results_cell_row rfl _ _ (w.heap.size + 1) 32 _ _ du rfl (blk_same (blk_at Hx2.out (kept_trans Kk11.out (kept_trans Kk95.out (kept_trans Kk107.out (kept_trans Kk111.out (kept_trans Kk122.out (kept_trans Kk130.out Kk139.out))))))) hW140) hu1 (by cases du <;> first | rfl | exact hu2) size_term) rfl ?_
              rw [show sixT n g more = U138 from by unfold sixT; rw [← HU138.out]; rw [← HU106.out]; rw [← HU31.out]; (try rfl)]
              exact ⟨_, rfl, par_end (par_row' Hhl134.out hW140 (by omega) (by have := Z0.out; omega)) (by have := Z0.out; omega), kept_set (kept_trans Kk5.out (kept_trans Kk11.out (kept_trans Kk95.out (kept_trans Kk107.out (kept_trans Kk111.out (kept_trans Kk122.out (kept_trans Kk130.out Kk139.out))))))) hW140 (by omega)⟩
            exact AllReadyH.nil
          exact AllReadyH.nil
        exact AllReadyH.nil
      exact AllReadyH.nil
    exact AllReadyH.nil

end Go.Proofs.Ytkdceahmknhojaa

namespace Go.Proofs.Ytkdceahmknhojaa
open Go.RowKit

set_option maxRecDepth 20000 in
set_option maxHeartbeats 4000000 in
theorem rcPi_any (g : Fm) (P : Nat → Prop) (w : World) (sga : Value) (sgc : Value) (sgb : Value) (sgd : Value) (sge : Value) (sgf : Value) (hfg : g.fine) (hlg : FQ w P g sga sgc sgb sgd sge sgf) : Calls Try.prog 56 #[fv g sga sgc sgb sgd sge sgf] w (GivesP P (cgPi g) w) := by
  have Gg := Lib.hid hfg
  clear hfg
  obtain ⟨hlga, hlgc, hlgb, hlgd, hlge, hlgf⟩ := hlg
  obtain ⟨aga, cga, Sga, rfl, -⟩ := hlga.out
  obtain ⟨agc, cgc, Sgc, rfl, -⟩ := hlgc.out
  obtain ⟨agb, cgb, Sgb, rfl, -⟩ := hlgb.out
  obtain ⟨agd, cgd, Sgd, rfl, -⟩ := hlgd.out
  obtain ⟨age, cge, Sge, rfl, -⟩ := hlge.out
  obtain ⟨agf, cgf, Sgf, rfl, -⟩ := hlgf.out
  obtain ⟨du, hu1, hu2⟩ := under_term
  obtain ⟨dq, dq1, dq2⟩ := under_of 69 (by kernel_rfl)
  unfold fv
  go_enter Try.func56, Try.ntmps56
  go_upto_region 1 with fail
  refine at_code (fun V0 hV0 => ?_)
  obtain ⟨k3, x1, x2, z4⟩ := alloc2 hV0
  have Kk5 := Lib.hid k3
  clear k3
  have Hx1 := Lib.hid x1
  have Hx2 := Lib.hid x2
  have Z0 := Lib.hid z4
  clear z4 x1 x2 hV0
  have HLga : Hid (LiesQ V0 (Par w V0.heap.size [] P) g.a.kids _) := (par_in _ _ hlga).later Kk5.out
  clear hlga
  have HLgc : Hid (LiesQ V0 (Par w V0.heap.size [] P) g.c.kids _) := (par_in _ _ hlgc).later Kk5.out
  clear hlgc
  have HLgb : Hid (LiesQ V0 (Par w V0.heap.size [] P) g.b.kids _) := (par_in _ _ hlgb).later Kk5.out
  clear hlgb
  have HLgd : Hid (LiesQ V0 (Par w V0.heap.size [] P) g.d.kids _) := (par_in _ _ hlgd).later Kk5.out
  clear hlgd
  have HLge : Hid (LiesQ V0 (Par w V0.heap.size [] P) g.e.kids _) := (par_in _ _ hlge).later Kk5.out
  clear hlge
  have HLgf : Hid (LiesQ V0 (Par w V0.heap.size [] P) g.f.kids _) := (par_in _ _ hlgf).later Kk5.out
  clear hlgf
  have kvV0 : Sees V0 (w.heap.size + 1) V0 := sees_kept _ (kept_refl _)
  go_wp2_with (refine stop_load 69 (.tmp 1) rfl ?_)
  intro _
  refine wpList_load_part (w.heap.size) 0 69 (.tmp 1) #[.int .i64 g.i, .int .i64 g.j, .int .i64 g.a.k, .int .i64 g.a.i, .int .i64 g.a.j, .int .i64 g.a.n, (.slice aga g.a.kids.length cga), .int .i64 g.c.k, .int .i64 g.c.i, .int .i64 g.c.j, .int .i64 g.c.n, (.slice agc g.c.kids.length cgc), .int .i64 g.b.k, .int .i64 g.b.i, .int .i64 g.b.j, .int .i64 g.b.n, (.slice agb g.b.kids.length cgb), .int .i64 g.d.k, .int .i64 g.d.i, .int .i64 g.d.j, .int .i64 g.d.n, (.slice agd g.d.kids.length cgd), .int .i64 g.e.k, .int .i64 g.e.i, .int .i64 g.e.j, .int .i64 g.e.n, (.slice age g.e.kids.length cge), .int .i64 g.f.k, .int .i64 g.f.i, .int .i64 g.f.j, .int .i64 g.f.n, (.slice agf g.f.kids.length cgf)] dq Hx1.out (by rfl) rfl (by rfl) (by rfl) dq1 (by cases dq <;> first | rfl | exact dq2) (by kernel_rfl) ?_
  go_wp2_with fail
  clear kvV0
  refine (rfright_any g (Par w V0.heap.size [] P) _ (.slice aga g.a.kids.length cga) (.slice agc g.c.kids.length cgc) (.slice agb g.b.kids.length cgb) (.slice agd g.d.kids.length cgd) (.slice age g.e.kids.length cge) (.slice agf g.f.kids.length cgf) (show Fm.fine g from ⟨Gg.out.1, Gg.out.2.1, Gg.out.2.2.1, Gg.out.2.2.2.1, Gg.out.2.2.2.2.1, Gg.out.2.2.2.2.2.1, Gg.out.2.2.2.2.2.2.1, Gg.out.2.2.2.2.2.2.2⟩) ⟨HLga.out, HLgc.out, HLgb.out, HLgd.out, HLge.out, HLgf.out⟩).mono ?_
  obtain ⟨rb9, hb8⟩ : ∃ qb, (fmR g) = qb := ⟨_, rfl⟩
  rw [hb8]
  have Hhb8 := Lib.hid hb8
  clear hb8
  rintro e w6 ⟨rfl, k7⟩
  have Kk10 := Lib.hid k7
  clear k7
  cases rb9 with
  | false =>
    have kvV0 : Sees V0 (w.heap.size + 1) w6 := sees_kept _ Kk10.out
    go_wp2_with (refine stop_store 32 (.tmp 2) (.tmp 6) rfl ?_)
    intro _
    refine wpList_store_part_n (by rfl) 32 (.tmp 2) (.tmp 6) rfl (w.heap.size + 1) 0 #[.int .i64 0, .int .i64 0, .int .i64 0, .int .i64 0, .slice none 0 0] (by rfl) (by rfl) 32 size_term (row_ok rfl) ?_
    intro W11 hW11
    clear kvV0
    subst hW11
    refine ⟨_, #[.int .i64 0, .int .i64 0, .int .i64 0, .int .i64 0, .slice none 0 0], (blk_at Hx2.out Kk10.out), rfl, Nat.le_of_ble_eq_true rfl, ?_⟩
    intro W12 hW12
    go_wp2_with fail
    refine bodyPost_ret (results_cell_row rfl _ _ (w.heap.size + 1) 32 _ _ du rfl (blk_same (blk_at Hx2.out Kk10.out) hW12) hu1 (by cases du <;> first | rfl | exact hu2) size_term) rfl ?_
    rw [show cgPi g = (Tm.mk 0 0 0 0 []) from by unfold cgPi; rw [Hhb8.out]; (try first | rfl | simp)]
    exact ⟨_, rfl, par_end (par_row' (liesQ_nil w6 (Par w V0.heap.size [] P)) hW12 (by omega) (by have := Z0.out; omega)) (by have := Z0.out; omega), kept_set (kept_trans Kk5.out Kk10.out) hW12 (by omega)⟩
  | true =>
    have kvV0 : Sees V0 (w.heap.size + 1) w6 := sees_kept _ Kk10.out
    go_wp2_with (refine stop_load 69 (.tmp 1) rfl ?_)
    intro _
    refine wpList_load_part (w.heap.size) 0 69 (.tmp 1) #[.int .i64 g.i, .int .i64 g.j, .int .i64 g.a.k, .int .i64 g.a.i, .int .i64 g.a.j, .int .i64 g.a.n, (.slice aga g.a.kids.length cga), .int .i64 g.c.k, .int .i64 g.c.i, .int .i64 g.c.j, .int .i64 g.c.n, (.slice agc g.c.kids.length cgc), .int .i64 g.b.k, .int .i64 g.b.i, .int .i64 g.b.j, .int .i64 g.b.n, (.slice agb g.b.kids.length cgb), .int .i64 g.d.k, .int .i64 g.d.i, .int .i64 g.d.j, .int .i64 g.d.n, (.slice agd g.d.kids.length cgd), .int .i64 g.e.k, .int .i64 g.e.i, .int .i64 g.e.j, .int .i64 g.e.n, (.slice age g.e.kids.length cge), .int .i64 g.f.k, .int .i64 g.f.i, .int .i64 g.f.j, .int .i64 g.f.n, (.slice agf g.f.kids.length cgf)] dq (blk_at Hx1.out Kk10.out) (by rfl) rfl (by rfl) (by rfl) dq1 (by cases dq <;> first | rfl | exact dq2) (by kernel_rfl) ?_
    go_wp2_with fail
    clear kvV0
    refine (rsix_any 13 g [] (Par w V0.heap.size [] P) _ (.slice aga g.a.kids.length cga) (.slice agc g.c.kids.length cgc) (.slice agb g.b.kids.length cgb) (.slice agd g.d.kids.length cgd) (.slice age g.e.kids.length cge) (.slice agf g.f.kids.length cgf) (.slice none 0 0) (show I64 13 from by unfold I64; decide) (show Fm.fine g from ⟨Gg.out.1, Gg.out.2.1, Gg.out.2.2.1, Gg.out.2.2.2.1, Gg.out.2.2.2.2.1, Gg.out.2.2.2.2.2.1, Gg.out.2.2.2.2.2.2.1, Gg.out.2.2.2.2.2.2.2⟩) ⟨(HLga.out.later Kk10.out), (HLgc.out.later Kk10.out), (HLgb.out.later Kk10.out), (HLgd.out.later Kk10.out), (HLge.out.later Kk10.out), (HLgf.out.later Kk10.out)⟩ (liesQ_nil w6 (Par w V0.heap.size [] P)) (Nat.le_of_ble_eq_true rfl)).mono ?_
    obtain ⟨U20, hU20⟩ : ∃ qu, sixT 13 g [] = qu := ⟨_, rfl⟩
    rw [hU20]
    have HU20 := Lib.hid hU20
    clear hU20
    rintro e w13 ⟨s15, rfl, hl16, k14⟩
    obtain ⟨a17, c18, S19, rfl, -⟩ := hl16.out
    have Kk21 := Lib.hid k14
    clear k14
    have Hhl16 : Hid (LiesQ w13 (Par w V0.heap.size [] P) U20.kids _) := par_give hl16 (Below.size Kk10.out) (xlt_nil _)
    clear hl16
    have kvV0 : Sees V0 (w.heap.size + 1) w13 := sees_kept _ (kept_trans Kk10.out Kk21.out)
    go_wp2_with (refine stop_store 32 (.tmp 2) (.tmp 8) rfl ?_)
    intro _
    refine wpList_store_part_n (by rfl) 32 (.tmp 2) (.tmp 8) rfl (w.heap.size + 1) 0 #[.int .i64 U20.k, .int .i64 U20.i, .int .i64 U20.j, .int .i64 U20.n, (.slice a17 U20.kids.length c18)] (by rfl) (by rfl) 32 size_term (row_ok rfl) ?_
    intro W22 hW22
    clear kvV0
    subst hW22
    refine ⟨_, #[.int .i64 U20.k, .int .i64 U20.i, .int .i64 U20.j, .int .i64 U20.n, (.slice a17 U20.kids.length c18)], (blk_at Hx2.out (kept_trans Kk10.out Kk21.out)), rfl, Nat.le_of_ble_eq_true rfl, ?_⟩
    intro W23 hW23
    go_wp2_with fail
    refine bodyPost_ret (results_cell_row rfl _ _ (w.heap.size + 1) 32 _ _ du rfl (blk_same (blk_at Hx2.out (kept_trans Kk10.out Kk21.out)) hW23) hu1 (by cases du <;> first | rfl | exact hu2) size_term) rfl ?_
    rw [show cgPi g = U20 from by unfold cgPi; rw [Hhb8.out]; rw [← HU20.out]; (try first | rfl | simp)]
    exact ⟨_, rfl, par_end (par_row' Hhl16.out hW23 (by omega) (by have := Z0.out; omega)) (by have := Z0.out; omega), kept_set (kept_trans Kk5.out (kept_trans Kk10.out Kk21.out)) hW23 (by omega)⟩

set_option maxRecDepth 20000 in
set_option maxHeartbeats 4000000 in
theorem rcSig_any (g : Fm) (P : Nat → Prop) (w : World) (sga : Value) (sgc : Value) (sgb : Value) (sgd : Value) (sge : Value) (sgf : Value) (hfg : g.fine) (hlg : FQ w P g sga sgc sgb sgd sge sgf) : Calls Try.prog 58 #[fv g sga sgc sgb sgd sge sgf] w (GivesP P (cgSig g) w) := by
  have Gg := Lib.hid hfg
  clear hfg
  obtain ⟨hlga, hlgc, hlgb, hlgd, hlge, hlgf⟩ := hlg
  obtain ⟨aga, cga, Sga, rfl, -⟩ := hlga.out
  obtain ⟨agc, cgc, Sgc, rfl, -⟩ := hlgc.out
  obtain ⟨agb, cgb, Sgb, rfl, -⟩ := hlgb.out
  obtain ⟨agd, cgd, Sgd, rfl, -⟩ := hlgd.out
  obtain ⟨age, cge, Sge, rfl, -⟩ := hlge.out
  obtain ⟨agf, cgf, Sgf, rfl, -⟩ := hlgf.out
  obtain ⟨du, hu1, hu2⟩ := under_term
  obtain ⟨dq, dq1, dq2⟩ := under_of 69 (by kernel_rfl)
  unfold fv
  go_enter Try.func58, Try.ntmps58
  go_upto_region 1 with fail
  refine at_code (fun V0 hV0 => ?_)
  obtain ⟨k3, x1, x2, z4⟩ := alloc2 hV0
  have Kk5 := Lib.hid k3
  clear k3
  have Hx1 := Lib.hid x1
  have Hx2 := Lib.hid x2
  have Z0 := Lib.hid z4
  clear z4 x1 x2 hV0
  have HLga : Hid (LiesQ V0 (Par w V0.heap.size [] P) g.a.kids _) := (par_in _ _ hlga).later Kk5.out
  clear hlga
  have HLgc : Hid (LiesQ V0 (Par w V0.heap.size [] P) g.c.kids _) := (par_in _ _ hlgc).later Kk5.out
  clear hlgc
  have HLgb : Hid (LiesQ V0 (Par w V0.heap.size [] P) g.b.kids _) := (par_in _ _ hlgb).later Kk5.out
  clear hlgb
  have HLgd : Hid (LiesQ V0 (Par w V0.heap.size [] P) g.d.kids _) := (par_in _ _ hlgd).later Kk5.out
  clear hlgd
  have HLge : Hid (LiesQ V0 (Par w V0.heap.size [] P) g.e.kids _) := (par_in _ _ hlge).later Kk5.out
  clear hlge
  have HLgf : Hid (LiesQ V0 (Par w V0.heap.size [] P) g.f.kids _) := (par_in _ _ hlgf).later Kk5.out
  clear hlgf
  have kvV0 : Sees V0 (w.heap.size + 1) V0 := sees_kept _ (kept_refl _)
  go_wp2_with (refine stop_load 69 (.tmp 1) rfl ?_)
  intro _
  refine wpList_load_part (w.heap.size) 0 69 (.tmp 1) #[.int .i64 g.i, .int .i64 g.j, .int .i64 g.a.k, .int .i64 g.a.i, .int .i64 g.a.j, .int .i64 g.a.n, (.slice aga g.a.kids.length cga), .int .i64 g.c.k, .int .i64 g.c.i, .int .i64 g.c.j, .int .i64 g.c.n, (.slice agc g.c.kids.length cgc), .int .i64 g.b.k, .int .i64 g.b.i, .int .i64 g.b.j, .int .i64 g.b.n, (.slice agb g.b.kids.length cgb), .int .i64 g.d.k, .int .i64 g.d.i, .int .i64 g.d.j, .int .i64 g.d.n, (.slice agd g.d.kids.length cgd), .int .i64 g.e.k, .int .i64 g.e.i, .int .i64 g.e.j, .int .i64 g.e.n, (.slice age g.e.kids.length cge), .int .i64 g.f.k, .int .i64 g.f.i, .int .i64 g.f.j, .int .i64 g.f.n, (.slice agf g.f.kids.length cgf)] dq Hx1.out (by rfl) rfl (by rfl) (by rfl) dq1 (by cases dq <;> first | rfl | exact dq2) (by kernel_rfl) ?_
  go_wp2_with fail
  clear kvV0
  refine (rfright_any g (Par w V0.heap.size [] P) _ (.slice aga g.a.kids.length cga) (.slice agc g.c.kids.length cgc) (.slice agb g.b.kids.length cgb) (.slice agd g.d.kids.length cgd) (.slice age g.e.kids.length cge) (.slice agf g.f.kids.length cgf) (show Fm.fine g from ⟨Gg.out.1, Gg.out.2.1, Gg.out.2.2.1, Gg.out.2.2.2.1, Gg.out.2.2.2.2.1, Gg.out.2.2.2.2.2.1, Gg.out.2.2.2.2.2.2.1, Gg.out.2.2.2.2.2.2.2⟩) ⟨HLga.out, HLgc.out, HLgb.out, HLgd.out, HLge.out, HLgf.out⟩).mono ?_
  obtain ⟨rb9, hb8⟩ : ∃ qb, (fmR g) = qb := ⟨_, rfl⟩
  rw [hb8]
  have Hhb8 := Lib.hid hb8
  clear hb8
  rintro e w6 ⟨rfl, k7⟩
  have Kk10 := Lib.hid k7
  clear k7
  cases rb9 with
  | false =>
    have kvV0 : Sees V0 (w.heap.size + 1) w6 := sees_kept _ Kk10.out
    go_wp2_with (refine stop_store 32 (.tmp 2) (.tmp 6) rfl ?_)
    intro _
    refine wpList_store_part_n (by rfl) 32 (.tmp 2) (.tmp 6) rfl (w.heap.size + 1) 0 #[.int .i64 0, .int .i64 0, .int .i64 0, .int .i64 0, .slice none 0 0] (by rfl) (by rfl) 32 size_term (row_ok rfl) ?_
    intro W11 hW11
    clear kvV0
    subst hW11
    refine ⟨_, #[.int .i64 0, .int .i64 0, .int .i64 0, .int .i64 0, .slice none 0 0], (blk_at Hx2.out Kk10.out), rfl, Nat.le_of_ble_eq_true rfl, ?_⟩
    intro W12 hW12
    go_wp2_with fail
    refine bodyPost_ret (results_cell_row rfl _ _ (w.heap.size + 1) 32 _ _ du rfl (blk_same (blk_at Hx2.out Kk10.out) hW12) hu1 (by cases du <;> first | rfl | exact hu2) size_term) rfl ?_
    rw [show cgSig g = (Tm.mk 0 0 0 0 []) from by unfold cgSig; rw [Hhb8.out]; (try first | rfl | simp)]
    exact ⟨_, rfl, par_end (par_row' (liesQ_nil w6 (Par w V0.heap.size [] P)) hW12 (by omega) (by have := Z0.out; omega)) (by have := Z0.out; omega), kept_set (kept_trans Kk5.out Kk10.out) hW12 (by omega)⟩
  | true =>
    have kvV0 : Sees V0 (w.heap.size + 1) w6 := sees_kept _ Kk10.out
    go_wp2_with (refine stop_load 69 (.tmp 1) rfl ?_)
    intro _
    refine wpList_load_part (w.heap.size) 0 69 (.tmp 1) #[.int .i64 g.i, .int .i64 g.j, .int .i64 g.a.k, .int .i64 g.a.i, .int .i64 g.a.j, .int .i64 g.a.n, (.slice aga g.a.kids.length cga), .int .i64 g.c.k, .int .i64 g.c.i, .int .i64 g.c.j, .int .i64 g.c.n, (.slice agc g.c.kids.length cgc), .int .i64 g.b.k, .int .i64 g.b.i, .int .i64 g.b.j, .int .i64 g.b.n, (.slice agb g.b.kids.length cgb), .int .i64 g.d.k, .int .i64 g.d.i, .int .i64 g.d.j, .int .i64 g.d.n, (.slice agd g.d.kids.length cgd), .int .i64 g.e.k, .int .i64 g.e.i, .int .i64 g.e.j, .int .i64 g.e.n, (.slice age g.e.kids.length cge), .int .i64 g.f.k, .int .i64 g.f.i, .int .i64 g.f.j, .int .i64 g.f.n, (.slice agf g.f.kids.length cgf)] dq (blk_at Hx1.out Kk10.out) (by rfl) rfl (by rfl) (by rfl) dq1 (by cases dq <;> first | rfl | exact dq2) (by kernel_rfl) ?_
    go_wp2_with fail
    clear kvV0
    refine (rsix_any 14 g [] (Par w V0.heap.size [] P) _ (.slice aga g.a.kids.length cga) (.slice agc g.c.kids.length cgc) (.slice agb g.b.kids.length cgb) (.slice agd g.d.kids.length cgd) (.slice age g.e.kids.length cge) (.slice agf g.f.kids.length cgf) (.slice none 0 0) (show I64 14 from by unfold I64; decide) (show Fm.fine g from ⟨Gg.out.1, Gg.out.2.1, Gg.out.2.2.1, Gg.out.2.2.2.1, Gg.out.2.2.2.2.1, Gg.out.2.2.2.2.2.1, Gg.out.2.2.2.2.2.2.1, Gg.out.2.2.2.2.2.2.2⟩) ⟨(HLga.out.later Kk10.out), (HLgc.out.later Kk10.out), (HLgb.out.later Kk10.out), (HLgd.out.later Kk10.out), (HLge.out.later Kk10.out), (HLgf.out.later Kk10.out)⟩ (liesQ_nil w6 (Par w V0.heap.size [] P)) (Nat.le_of_ble_eq_true rfl)).mono ?_
    obtain ⟨U20, hU20⟩ : ∃ qu, sixT 14 g [] = qu := ⟨_, rfl⟩
    rw [hU20]
    have HU20 := Lib.hid hU20
    clear hU20
    rintro e w13 ⟨s15, rfl, hl16, k14⟩
    obtain ⟨a17, c18, S19, rfl, -⟩ := hl16.out
    have Kk21 := Lib.hid k14
    clear k14
    have Hhl16 : Hid (LiesQ w13 (Par w V0.heap.size [] P) U20.kids _) := par_give hl16 (Below.size Kk10.out) (xlt_nil _)
    clear hl16
    have kvV0 : Sees V0 (w.heap.size + 1) w13 := sees_kept _ (kept_trans Kk10.out Kk21.out)
    go_wp2_with (refine stop_store 32 (.tmp 2) (.tmp 8) rfl ?_)
    intro _
    refine wpList_store_part_n (by rfl) 32 (.tmp 2) (.tmp 8) rfl (w.heap.size + 1) 0 #[.int .i64 U20.k, .int .i64 U20.i, .int .i64 U20.j, .int .i64 U20.n, (.slice a17 U20.kids.length c18)] (by rfl) (by rfl) 32 size_term (row_ok rfl) ?_
    intro W22 hW22
    clear kvV0
    subst hW22
    refine ⟨_, #[.int .i64 U20.k, .int .i64 U20.i, .int .i64 U20.j, .int .i64 U20.n, (.slice a17 U20.kids.length c18)], (blk_at Hx2.out (kept_trans Kk10.out Kk21.out)), rfl, Nat.le_of_ble_eq_true rfl, ?_⟩
    intro W23 hW23
    go_wp2_with fail
    refine bodyPost_ret (results_cell_row rfl _ _ (w.heap.size + 1) 32 _ _ du rfl (blk_same (blk_at Hx2.out (kept_trans Kk10.out Kk21.out)) hW23) hu1 (by cases du <;> first | rfl | exact hu2) size_term) rfl ?_
    rw [show cgSig g = U20 from by unfold cgSig; rw [Hhb8.out]; rw [← HU20.out]; (try first | rfl | simp)]
    exact ⟨_, rfl, par_end (par_row' Hhl16.out hW23 (by omega) (by have := Z0.out; omega)) (by have := Z0.out; omega), kept_set (kept_trans Kk5.out (kept_trans Kk10.out Kk21.out)) hW23 (by omega)⟩

def rcLamr3_0 : Oper := { dst := some 23, op := Go.Op.fieldAddr 69 (Go.Operand.tmp 4) 2, type := 0, pos := "ref.go:160", after := #[], guard := none }
def rcLamr3_1 : Oper := { dst := some 24, op := Go.Op.load 32 (Go.Operand.tmp 23), type := 32, pos := "ref.go:160", after := #[{ on := 0, ground := Go.Ground.data }], guard := none }
def rcLamr3_2 : Oper := { dst := some 25, op := Go.Op.load 32 (Go.Operand.tmp 5), type := 32, pos := "ref.go:160", after := #[], guard := none }
def rcLamr3_3 : Oper := { dst := some 26, op := Go.Op.buildSlice 30 2 #[(0, Go.Operand.tmp 24), (1, Go.Operand.tmp 25)], type := 30, pos := "ref.go:160", after := #[{ on := 1, ground := Go.Ground.data }, { on := 2, ground := Go.Ground.data }], guard := none }
def rcLamr3_4 : Oper := { dst := some 27, op := Go.Op.call { callee := Go.Callee.value (Go.Operand.func 103), args := #[Go.Operand.const (Go.Value.int Go.IntKind.i64 14), Go.Operand.tmp 26], argTypes := #[3, 30] }, type := 32, pos := "ref.go:160", after := #[{ on := 3, ground := Go.Ground.data }], guard := none }
def rcLamr3_5 : Oper := { dst := some 28, op := Go.Op.fieldAddr 69 (Go.Operand.tmp 4) 3, type := 0, pos := "ref.go:160", after := #[], guard := none }
def rcLamr3_6 : Oper := { dst := some 29, op := Go.Op.load 32 (Go.Operand.tmp 28), type := 32, pos := "ref.go:160", after := #[{ on := 5, ground := Go.Ground.data }], guard := none }
def rcLamr3_7 : Oper := { dst := some 30, op := Go.Op.load 32 (Go.Operand.tmp 6), type := 32, pos := "ref.go:160", after := #[], guard := none }
def rcLamr3_8 : Oper := { dst := some 31, op := Go.Op.buildSlice 30 2 #[(0, Go.Operand.tmp 29), (1, Go.Operand.tmp 30)], type := 30, pos := "ref.go:160", after := #[{ on := 6, ground := Go.Ground.data }, { on := 7, ground := Go.Ground.data }], guard := none }
def rcLamr3_9 : Oper := { dst := some 32, op := Go.Op.call { callee := Go.Callee.value (Go.Operand.func 103), args := #[Go.Operand.const (Go.Value.int Go.IntKind.i64 14), Go.Operand.tmp 31], argTypes := #[3, 30] }, type := 32, pos := "ref.go:160", after := #[{ on := 8, ground := Go.Ground.data }, { on := 4, ground := Go.Ground.chain }], guard := none }
def rcLamr3_10 : Oper := { dst := some 9, op := Go.Op.alloc 32, type := 0, pos := "ref.go:160", after := #[], guard := none }
def rcLamr3_11 : Oper := { dst := some 10, op := Go.Op.alloc 32, type := 0, pos := "ref.go:160", after := #[], guard := none }
def rcLamr3_12 : Oper := { dst := none, op := Go.Op.store 32 (Go.Operand.tmp 9) (Go.Operand.tmp 27), type := 0, pos := "ref.go:160", after := #[{ on := 10, ground := Go.Ground.data }, { on := 4, ground := Go.Ground.data }, { on := 9, ground := Go.Ground.chain }, { on := 0, ground := Go.Ground.phase }, { on := 1, ground := Go.Ground.phase }, { on := 2, ground := Go.Ground.phase }, { on := 3, ground := Go.Ground.phase }, { on := 4, ground := Go.Ground.phase }, { on := 5, ground := Go.Ground.textOnly Go.Departure.lateStores }, { on := 6, ground := Go.Ground.textOnly Go.Departure.lateStores }, { on := 7, ground := Go.Ground.textOnly Go.Departure.lateStores }, { on := 8, ground := Go.Ground.textOnly Go.Departure.lateStores }, { on := 9, ground := Go.Ground.textOnly Go.Departure.lateStoresUnsure }, { on := 10, ground := Go.Ground.phase }, { on := 11, ground := Go.Ground.phase }], guard := none }
def rcLamr3_13 : Oper := { dst := none, op := Go.Op.store 32 (Go.Operand.tmp 10) (Go.Operand.tmp 32), type := 0, pos := "ref.go:160", after := #[{ on := 11, ground := Go.Ground.data }, { on := 9, ground := Go.Ground.data }, { on := 12, ground := Go.Ground.chain }, { on := 0, ground := Go.Ground.phase }, { on := 1, ground := Go.Ground.phase }, { on := 2, ground := Go.Ground.phase }, { on := 3, ground := Go.Ground.phase }, { on := 4, ground := Go.Ground.phase }, { on := 5, ground := Go.Ground.phase }, { on := 6, ground := Go.Ground.phase }, { on := 7, ground := Go.Ground.phase }, { on := 8, ground := Go.Ground.phase }, { on := 9, ground := Go.Ground.phase }, { on := 10, ground := Go.Ground.phase }, { on := 11, ground := Go.Ground.phase }, { on := 12, ground := Go.Ground.phase }], guard := none }
def rcLamr4_0 : Oper := { dst := some 33, op := Go.Op.fieldAddr 69 (Go.Operand.tmp 4) 0, type := 0, pos := "ref.go:161", after := #[], guard := none }
def rcLamr4_1 : Oper := { dst := some 34, op := Go.Op.load 3 (Go.Operand.tmp 33), type := 3, pos := "ref.go:161", after := #[{ on := 0, ground := Go.Ground.data }], guard := none }
def rcLamr4_2 : Oper := { dst := some 35, op := Go.Op.fieldAddr 69 (Go.Operand.tmp 4) 1, type := 0, pos := "ref.go:161", after := #[], guard := none }
def rcLamr4_3 : Oper := { dst := some 36, op := Go.Op.load 3 (Go.Operand.tmp 35), type := 3, pos := "ref.go:161", after := #[{ on := 2, ground := Go.Ground.data }], guard := none }
def rcLamr4_4 : Oper := { dst := some 37, op := Go.Op.call { callee := Go.Callee.builtin Go.Builtin.max, args := #[Go.Operand.tmp 34, Go.Operand.tmp 36], argTypes := #[3, 3] }, type := 3, pos := "ref.go:161", after := #[{ on := 1, ground := Go.Ground.data }, { on := 3, ground := Go.Ground.data }], guard := none }
def rcLamr4_5 : Oper := { dst := some 38, op := Go.Op.fieldAddr 69 (Go.Operand.tmp 4) 2, type := 0, pos := "ref.go:161", after := #[], guard := none }
def rcLamr4_6 : Oper := { dst := some 39, op := Go.Op.load 32 (Go.Operand.tmp 38), type := 32, pos := "ref.go:161", after := #[{ on := 5, ground := Go.Ground.data }], guard := none }
def rcLamr4_7 : Oper := { dst := some 40, op := Go.Op.fieldAddr 69 (Go.Operand.tmp 4) 4, type := 0, pos := "ref.go:161", after := #[], guard := none }
def rcLamr4_8 : Oper := { dst := some 41, op := Go.Op.load 32 (Go.Operand.tmp 40), type := 32, pos := "ref.go:161", after := #[{ on := 7, ground := Go.Ground.data }], guard := none }
def rcLamr4_9 : Oper := { dst := some 42, op := Go.Op.buildSlice 30 2 #[(0, Go.Operand.tmp 39), (1, Go.Operand.tmp 41)], type := 30, pos := "ref.go:161", after := #[{ on := 6, ground := Go.Ground.data }, { on := 8, ground := Go.Ground.data }], guard := none }
def rcLamr4_10 : Oper := { dst := some 43, op := Go.Op.call { callee := Go.Callee.value (Go.Operand.func 103), args := #[Go.Operand.const (Go.Value.int Go.IntKind.i64 13), Go.Operand.tmp 42], argTypes := #[3, 30] }, type := 32, pos := "ref.go:161", after := #[{ on := 9, ground := Go.Ground.data }], guard := none }
def rcLamr4_11 : Oper := { dst := some 44, op := Go.Op.fieldAddr 69 (Go.Operand.tmp 4) 3, type := 0, pos := "ref.go:161", after := #[], guard := none }
def rcLamr4_12 : Oper := { dst := some 45, op := Go.Op.load 32 (Go.Operand.tmp 44), type := 32, pos := "ref.go:161", after := #[{ on := 11, ground := Go.Ground.data }], guard := none }
def rcLamr4_13 : Oper := { dst := some 46, op := Go.Op.fieldAddr 69 (Go.Operand.tmp 4) 5, type := 0, pos := "ref.go:161", after := #[], guard := none }
def rcLamr4_14 : Oper := { dst := some 47, op := Go.Op.load 32 (Go.Operand.tmp 46), type := 32, pos := "ref.go:161", after := #[{ on := 13, ground := Go.Ground.data }], guard := none }
def rcLamr4_15 : Oper := { dst := some 48, op := Go.Op.buildSlice 30 2 #[(0, Go.Operand.tmp 45), (1, Go.Operand.tmp 47)], type := 30, pos := "ref.go:161", after := #[{ on := 12, ground := Go.Ground.data }, { on := 14, ground := Go.Ground.data }], guard := none }
def rcLamr4_16 : Oper := { dst := some 49, op := Go.Op.call { callee := Go.Callee.value (Go.Operand.func 103), args := #[Go.Operand.const (Go.Value.int Go.IntKind.i64 13), Go.Operand.tmp 48], argTypes := #[3, 30] }, type := 32, pos := "ref.go:161", after := #[{ on := 15, ground := Go.Ground.data }, { on := 10, ground := Go.Ground.chain }], guard := none }
def rcLamr4_17 : Oper := { dst := some 50, op := Go.Op.load 32 (Go.Operand.tmp 9), type := 32, pos := "ref.go:161", after := #[], guard := none }
def rcLamr4_18 : Oper := { dst := some 51, op := Go.Op.load 32 (Go.Operand.tmp 10), type := 32, pos := "ref.go:161", after := #[], guard := none }
def rcLamr4_19 : Oper := { dst := some 52, op := Go.Op.load 69 (Go.Operand.tmp 4), type := 69, pos := "ref.go:161", after := #[], guard := none }
def rcLamr4_20 : Oper := { dst := some 53, op := Go.Op.load 32 (Go.Operand.tmp 9), type := 32, pos := "ref.go:161", after := #[], guard := none }
def rcLamr4_21 : Oper := { dst := some 54, op := Go.Op.load 32 (Go.Operand.tmp 10), type := 32, pos := "ref.go:161", after := #[], guard := none }
def rcLamr4_22 : Oper := { dst := some 55, op := Go.Op.load 32 (Go.Operand.tmp 7), type := 32, pos := "ref.go:161", after := #[], guard := none }
def rcLamr4_23 : Oper := { dst := some 56, op := Go.Op.buildSlice 30 3 #[(0, Go.Operand.tmp 53), (1, Go.Operand.tmp 54), (2, Go.Operand.tmp 55)], type := 30, pos := "ref.go:161", after := #[{ on := 20, ground := Go.Ground.data }, { on := 21, ground := Go.Ground.data }, { on := 22, ground := Go.Ground.data }], guard := none }
def rcLamr4_24 : Oper := { dst := some 57, op := Go.Op.call { callee := Go.Callee.value (Go.Operand.func 117), args := #[Go.Operand.const (Go.Value.int Go.IntKind.i64 15), Go.Operand.tmp 52, Go.Operand.tmp 56], argTypes := #[3, 69, 30] }, type := 32, pos := "ref.go:161", after := #[{ on := 19, ground := Go.Ground.data }, { on := 23, ground := Go.Ground.data }, { on := 16, ground := Go.Ground.chain }], guard := none }
def rcLamr4_25 : Oper := { dst := some 58, op := Go.Op.build 45 #[(0, Go.Operand.tmp 37), (1, Go.Operand.tmp 43), (2, Go.Operand.tmp 49), (3, Go.Operand.tmp 50), (4, Go.Operand.tmp 51), (5, Go.Operand.tmp 57)], type := 45, pos := "ref.go:161", after := #[{ on := 4, ground := Go.Ground.data }, { on := 10, ground := Go.Ground.data }, { on := 16, ground := Go.Ground.data }, { on := 17, ground := Go.Ground.data }, { on := 18, ground := Go.Ground.data }, { on := 24, ground := Go.Ground.data }], guard := none }
def rcLamr4_26 : Oper := { dst := none, op := Go.Op.store 45 (Go.Operand.tmp 8) (Go.Operand.tmp 58), type := 0, pos := "ref.go:161", after := #[{ on := 25, ground := Go.Ground.data }, { on := 24, ground := Go.Ground.chain }, { on := 0, ground := Go.Ground.phase }, { on := 1, ground := Go.Ground.phase }, { on := 2, ground := Go.Ground.phase }, { on := 3, ground := Go.Ground.phase }, { on := 4, ground := Go.Ground.phase }, { on := 5, ground := Go.Ground.phase }, { on := 6, ground := Go.Ground.phase }, { on := 7, ground := Go.Ground.phase }, { on := 8, ground := Go.Ground.phase }, { on := 9, ground := Go.Ground.phase }, { on := 10, ground := Go.Ground.phase }, { on := 11, ground := Go.Ground.phase }, { on := 12, ground := Go.Ground.phase }, { on := 13, ground := Go.Ground.phase }, { on := 14, ground := Go.Ground.phase }, { on := 15, ground := Go.Ground.phase }, { on := 16, ground := Go.Ground.phase }, { on := 17, ground := Go.Ground.phase }, { on := 18, ground := Go.Ground.phase }, { on := 19, ground := Go.Ground.phase }, { on := 20, ground := Go.Ground.phase }, { on := 21, ground := Go.Ground.phase }, { on := 22, ground := Go.Ground.phase }, { on := 23, ground := Go.Ground.phase }, { on := 24, ground := Go.Ground.phase }, { on := 25, ground := Go.Ground.phase }], guard := none }
end Go.Proofs.Ytkdceahmknhojaa
