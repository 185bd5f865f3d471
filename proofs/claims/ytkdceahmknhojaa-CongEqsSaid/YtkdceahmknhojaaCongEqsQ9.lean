/-
  CongEqs holds: for every input the call returns true, and the arguments read as before. No condition.
-/
import Derived.Test.YtkdceahmknhojaaRows
import Derived.WalkKit
import Derived.Lib.Hide
import Derived.KernelRfl
import Derived.Deep.RegionWith
import Derived.Deep.RegionHeld3
import Derived.Deep.AppendLies
import Derived.Laws.Rows
import Derived.Laws.IdiomCopy
import Derived.Deep.Slices
import Derived.Lib.QuietBelow
import Derived.StillTailTactics
import Derived.BigQuiet
import Derived.IntWalk
import Derived.OwnWalk
import Derived.Deep.RegionLaw
import Derived.Deep.QuietTactic
import Derived.Deep.LoopGhost
import Derived.Deep.DeepCutAuto
import Derived.Deep.MidRow
import Derived.OrdersHeld
import Derived.Laws.Tables
import Derived.Laws.CopyOwn
import Derived.Laws.CopyRow
import Derived.Deep.Upon
import Derived.ArgAppend
import Derived.Deep.RegionHeld
import Derived.Lib.MinMax
import Derived.ProofKit
import Derived.OpenShut
import Derived.Carry
import Derived.ChangeSlices
import Derived.JoinedOf
import Derived.Test.YtkdceahmknhojaaCongEqsQ8
namespace Go.Proofs.Ytkdceahmknhojaa
open Go.RowKit

end Go.Proofs.Ytkdceahmknhojaa

namespace Go.Proofs.Ytkdceahmknhojaa
open Go.RowKit

def congEqsr3_0 : Oper := { dst := some 25, op := Go.Op.move (Go.Operand.tmp 0), type := 3, pos := "law.go:80", after := #[], guard := none }
def congEqsr3_1 : Oper := { dst := some 26, op := Go.Op.load 32 (Go.Operand.tmp 7), type := 32, pos := "law.go:80", after := #[], guard := none }
def congEqsr3_2 : Oper := { dst := some 27, op := Go.Op.load 32 (Go.Operand.tmp 8), type := 32, pos := "law.go:80", after := #[], guard := none }
def congEqsr3_3 : Oper := { dst := some 28, op := Go.Op.load 32 (Go.Operand.tmp 9), type := 32, pos := "law.go:80", after := #[], guard := none }
def congEqsr3_4 : Oper := { dst := some 29, op := Go.Op.load 45 (Go.Operand.tmp 10), type := 45, pos := "law.go:80", after := #[], guard := none }
def congEqsr3_5 : Oper := { dst := some 30, op := Go.Op.call { callee := Go.Callee.value (Go.Operand.func 63), args := #[Go.Operand.tmp 29], argTypes := #[45] }, type := 51, pos := "law.go:80", after := #[{ on := 4, ground := Go.Ground.data }], guard := none }
def congEqsr3_6 : Oper := { dst := some 31, op := Go.Op.load 45 (Go.Operand.tmp 11), type := 45, pos := "law.go:80", after := #[], guard := none }
def congEqsr3_7 : Oper := { dst := some 32, op := Go.Op.call { callee := Go.Callee.value (Go.Operand.func 63), args := #[Go.Operand.tmp 31], argTypes := #[45] }, type := 51, pos := "law.go:80", after := #[{ on := 6, ground := Go.Ground.data }, { on := 5, ground := Go.Ground.chain }], guard := none }
def congEqsr3_8 : Oper := { dst := some 33, op := Go.Op.call { callee := Go.Callee.value (Go.Operand.func 72), args := #[Go.Operand.tmp 25, Go.Operand.tmp 26, Go.Operand.tmp 27, Go.Operand.tmp 28, Go.Operand.tmp 30, Go.Operand.tmp 32], argTypes := #[3, 32, 32, 32, 51, 51] }, type := 32, pos := "law.go:80", after := #[{ on := 0, ground := Go.Ground.data }, { on := 1, ground := Go.Ground.data }, { on := 2, ground := Go.Ground.data }, { on := 3, ground := Go.Ground.data }, { on := 5, ground := Go.Ground.data }, { on := 7, ground := Go.Ground.data }, { on := 7, ground := Go.Ground.chain }], guard := none }
def congEqsr3_9 : Oper := { dst := some 34, op := Go.Op.move (Go.Operand.tmp 0), type := 3, pos := "law.go:80", after := #[], guard := none }
def congEqsr3_10 : Oper := { dst := some 35, op := Go.Op.load 32 (Go.Operand.tmp 7), type := 32, pos := "law.go:80", after := #[], guard := none }
def congEqsr3_11 : Oper := { dst := some 36, op := Go.Op.load 32 (Go.Operand.tmp 8), type := 32, pos := "law.go:80", after := #[], guard := none }
def congEqsr3_12 : Oper := { dst := some 37, op := Go.Op.load 32 (Go.Operand.tmp 9), type := 32, pos := "law.go:80", after := #[], guard := none }
def congEqsr3_13 : Oper := { dst := some 38, op := Go.Op.load 45 (Go.Operand.tmp 10), type := 45, pos := "law.go:80", after := #[], guard := none }
def congEqsr3_14 : Oper := { dst := some 39, op := Go.Op.load 45 (Go.Operand.tmp 11), type := 45, pos := "law.go:80", after := #[], guard := none }
def congEqsr3_15 : Oper := { dst := some 40, op := Go.Op.call { callee := Go.Callee.value (Go.Operand.func 73), args := #[Go.Operand.tmp 34, Go.Operand.tmp 35, Go.Operand.tmp 36, Go.Operand.tmp 37, Go.Operand.tmp 38, Go.Operand.tmp 39], argTypes := #[3, 32, 32, 32, 45, 45] }, type := 32, pos := "law.go:80", after := #[{ on := 9, ground := Go.Ground.data }, { on := 10, ground := Go.Ground.data }, { on := 11, ground := Go.Ground.data }, { on := 12, ground := Go.Ground.data }, { on := 13, ground := Go.Ground.data }, { on := 14, ground := Go.Ground.data }, { on := 8, ground := Go.Ground.chain }], guard := none }
def congEqsr3_16 : Oper := { dst := some 41, op := Go.Op.call { callee := Go.Callee.value (Go.Operand.func 25), args := #[Go.Operand.tmp 33, Go.Operand.tmp 40], argTypes := #[32, 32] }, type := 4, pos := "law.go:80", after := #[{ on := 8, ground := Go.Ground.data }, { on := 15, ground := Go.Ground.data }, { on := 15, ground := Go.Ground.chain }], guard := none }
def congEqsr3_17 : Oper := { dst := some 42, op := Go.Op.move (Go.Operand.tmp 41), type := 4, pos := "law.go:80", after := #[{ on := 16, ground := Go.Ground.data }, { on := 16, ground := Go.Ground.chain }], guard := none }
def congEqsr3_18 : Oper := { dst := some 43, op := Go.Op.move (Go.Operand.tmp 0), type := 3, pos := "law.go:80", after := #[{ on := 17, ground := Go.Ground.guard }], guard := some (17, true) }
def congEqsr3_19 : Oper := { dst := some 44, op := Go.Op.load 32 (Go.Operand.tmp 7), type := 32, pos := "law.go:80", after := #[{ on := 17, ground := Go.Ground.guard }], guard := some (17, true) }
def congEqsr3_20 : Oper := { dst := some 45, op := Go.Op.load 32 (Go.Operand.tmp 8), type := 32, pos := "law.go:80", after := #[{ on := 17, ground := Go.Ground.guard }], guard := some (17, true) }
def congEqsr3_21 : Oper := { dst := some 46, op := Go.Op.load 32 (Go.Operand.tmp 9), type := 32, pos := "law.go:80", after := #[{ on := 17, ground := Go.Ground.guard }], guard := some (17, true) }
def congEqsr3_22 : Oper := { dst := some 47, op := Go.Op.load 45 (Go.Operand.tmp 10), type := 45, pos := "law.go:80", after := #[{ on := 17, ground := Go.Ground.guard }], guard := some (17, true) }
def congEqsr3_23 : Oper := { dst := some 48, op := Go.Op.call { callee := Go.Callee.value (Go.Operand.func 63), args := #[Go.Operand.tmp 47], argTypes := #[45] }, type := 51, pos := "law.go:80", after := #[{ on := 22, ground := Go.Ground.data }, { on := 17, ground := Go.Ground.chain }, { on := 17, ground := Go.Ground.guard }], guard := some (17, true) }
def congEqsr3_24 : Oper := { dst := some 49, op := Go.Op.call { callee := Go.Callee.value (Go.Operand.func 74), args := #[Go.Operand.tmp 43, Go.Operand.tmp 44, Go.Operand.tmp 45, Go.Operand.tmp 46, Go.Operand.tmp 48], argTypes := #[3, 32, 32, 32, 51] }, type := 51, pos := "law.go:80", after := #[{ on := 18, ground := Go.Ground.data }, { on := 19, ground := Go.Ground.data }, { on := 20, ground := Go.Ground.data }, { on := 21, ground := Go.Ground.data }, { on := 23, ground := Go.Ground.data }, { on := 23, ground := Go.Ground.chain }, { on := 17, ground := Go.Ground.guard }], guard := some (17, true) }
def congEqsr3_25 : Oper := { dst := some 50, op := Go.Op.move (Go.Operand.tmp 0), type := 3, pos := "law.go:80", after := #[{ on := 17, ground := Go.Ground.guard }], guard := some (17, true) }
def congEqsr3_26 : Oper := { dst := some 51, op := Go.Op.load 32 (Go.Operand.tmp 7), type := 32, pos := "law.go:80", after := #[{ on := 17, ground := Go.Ground.guard }], guard := some (17, true) }
def congEqsr3_27 : Oper := { dst := some 52, op := Go.Op.load 32 (Go.Operand.tmp 8), type := 32, pos := "law.go:80", after := #[{ on := 17, ground := Go.Ground.guard }], guard := some (17, true) }
def congEqsr3_28 : Oper := { dst := some 53, op := Go.Op.load 32 (Go.Operand.tmp 9), type := 32, pos := "law.go:80", after := #[{ on := 17, ground := Go.Ground.guard }], guard := some (17, true) }
def congEqsr3_29 : Oper := { dst := some 54, op := Go.Op.load 45 (Go.Operand.tmp 10), type := 45, pos := "law.go:80", after := #[{ on := 17, ground := Go.Ground.guard }], guard := some (17, true) }
def congEqsr3_30 : Oper := { dst := some 55, op := Go.Op.call { callee := Go.Callee.value (Go.Operand.func 75), args := #[Go.Operand.tmp 50, Go.Operand.tmp 51, Go.Operand.tmp 52, Go.Operand.tmp 53, Go.Operand.tmp 54], argTypes := #[3, 32, 32, 32, 45] }, type := 45, pos := "law.go:80", after := #[{ on := 25, ground := Go.Ground.data }, { on := 26, ground := Go.Ground.data }, { on := 27, ground := Go.Ground.data }, { on := 28, ground := Go.Ground.data }, { on := 29, ground := Go.Ground.data }, { on := 24, ground := Go.Ground.chain }, { on := 17, ground := Go.Ground.guard }], guard := some (17, true) }
def congEqsr3_31 : Oper := { dst := some 56, op := Go.Op.call { callee := Go.Callee.value (Go.Operand.func 59), args := #[Go.Operand.tmp 49, Go.Operand.tmp 55], argTypes := #[51, 45] }, type := 4, pos := "law.go:80", after := #[{ on := 24, ground := Go.Ground.data }, { on := 30, ground := Go.Ground.data }, { on := 30, ground := Go.Ground.chain }, { on := 17, ground := Go.Ground.guard }], guard := some (17, true) }
def congEqsr3_32 : Oper := { dst := some 57, op := Go.Op.pick (Go.Operand.tmp 42) (Go.Operand.tmp 56) (Go.Operand.const (Go.Value.bool false)), type := 4, pos := "law.go:80", after := #[{ on := 17, ground := Go.Ground.data }, { on := 31, ground := Go.Ground.data }], guard := none }
def congEqsr3_33 : Oper := { dst := some 58, op := Go.Op.move (Go.Operand.tmp 57), type := 4, pos := "law.go:80", after := #[{ on := 32, ground := Go.Ground.data }, { on := 31, ground := Go.Ground.chain }], guard := none }
def congEqsr3_34 : Oper := { dst := some 59, op := Go.Op.call { callee := Go.Callee.value (Go.Operand.func 62), args := #[], argTypes := #[] }, type := 4, pos := "law.go:80", after := #[{ on := 33, ground := Go.Ground.chain }, { on := 33, ground := Go.Ground.guard }], guard := some (33, true) }
def congEqsr3_35 : Oper := { dst := some 60, op := Go.Op.pick (Go.Operand.tmp 58) (Go.Operand.tmp 59) (Go.Operand.const (Go.Value.bool false)), type := 4, pos := "law.go:80", after := #[{ on := 33, ground := Go.Ground.data }, { on := 34, ground := Go.Ground.data }], guard := none }
def congEqsr3_36 : Oper := { dst := some 12, op := Go.Op.assign (Go.Operand.tmp 60), type := 4, pos := "law.go:80", after := #[{ on := 35, ground := Go.Ground.data }, { on := 34, ground := Go.Ground.chain }, { on := 0, ground := Go.Ground.phase }, { on := 1, ground := Go.Ground.phase }, { on := 2, ground := Go.Ground.phase }, { on := 3, ground := Go.Ground.phase }, { on := 4, ground := Go.Ground.phase }, { on := 5, ground := Go.Ground.phase }, { on := 6, ground := Go.Ground.phase }, { on := 7, ground := Go.Ground.phase }, { on := 8, ground := Go.Ground.phase }, { on := 9, ground := Go.Ground.phase }, { on := 10, ground := Go.Ground.phase }, { on := 11, ground := Go.Ground.phase }, { on := 12, ground := Go.Ground.phase }, { on := 13, ground := Go.Ground.phase }, { on := 14, ground := Go.Ground.phase }, { on := 15, ground := Go.Ground.phase }, { on := 16, ground := Go.Ground.phase }, { on := 17, ground := Go.Ground.phase }, { on := 18, ground := Go.Ground.phase }, { on := 19, ground := Go.Ground.phase }, { on := 20, ground := Go.Ground.phase }, { on := 21, ground := Go.Ground.phase }, { on := 22, ground := Go.Ground.phase }, { on := 23, ground := Go.Ground.phase }, { on := 24, ground := Go.Ground.phase }, { on := 25, ground := Go.Ground.phase }, { on := 26, ground := Go.Ground.phase }, { on := 27, ground := Go.Ground.phase }, { on := 28, ground := Go.Ground.phase }, { on := 29, ground := Go.Ground.phase }, { on := 30, ground := Go.Ground.phase }, { on := 31, ground := Go.Ground.phase }, { on := 32, ground := Go.Ground.phase }, { on := 33, ground := Go.Ground.phase }, { on := 34, ground := Go.Ground.phase }, { on := 35, ground := Go.Ground.phase }], guard := none }
set_option maxRecDepth 20000 in
set_option maxHeartbeats 4000000 in
theorem congEqs_any (i : Int) (a : Tm) (c : Tm) (e : Tm) (r : He) (s : He) (P : Nat → Prop) (w : World) (sa : Value) (sc : Value) (se : Value) (sra : Value) (srb : Value) (srx : Value) (sry : Value) (srh : Value) (ssa : Value) (ssb : Value) (ssx : Value) (ssy : Value) (ssh : Value) (hri : I64 i) (hfa : a.fine) (hla : LiesQ w P a.kids sa) (hfc : c.fine) (hlc : LiesQ w P c.kids sc) (hfe : e.fine) (hle : LiesQ w P e.kids se) (hfr : r.fine) (hlr : HQ w P r sra srb srx sry srh) (hfs : s.fine) (hls : HQ w P s ssa ssb ssx ssy ssh) : Calls Try.prog 13 #[.int .i64 i, tv a sa, tv c sc, tv e se, hv r sra srb srx sry srh, hv s ssa ssb ssx ssy ssh] w fun e w' => e = .returned (.bool true) ∧ Kept w w' := by
  have Ri := Lib.hid hri
  clear hri
  have Ga := Lib.hid hfa
  clear hfa
  obtain ⟨aa, ca, Sa, rfl, -⟩ := hla.out
  have Gc := Lib.hid hfc
  clear hfc
  obtain ⟨ac, cc, Sc, rfl, -⟩ := hlc.out
  have Ge := Lib.hid hfe
  clear hfe
  obtain ⟨ae, ce, Se, rfl, -⟩ := hle.out
  have Gr := Lib.hid hfr
  clear hfr
  obtain ⟨hlra, hlrb, hlrx, hlry, hlrh⟩ := hlr
  obtain ⟨ara, cra, Sra, rfl, -⟩ := hlra.out
  obtain ⟨arb, crb, Srb, rfl, -⟩ := hlrb.out
  obtain ⟨arx, crx, Srx, rfl, -⟩ := hlrx.out
  obtain ⟨ary, cry, Sry, rfl, -⟩ := hlry.out
  obtain ⟨arh, crh, Srh, rfl, -⟩ := hlrh.out
  have Gs := Lib.hid hfs
  clear hfs
  obtain ⟨hlsa, hlsb, hlsx, hlsy, hlsh⟩ := hls
  obtain ⟨asa, csa, Ssa, rfl, -⟩ := hlsa.out
  obtain ⟨asb, csb, Ssb, rfl, -⟩ := hlsb.out
  obtain ⟨asx, csx, Ssx, rfl, -⟩ := hlsx.out
  obtain ⟨asy, csy, Ssy, rfl, -⟩ := hlsy.out
  obtain ⟨ash, csh, Ssh, rfl, -⟩ := hlsh.out
  obtain ⟨du, hu1, hu2⟩ := under_term
  obtain ⟨dr, dr1, dr2⟩ := under_of 45 (by kernel_rfl)
  unfold hv
  unfold tv
  go_enter Try.func13, Try.ntmps13
  go_upto_region 1 with fail
  refine at_code (fun V0 hV0 => ?_)
  obtain ⟨k6, x1, x2, x3, x4, x5, z7⟩ := alloc5 hV0
  have Kk8 := Lib.hid k6
  clear k6
  have Hx1 := Lib.hid x1
  have Hx2 := Lib.hid x2
  have Hx3 := Lib.hid x3
  have Hx4 := Lib.hid x4
  have Hx5 := Lib.hid x5
  have Z0 := Lib.hid z7
  clear z7 x1 x2 x3 x4 x5 hV0
  have HLa : Hid (LiesQ V0 (Par w V0.heap.size [] P) a.kids _) := (par_in _ _ hla).later Kk8.out
  clear hla
  have HLc : Hid (LiesQ V0 (Par w V0.heap.size [] P) c.kids _) := (par_in _ _ hlc).later Kk8.out
  clear hlc
  have HLe : Hid (LiesQ V0 (Par w V0.heap.size [] P) e.kids _) := (par_in _ _ hle).later Kk8.out
  clear hle
  have HLra : Hid (LiesQ V0 (Par w V0.heap.size [] P) r.a.kids _) := (par_in _ _ hlra).later Kk8.out
  clear hlra
  have HLrb : Hid (LiesQ V0 (Par w V0.heap.size [] P) r.b.kids _) := (par_in _ _ hlrb).later Kk8.out
  clear hlrb
  have HLrx : Hid (LiesQ V0 (Par w V0.heap.size [] P) r.x.kids _) := (par_in _ _ hlrx).later Kk8.out
  clear hlrx
  have HLry : Hid (LiesQ V0 (Par w V0.heap.size [] P) r.y.kids _) := (par_in _ _ hlry).later Kk8.out
  clear hlry
  have HLrh : Hid (LiesQ V0 (Par w V0.heap.size [] P) r.h.kids _) := (par_in _ _ hlrh).later Kk8.out
  clear hlrh
  have HLsa : Hid (LiesQ V0 (Par w V0.heap.size [] P) s.a.kids _) := (par_in _ _ hlsa).later Kk8.out
  clear hlsa
  have HLsb : Hid (LiesQ V0 (Par w V0.heap.size [] P) s.b.kids _) := (par_in _ _ hlsb).later Kk8.out
  clear hlsb
  have HLsx : Hid (LiesQ V0 (Par w V0.heap.size [] P) s.x.kids _) := (par_in _ _ hlsx).later Kk8.out
  clear hlsx
  have HLsy : Hid (LiesQ V0 (Par w V0.heap.size [] P) s.y.kids _) := (par_in _ _ hlsy).later Kk8.out
  clear hlsy
  have HLsh : Hid (LiesQ V0 (Par w V0.heap.size [] P) s.h.kids _) := (par_in _ _ hlsh).later Kk8.out
  clear hlsh
  have kvV0 : SeesN V0 V0.heap.size V0 := seesN_kept _ (kept_refl _)
  go_wp2_with (refine stop_load 45 (.tmp 10) rfl ?_)
  intro _
  refine wpList_load_part (w.heap.size + 3) 0 45 (.tmp 10) #[.int .i64 r.i, .int .i64 r.a.k, .int .i64 r.a.i, .int .i64 r.a.j, .int .i64 r.a.n, (.slice ara r.a.kids.length cra), .int .i64 r.b.k, .int .i64 r.b.i, .int .i64 r.b.j, .int .i64 r.b.n, (.slice arb r.b.kids.length crb), .int .i64 r.x.k, .int .i64 r.x.i, .int .i64 r.x.j, .int .i64 r.x.n, (.slice arx r.x.kids.length crx), .int .i64 r.y.k, .int .i64 r.y.i, .int .i64 r.y.j, .int .i64 r.y.n, (.slice ary r.y.kids.length cry), .int .i64 r.h.k, .int .i64 r.h.i, .int .i64 r.h.j, .int .i64 r.h.n, (.slice arh r.h.kids.length crh)] dr Hx4.out (by rfl) rfl (by rfl) (by rfl) dr1 (by cases dr <;> first | rfl | exact dr2) (by kernel_rfl) ?_
  go_wp2_with (refine stop_load 45 (.tmp 11) rfl ?_)
  intro _
  refine wpList_load_part (w.heap.size + 4) 0 45 (.tmp 11) #[.int .i64 s.i, .int .i64 s.a.k, .int .i64 s.a.i, .int .i64 s.a.j, .int .i64 s.a.n, (.slice asa s.a.kids.length csa), .int .i64 s.b.k, .int .i64 s.b.i, .int .i64 s.b.j, .int .i64 s.b.n, (.slice asb s.b.kids.length csb), .int .i64 s.x.k, .int .i64 s.x.i, .int .i64 s.x.j, .int .i64 s.x.n, (.slice asx s.x.kids.length csx), .int .i64 s.y.k, .int .i64 s.y.i, .int .i64 s.y.j, .int .i64 s.y.n, (.slice asy s.y.kids.length csy), .int .i64 s.h.k, .int .i64 s.h.i, .int .i64 s.h.j, .int .i64 s.h.n, (.slice ash s.h.kids.length csh)] dr Hx5.out (by rfl) rfl (by rfl) (by rfl) dr1 (by cases dr <;> first | rfl | exact dr2) (by kernel_rfl) ?_
  go_wp2_with fail
  refine at_world (fun W10 hW10 => ?_)
  clear kvV0
  obtain ⟨k12, x11, z13⟩ := alloc1 hW10
  have Kk14 := Lib.hid k12
  clear k12
  have Hx11 := Lib.hid x11
  have Hz13 := Lib.hid z13
  clear x11 z13 hW10
  refine (lheavy2_any (⟨0, 0, (.mk 0 0 0 0 []), (.mk 0 0 0 0 []), (.mk 0 0 0 0 []), (.mk 0 0 0 0 []), (.mk 0 0 0 0 []), (.mk 0 0 0 0 [])⟩ : Fm) r s (Par w V0.heap.size [] P) _ (.slice none 0 0) (.slice none 0 0) (.slice none 0 0) (.slice none 0 0) (.slice none 0 0) (.slice none 0 0) (V0.heap.size) (.slice ara r.a.kids.length cra) (.slice arb r.b.kids.length crb) (.slice arx r.x.kids.length crx) (.slice ary r.y.kids.length cry) (.slice arh r.h.kids.length crh) (.slice asa s.a.kids.length csa) (.slice asb s.b.kids.length csb) (.slice asx s.x.kids.length csx) (.slice asy s.y.kids.length csy) (.slice ash s.h.kids.length csh) (show Fm.fine (⟨0, 0, (.mk 0 0 0 0 []), (.mk 0 0 0 0 []), (.mk 0 0 0 0 []), (.mk 0 0 0 0 []), (.mk 0 0 0 0 []), (.mk 0 0 0 0 [])⟩ : Fm) from ⟨(show I64 0 from by unfold I64; decide), (show I64 0 from by unfold I64; decide), (mk_fine (show I64 0 from by unfold I64; decide) (show I64 0 from by unfold I64; decide) (show I64 0 from by unfold I64; decide) (show I64 0 from by unfold I64; decide)), (mk_fine (show I64 0 from by unfold I64; decide) (show I64 0 from by unfold I64; decide) (show I64 0 from by unfold I64; decide) (show I64 0 from by unfold I64; decide)), (mk_fine (show I64 0 from by unfold I64; decide) (show I64 0 from by unfold I64; decide) (show I64 0 from by unfold I64; decide) (show I64 0 from by unfold I64; decide)), (mk_fine (show I64 0 from by unfold I64; decide) (show I64 0 from by unfold I64; decide) (show I64 0 from by unfold I64; decide) (show I64 0 from by unfold I64; decide)), (mk_fine (show I64 0 from by unfold I64; decide) (show I64 0 from by unfold I64; decide) (show I64 0 from by unfold I64; decide) (show I64 0 from by unfold I64; decide)), (mk_fine (show I64 0 from by unfold I64; decide) (show I64 0 from by unfold I64; decide) (show I64 0 from by unfold I64; decide) (show I64 0 from by unfold I64; decide))⟩) ⟨(liesQ_nil W10 (Par w V0.heap.size [] P)), (liesQ_nil W10 (Par w V0.heap.size [] P)), (liesQ_nil W10 (Par w V0.heap.size [] P)), (liesQ_nil W10 (Par w V0.heap.size [] P)), (liesQ_nil W10 (Par w V0.heap.size [] P)), (liesQ_nil W10 (Par w V0.heap.size [] P))⟩ (show He.fine r from ⟨Gr.out.1, Gr.out.2.1, Gr.out.2.2.1, Gr.out.2.2.2.1, Gr.out.2.2.2.2.1, Gr.out.2.2.2.2.2⟩) ⟨(HLra.out.later Kk14.out), (HLrb.out.later Kk14.out), (HLrx.out.later Kk14.out), (HLry.out.later Kk14.out), (HLrh.out.later Kk14.out)⟩ (show He.fine s from ⟨Gs.out.1, Gs.out.2.1, Gs.out.2.2.1, Gs.out.2.2.2.1, Gs.out.2.2.2.2.1, Gs.out.2.2.2.2.2⟩) ⟨(HLsa.out.later Kk14.out), (HLsb.out.later Kk14.out), (HLsx.out.later Kk14.out), (HLsy.out.later Kk14.out), (HLsh.out.later Kk14.out)⟩ Hx11.out).mono ?_
  rintro e w15 ⟨gb17, rfl, hg18, k16⟩
  have Hhg18 := Lib.hid hg18
  clear hg18
  have Kk19 := Lib.hid k16
  clear k16
  cases gb17 with
  | false =>
    have HIhg18 := Lib.hid (Hhg18.out rfl)
    have kvV0 : SeesN V0 V0.heap.size w15 := seesN_kept _ (kept_trans Kk14.out Kk19.out)
    go_wp2_with (refine stop_load 32 (.tmp 7) rfl ?_)
    intro _
    refine wpList_load_part (w.heap.size) 0 32 (.tmp 7) #[.int .i64 a.k, .int .i64 a.i, .int .i64 a.j, .int .i64 a.n, (.slice aa a.kids.length ca)] du (blk_at Hx1.out (kept_trans Kk14.out Kk19.out)) (by rfl) rfl (by rfl) (by rfl) hu1 (by cases du <;> first | rfl | exact hu2) size_term ?_
    go_wp2_with (refine stop_load 32 (.tmp 8) rfl ?_)
    intro _
    refine wpList_load_part (w.heap.size + 1) 0 32 (.tmp 8) #[.int .i64 c.k, .int .i64 c.i, .int .i64 c.j, .int .i64 c.n, (.slice ac c.kids.length cc)] du (blk_at Hx2.out (kept_trans Kk14.out Kk19.out)) (by rfl) rfl (by rfl) (by rfl) hu1 (by cases du <;> first | rfl | exact hu2) size_term ?_
    go_wp2_with (refine stop_load 32 (.tmp 9) rfl ?_)
    intro _
    refine wpList_load_part (w.heap.size + 2) 0 32 (.tmp 9) #[.int .i64 e.k, .int .i64 e.i, .int .i64 e.j, .int .i64 e.n, (.slice ae e.kids.length ce)] du (blk_at Hx3.out (kept_trans Kk14.out Kk19.out)) (by rfl) rfl (by rfl) (by rfl) hu1 (by cases du <;> first | rfl | exact hu2) size_term ?_
    go_wp2_with fail
    refine at_world (fun W21 hW21 => ?_)
    clear kvV0
    obtain ⟨k23, x22, z24⟩ := alloc1 hW21
    have Kk25 := Lib.hid k23
    clear k23
    have Hx22 := Lib.hid x22
    have Hz24 := Lib.hid z24
    clear x22 z24 hW21
    have kq27 := (kept_trans Kk14.out (kept_trans Kk19.out Kk25.out))
    have HR26 := Lib.hid (q_row3 Hx22.out Ga.out (HLa.out.later kq27) Gc.out (HLc.out.later kq27) Ge.out (HLe.out.later kq27) (par_new (Below.size (kept_trans Kk14.out Kk19.out)) (xlt_nil _) (Nat.le_refl _)))
    clear kq27
    refine (greats9_any [a, c, e] 120 (by decide) _ _ HR26.out.lies).mono ?_
    rintro e w28 ⟨gb30, rfl, hg31, k29⟩
    have Hhg31 := Lib.hid hg31
    clear hg31
    have Kk32 := Lib.hid k29
    clear k29
    cases gb30 with
    | false =>
      have HIhg31 := Lib.hid (Hhg31.out rfl)
      have kvV0 : SeesN V0 V0.heap.size w28 := seesN_kept _ (kept_trans Kk14.out (kept_trans Kk19.out (kept_trans Kk25.out Kk32.out)))
      go_wp2_with fail
      clear kvV0
      obtain ⟨W33, h34⟩ : ∃ x, World.drew w28 = x := ⟨_, rfl⟩
      have k35 : Kept w28 W33 := by rw [← h34]; exact kept_drew (kept_refl _)
      have Kk36 := Lib.hid k35
      clear k35
      refine wp_region_held_drew (S := SeesN W33 V0.heap.size) (by kernel_rfl) ?_ (fun hHeld => ?_)
      · (try dsimp only)
        rw [h34]
        exact seesN_kept _ (kept_refl _)
      rw [h34] at hHeld ⊢
      clear h34
      refine take_at 0 25 congEqsr3_0 (v := ?_) (Or.inl ⟨by rfl, ?_⟩) ?_
      rotate_left 1
      · ((intro w hSw; (try dsimp only at hSw); unfold congEqsr3_0; go_simp) <;> with_reducible rfl)
      (try simp only [Act.put, List.setIfInBounds_toArray, List.set_cons_zero, List.set_cons_succ])
      refine take_at 1 26 congEqsr3_1 (yields_part (w.heap.size) 0 32 (.tmp 7) #[.int .i64 a.k, .int .i64 a.i, .int .i64 a.j, .int .i64 a.n, (.slice aa a.kids.length ca)] du (fun _ h => seesN_blk Hx1.out trivial (seesN_of (kept_trans Kk14.out (kept_trans Kk19.out (kept_trans Kk25.out (kept_trans Kk32.out Kk36.out)))) h)) (by rfl) rfl (by rfl) (by rfl) hu1 (by cases du <;> first | rfl | exact hu2) size_term) ?_
      (try simp only [Act.put, List.setIfInBounds_toArray, List.set_cons_zero, List.set_cons_succ])
      refine take_at 2 27 congEqsr3_2 (yields_part (w.heap.size + 1) 0 32 (.tmp 8) #[.int .i64 c.k, .int .i64 c.i, .int .i64 c.j, .int .i64 c.n, (.slice ac c.kids.length cc)] du (fun _ h => seesN_blk Hx2.out trivial (seesN_of (kept_trans Kk14.out (kept_trans Kk19.out (kept_trans Kk25.out (kept_trans Kk32.out Kk36.out)))) h)) (by rfl) rfl (by rfl) (by rfl) hu1 (by cases du <;> first | rfl | exact hu2) size_term) ?_
      (try simp only [Act.put, List.setIfInBounds_toArray, List.set_cons_zero, List.set_cons_succ])
      refine take_at 3 28 congEqsr3_3 (yields_part (w.heap.size + 2) 0 32 (.tmp 9) #[.int .i64 e.k, .int .i64 e.i, .int .i64 e.j, .int .i64 e.n, (.slice ae e.kids.length ce)] du (fun _ h => seesN_blk Hx3.out trivial (seesN_of (kept_trans Kk14.out (kept_trans Kk19.out (kept_trans Kk25.out (kept_trans Kk32.out Kk36.out)))) h)) (by rfl) rfl (by rfl) (by rfl) hu1 (by cases du <;> first | rfl | exact hu2) size_term) ?_
      (try simp only [Act.put, List.setIfInBounds_toArray, List.set_cons_zero, List.set_cons_succ])
      refine take_at 4 29 congEqsr3_4 (yields_part (w.heap.size + 3) 0 45 (.tmp 10) #[.int .i64 r.i, .int .i64 r.a.k, .int .i64 r.a.i, .int .i64 r.a.j, .int .i64 r.a.n, (.slice ara r.a.kids.length cra), .int .i64 r.b.k, .int .i64 r.b.i, .int .i64 r.b.j, .int .i64 r.b.n, (.slice arb r.b.kids.length crb), .int .i64 r.x.k, .int .i64 r.x.i, .int .i64 r.x.j, .int .i64 r.x.n, (.slice arx r.x.kids.length crx), .int .i64 r.y.k, .int .i64 r.y.i, .int .i64 r.y.j, .int .i64 r.y.n, (.slice ary r.y.kids.length cry), .int .i64 r.h.k, .int .i64 r.h.i, .int .i64 r.h.j, .int .i64 r.h.n, (.slice arh r.h.kids.length crh)] dr (fun _ h => seesN_blk Hx4.out trivial (seesN_of (kept_trans Kk14.out (kept_trans Kk19.out (kept_trans Kk25.out (kept_trans Kk32.out Kk36.out)))) h)) (by rfl) rfl (by rfl) (by rfl) dr1 (by cases dr <;> first | rfl | exact dr2) (by kernel_rfl)) ?_
      (try simp only [Act.put, List.setIfInBounds_toArray, List.set_cons_zero, List.set_cons_succ])
      refine take_at 6 31 congEqsr3_6 (yields_part (w.heap.size + 4) 0 45 (.tmp 11) #[.int .i64 s.i, .int .i64 s.a.k, .int .i64 s.a.i, .int .i64 s.a.j, .int .i64 s.a.n, (.slice asa s.a.kids.length csa), .int .i64 s.b.k, .int .i64 s.b.i, .int .i64 s.b.j, .int .i64 s.b.n, (.slice asb s.b.kids.length csb), .int .i64 s.x.k, .int .i64 s.x.i, .int .i64 s.x.j, .int .i64 s.x.n, (.slice asx s.x.kids.length csx), .int .i64 s.y.k, .int .i64 s.y.i, .int .i64 s.y.j, .int .i64 s.y.n, (.slice asy s.y.kids.length csy), .int .i64 s.h.k, .int .i64 s.h.i, .int .i64 s.h.j, .int .i64 s.h.n, (.slice ash s.h.kids.length csh)] dr (fun _ h => seesN_blk Hx5.out trivial (seesN_of (kept_trans Kk14.out (kept_trans Kk19.out (kept_trans Kk25.out (kept_trans Kk32.out Kk36.out)))) h)) (by rfl) rfl (by rfl) (by rfl) dr1 (by cases dr <;> first | rfl | exact dr2) (by kernel_rfl)) ?_
      (try simp only [Act.put, List.setIfInBounds_toArray, List.set_cons_zero, List.set_cons_succ])
      refine take_at 9 34 congEqsr3_9 (v := ?_) (Or.inl ⟨by rfl, ?_⟩) ?_
      rotate_left 1
      · ((intro w hSw; (try dsimp only at hSw); unfold congEqsr3_9; go_simp) <;> with_reducible rfl)
      (try simp only [Act.put, List.setIfInBounds_toArray, List.set_cons_zero, List.set_cons_succ])
      refine take_at 10 35 congEqsr3_10 (yields_part (w.heap.size) 0 32 (.tmp 7) #[.int .i64 a.k, .int .i64 a.i, .int .i64 a.j, .int .i64 a.n, (.slice aa a.kids.length ca)] du (fun _ h => seesN_blk Hx1.out trivial (seesN_of (kept_trans Kk14.out (kept_trans Kk19.out (kept_trans Kk25.out (kept_trans Kk32.out Kk36.out)))) h)) (by rfl) rfl (by rfl) (by rfl) hu1 (by cases du <;> first | rfl | exact hu2) size_term) ?_
      (try simp only [Act.put, List.setIfInBounds_toArray, List.set_cons_zero, List.set_cons_succ])
      refine take_at 11 36 congEqsr3_11 (yields_part (w.heap.size + 1) 0 32 (.tmp 8) #[.int .i64 c.k, .int .i64 c.i, .int .i64 c.j, .int .i64 c.n, (.slice ac c.kids.length cc)] du (fun _ h => seesN_blk Hx2.out trivial (seesN_of (kept_trans Kk14.out (kept_trans Kk19.out (kept_trans Kk25.out (kept_trans Kk32.out Kk36.out)))) h)) (by rfl) rfl (by rfl) (by rfl) hu1 (by cases du <;> first | rfl | exact hu2) size_term) ?_
      (try simp only [Act.put, List.setIfInBounds_toArray, List.set_cons_zero, List.set_cons_succ])
      refine take_at 12 37 congEqsr3_12 (yields_part (w.heap.size + 2) 0 32 (.tmp 9) #[.int .i64 e.k, .int .i64 e.i, .int .i64 e.j, .int .i64 e.n, (.slice ae e.kids.length ce)] du (fun _ h => seesN_blk Hx3.out trivial (seesN_of (kept_trans Kk14.out (kept_trans Kk19.out (kept_trans Kk25.out (kept_trans Kk32.out Kk36.out)))) h)) (by rfl) rfl (by rfl) (by rfl) hu1 (by cases du <;> first | rfl | exact hu2) size_term) ?_
      (try simp only [Act.put, List.setIfInBounds_toArray, List.set_cons_zero, List.set_cons_succ])
      refine take_at 13 38 congEqsr3_13 (yields_part (w.heap.size + 3) 0 45 (.tmp 10) #[.int .i64 r.i, .int .i64 r.a.k, .int .i64 r.a.i, .int .i64 r.a.j, .int .i64 r.a.n, (.slice ara r.a.kids.length cra), .int .i64 r.b.k, .int .i64 r.b.i, .int .i64 r.b.j, .int .i64 r.b.n, (.slice arb r.b.kids.length crb), .int .i64 r.x.k, .int .i64 r.x.i, .int .i64 r.x.j, .int .i64 r.x.n, (.slice arx r.x.kids.length crx), .int .i64 r.y.k, .int .i64 r.y.i, .int .i64 r.y.j, .int .i64 r.y.n, (.slice ary r.y.kids.length cry), .int .i64 r.h.k, .int .i64 r.h.i, .int .i64 r.h.j, .int .i64 r.h.n, (.slice arh r.h.kids.length crh)] dr (fun _ h => seesN_blk Hx4.out trivial (seesN_of (kept_trans Kk14.out (kept_trans Kk19.out (kept_trans Kk25.out (kept_trans Kk32.out Kk36.out)))) h)) (by rfl) rfl (by rfl) (by rfl) dr1 (by cases dr <;> first | rfl | exact dr2) (by kernel_rfl)) ?_
      (try simp only [Act.put, List.setIfInBounds_toArray, List.set_cons_zero, List.set_cons_succ])
      refine take_at 14 39 congEqsr3_14 (yields_part (w.heap.size + 4) 0 45 (.tmp 11) #[.int .i64 s.i, .int .i64 s.a.k, .int .i64 s.a.i, .int .i64 s.a.j, .int .i64 s.a.n, (.slice asa s.a.kids.length csa), .int .i64 s.b.k, .int .i64 s.b.i, .int .i64 s.b.j, .int .i64 s.b.n, (.slice asb s.b.kids.length csb), .int .i64 s.x.k, .int .i64 s.x.i, .int .i64 s.x.j, .int .i64 s.x.n, (.slice asx s.x.kids.length csx), .int .i64 s.y.k, .int .i64 s.y.i, .int .i64 s.y.j, .int .i64 s.y.n, (.slice asy s.y.kids.length csy), .int .i64 s.h.k, .int .i64 s.h.i, .int .i64 s.h.j, .int .i64 s.h.n, (.slice ash s.h.kids.length csh)] dr (fun _ h => seesN_blk Hx5.out trivial (seesN_of (kept_trans Kk14.out (kept_trans Kk19.out (kept_trans Kk25.out (kept_trans Kk32.out Kk36.out)))) h)) (by rfl) rfl (by rfl) (by rfl) dr1 (by cases dr <;> first | rfl | exact dr2) (by kernel_rfl)) ?_
      (try simp only [Act.put, List.setIfInBounds_toArray, List.set_cons_zero, List.set_cons_succ])
      refine wpAnyH_ready (rs := [5]) (by kernel_rfl) (by simp) ?_
      refine AllReadyH.cons (o := congEqsr3_5) rfl (fun K hK => ?_) ?_
      · unfold congEqsr3_5
        go_simp
        refine (lours4_any r (Par w V0.heap.size [] P) _ (.slice ara r.a.kids.length cra) (.slice arb r.b.kids.length crb) (.slice arx r.x.kids.length crx) (.slice ary r.y.kids.length cry) (.slice arh r.h.kids.length crh) ⟨Gr.out.1, Gr.out.2.1, Gr.out.2.2.1, Gr.out.2.2.2.1, Gr.out.2.2.2.2.1, Gr.out.2.2.2.2.2⟩ ⟨(HLra.out.later (kept_trans Kk14.out (kept_trans Kk19.out (kept_trans Kk25.out (kept_trans Kk32.out Kk36.out))))), (HLrb.out.later (kept_trans Kk14.out (kept_trans Kk19.out (kept_trans Kk25.out (kept_trans Kk32.out Kk36.out))))), (HLrx.out.later (kept_trans Kk14.out (kept_trans Kk19.out (kept_trans Kk25.out (kept_trans Kk32.out Kk36.out))))), (HLry.out.later (kept_trans Kk14.out (kept_trans Kk19.out (kept_trans Kk25.out (kept_trans Kk32.out Kk36.out))))), (HLrh.out.later (kept_trans Kk14.out (kept_trans Kk19.out (kept_trans Kk25.out (kept_trans Kk32.out Kk36.out)))))⟩).mono ?_
        rintro e w37 ⟨s39, s40, s41, s42, s43, rfl, ⟨hl44, hl45, hl46, hl47, hl48⟩, k38⟩
        obtain ⟨a49, c50, S51, rfl, -⟩ := hl44.out
        obtain ⟨a52, c53, S54, rfl, -⟩ := hl45.out
        obtain ⟨a55, c56, S57, rfl, -⟩ := hl46.out
        obtain ⟨a58, c59, S60, rfl, -⟩ := hl47.out
        obtain ⟨a61, c62, S63, rfl, -⟩ := hl48.out
        have Kk64 := Lib.hid k38
        clear k38
        have Hhl44 : Hid (LiesQ w37 (Par w V0.heap.size [] P) r.a.kids _) := par_give hl44 (Below.size (kept_trans Kk14.out (kept_trans Kk19.out (kept_trans Kk25.out (kept_trans Kk32.out Kk36.out))))) (xlt_nil _)
        have Hhl45 : Hid (LiesQ w37 (Par w V0.heap.size [] P) r.b.kids _) := par_give hl45 (Below.size (kept_trans Kk14.out (kept_trans Kk19.out (kept_trans Kk25.out (kept_trans Kk32.out Kk36.out))))) (xlt_nil _)
        have Hhl46 : Hid (LiesQ w37 (Par w V0.heap.size [] P) r.x.kids _) := par_give hl46 (Below.size (kept_trans Kk14.out (kept_trans Kk19.out (kept_trans Kk25.out (kept_trans Kk32.out Kk36.out))))) (xlt_nil _)
        have Hhl47 : Hid (LiesQ w37 (Par w V0.heap.size [] P) r.y.kids _) := par_give hl47 (Below.size (kept_trans Kk14.out (kept_trans Kk19.out (kept_trans Kk25.out (kept_trans Kk32.out Kk36.out))))) (xlt_nil _)
        have Hhl48 : Hid (LiesQ w37 (Par w V0.heap.size [] P) r.h.kids _) := par_give hl48 (Below.size (kept_trans Kk14.out (kept_trans Kk19.out (kept_trans Kk25.out (kept_trans Kk32.out Kk36.out))))) (xlt_nil _)
        clear hl44 hl45 hl46 hl47 hl48
        clear hHeld
        refine hK.out _ _ (seesN_kept _ Kk64.out) (fun hHeld => ?_)
        clear hK K
        (try simp only [Act.put, List.setIfInBounds_toArray, List.set_cons_zero, List.set_cons_succ])
        refine wpAnyH_ready (rs := [7]) (by kernel_rfl) (by simp) ?_
        refine AllReadyH.cons (o := congEqsr3_7) rfl (fun K hK => ?_) ?_
        · unfold congEqsr3_7
          go_simp
          refine (lours4_any s (Par w V0.heap.size [] P) _ (.slice asa s.a.kids.length csa) (.slice asb s.b.kids.length csb) (.slice asx s.x.kids.length csx) (.slice asy s.y.kids.length csy) (.slice ash s.h.kids.length csh) ⟨Gs.out.1, Gs.out.2.1, Gs.out.2.2.1, Gs.out.2.2.2.1, Gs.out.2.2.2.2.1, Gs.out.2.2.2.2.2⟩ ⟨(HLsa.out.later (kept_trans Kk14.out (kept_trans Kk19.out (kept_trans Kk25.out (kept_trans Kk32.out (kept_trans Kk36.out Kk64.out)))))), (HLsb.out.later (kept_trans Kk14.out (kept_trans Kk19.out (kept_trans Kk25.out (kept_trans Kk32.out (kept_trans Kk36.out Kk64.out)))))), (HLsx.out.later (kept_trans Kk14.out (kept_trans Kk19.out (kept_trans Kk25.out (kept_trans Kk32.out (kept_trans Kk36.out Kk64.out)))))), (HLsy.out.later (kept_trans Kk14.out (kept_trans Kk19.out (kept_trans Kk25.out (kept_trans Kk32.out (kept_trans Kk36.out Kk64.out)))))), (HLsh.out.later (kept_trans Kk14.out (kept_trans Kk19.out (kept_trans Kk25.out (kept_trans Kk32.out (kept_trans Kk36.out Kk64.out))))))⟩).mono ?_
          rintro e w65 ⟨s67, s68, s69, s70, s71, rfl, ⟨hl72, hl73, hl74, hl75, hl76⟩, k66⟩
          obtain ⟨a77, c78, S79, rfl, -⟩ := hl72.out
          obtain ⟨a80, c81, S82, rfl, -⟩ := hl73.out
          obtain ⟨a83, c84, S85, rfl, -⟩ := hl74.out
          obtain ⟨a86, c87, S88, rfl, -⟩ := hl75.out
          obtain ⟨a89, c90, S91, rfl, -⟩ := hl76.out
          have Kk92 := Lib.hid k66
          clear k66
          have Hhl72 : Hid (LiesQ w65 (Par w V0.heap.size [] P) s.a.kids _) := par_give hl72 (Below.size (kept_trans Kk14.out (kept_trans Kk19.out (kept_trans Kk25.out (kept_trans Kk32.out (kept_trans Kk36.out Kk64.out)))))) (xlt_nil _)
          have Hhl73 : Hid (LiesQ w65 (Par w V0.heap.size [] P) s.b.kids _) := par_give hl73 (Below.size (kept_trans Kk14.out (kept_trans Kk19.out (kept_trans Kk25.out (kept_trans Kk32.out (kept_trans Kk36.out Kk64.out)))))) (xlt_nil _)
          have Hhl74 : Hid (LiesQ w65 (Par w V0.heap.size [] P) s.x.kids _) := par_give hl74 (Below.size (kept_trans Kk14.out (kept_trans Kk19.out (kept_trans Kk25.out (kept_trans Kk32.out (kept_trans Kk36.out Kk64.out)))))) (xlt_nil _)
          have Hhl75 : Hid (LiesQ w65 (Par w V0.heap.size [] P) s.y.kids _) := par_give hl75 (Below.size (kept_trans Kk14.out (kept_trans Kk19.out (kept_trans Kk25.out (kept_trans Kk32.out (kept_trans Kk36.out Kk64.out)))))) (xlt_nil _)
          have Hhl76 : Hid (LiesQ w65 (Par w V0.heap.size [] P) s.h.kids _) := par_give hl76 (Below.size (kept_trans Kk14.out (kept_trans Kk19.out (kept_trans Kk25.out (kept_trans Kk32.out (kept_trans Kk36.out Kk64.out)))))) (xlt_nil _)
          clear hl72 hl73 hl74 hl75 hl76
          clear hHeld
          refine hK.out _ _ (seesN_kept _ (kept_trans Kk64.out Kk92.out)) (fun hHeld => ?_)
          clear hK K
          (try simp only [Act.put, List.setIfInBounds_toArray, List.set_cons_zero, List.set_cons_succ])
          refine wpAnyH_ready (rs := [8]) (by kernel_rfl) (by simp) ?_
          refine AllReadyH.cons (o := congEqsr3_8) rfl (fun K hK => ?_) ?_
          · unfold congEqsr3_8
            go_simp
            refine (cEq_any i a c e r s (Par w V0.heap.size [] P) w65 (.slice aa a.kids.length ca) (.slice ac c.kids.length cc) (.slice ae e.kids.length ce) (.slice a49 r.a.kids.length c50) (.slice a52 r.b.kids.length c53) (.slice a55 r.x.kids.length c56) (.slice a58 r.y.kids.length c59) (.slice a61 r.h.kids.length c62) (.slice a77 s.a.kids.length c78) (.slice a80 s.b.kids.length c81) (.slice a83 s.x.kids.length c84) (.slice a86 s.y.kids.length c87) (.slice a89 s.h.kids.length c90) Ri.out Ga.out (HLa.out.later (kept_trans Kk14.out (kept_trans Kk19.out (kept_trans Kk25.out (kept_trans Kk32.out (kept_trans Kk36.out (kept_trans Kk64.out Kk92.out))))))) Gc.out (HLc.out.later (kept_trans Kk14.out (kept_trans Kk19.out (kept_trans Kk25.out (kept_trans Kk32.out (kept_trans Kk36.out (kept_trans Kk64.out Kk92.out))))))) Ge.out (HLe.out.later (kept_trans Kk14.out (kept_trans Kk19.out (kept_trans Kk25.out (kept_trans Kk32.out (kept_trans Kk36.out (kept_trans Kk64.out Kk92.out))))))) (show He.fine r from ⟨((show He.fine r from ⟨Gr.out.1, Gr.out.2.1, Gr.out.2.2.1, Gr.out.2.2.2.1, Gr.out.2.2.2.2.1, Gr.out.2.2.2.2.2⟩)).1, ((show He.fine r from ⟨Gr.out.1, Gr.out.2.1, Gr.out.2.2.1, Gr.out.2.2.2.1, Gr.out.2.2.2.2.1, Gr.out.2.2.2.2.2⟩)).2.1, ((show He.fine r from ⟨Gr.out.1, Gr.out.2.1, Gr.out.2.2.1, Gr.out.2.2.2.1, Gr.out.2.2.2.2.1, Gr.out.2.2.2.2.2⟩)).2.2.1, ((show He.fine r from ⟨Gr.out.1, Gr.out.2.1, Gr.out.2.2.1, Gr.out.2.2.2.1, Gr.out.2.2.2.2.1, Gr.out.2.2.2.2.2⟩)).2.2.2.1, ((show He.fine r from ⟨Gr.out.1, Gr.out.2.1, Gr.out.2.2.1, Gr.out.2.2.2.1, Gr.out.2.2.2.2.1, Gr.out.2.2.2.2.2⟩)).2.2.2.2.1, ((show He.fine r from ⟨Gr.out.1, Gr.out.2.1, Gr.out.2.2.1, Gr.out.2.2.2.1, Gr.out.2.2.2.2.1, Gr.out.2.2.2.2.2⟩)).2.2.2.2.2⟩) ⟨(Hhl44.out.later Kk92.out), (Hhl45.out.later Kk92.out), (Hhl46.out.later Kk92.out), (Hhl47.out.later Kk92.out), (Hhl48.out.later Kk92.out)⟩ (show He.fine s from ⟨((show He.fine s from ⟨Gs.out.1, Gs.out.2.1, Gs.out.2.2.1, Gs.out.2.2.2.1, Gs.out.2.2.2.2.1, Gs.out.2.2.2.2.2⟩)).1, ((show He.fine s from ⟨Gs.out.1, Gs.out.2.1, Gs.out.2.2.1, Gs.out.2.2.2.1, Gs.out.2.2.2.2.1, Gs.out.2.2.2.2.2⟩)).2.1, ((show He.fine s from ⟨Gs.out.1, Gs.out.2.1, Gs.out.2.2.1, Gs.out.2.2.2.1, Gs.out.2.2.2.2.1, Gs.out.2.2.2.2.2⟩)).2.2.1, ((show He.fine s from ⟨Gs.out.1, Gs.out.2.1, Gs.out.2.2.1, Gs.out.2.2.2.1, Gs.out.2.2.2.2.1, Gs.out.2.2.2.2.2⟩)).2.2.2.1, ((show He.fine s from ⟨Gs.out.1, Gs.out.2.1, Gs.out.2.2.1, Gs.out.2.2.2.1, Gs.out.2.2.2.2.1, Gs.out.2.2.2.2.2⟩)).2.2.2.2.1, ((show He.fine s from ⟨Gs.out.1, Gs.out.2.1, Gs.out.2.2.1, Gs.out.2.2.2.1, Gs.out.2.2.2.2.1, Gs.out.2.2.2.2.2⟩)).2.2.2.2.2⟩) ⟨Hhl72.out, Hhl73.out, Hhl74.out, Hhl75.out, Hhl76.out⟩).mono ?_
            obtain ⟨U100, hU100⟩ : ∃ qu, cgEq i a c e r s = qu := ⟨_, rfl⟩
            rw [hU100]
            have HU100 := Lib.hid hU100
            clear hU100
            rintro e w93 ⟨s95, rfl, hl96, k94⟩
            obtain ⟨a97, c98, S99, rfl, -⟩ := hl96.out
            have Kk101 := Lib.hid k94
            clear k94
            have Hhl96 : Hid (LiesQ w93 (Par w V0.heap.size [] P) U100.kids _) := par_give hl96 (Below.size (kept_trans Kk14.out (kept_trans Kk19.out (kept_trans Kk25.out (kept_trans Kk32.out (kept_trans Kk36.out (kept_trans Kk64.out Kk92.out))))))) (xlt_nil _)
            clear hl96
            clear hHeld
            refine hK.out _ _ (seesN_kept _ (kept_trans Kk64.out (kept_trans Kk92.out Kk101.out))) (fun hHeld => ?_)
            clear hK K
            (try simp only [Act.put, List.setIfInBounds_toArray, List.set_cons_zero, List.set_cons_succ])
            refine wpAnyH_ready (rs := [15]) (by kernel_rfl) (by simp) ?_
            refine AllReadyH.cons (o := congEqsr3_15) rfl (fun K hK => ?_) ?_
            · unfold congEqsr3_15
              go_simp
              refine (rcEq_any i a c e r s (Par w V0.heap.size [] P) w93 (.slice aa a.kids.length ca) (.slice ac c.kids.length cc) (.slice ae e.kids.length ce) (.slice ara r.a.kids.length cra) (.slice arb r.b.kids.length crb) (.slice arx r.x.kids.length crx) (.slice ary r.y.kids.length cry) (.slice arh r.h.kids.length crh) (.slice asa s.a.kids.length csa) (.slice asb s.b.kids.length csb) (.slice asx s.x.kids.length csx) (.slice asy s.y.kids.length csy) (.slice ash s.h.kids.length csh) Ri.out Ga.out (HLa.out.later (kept_trans Kk14.out (kept_trans Kk19.out (kept_trans Kk25.out (kept_trans Kk32.out (kept_trans Kk36.out (kept_trans Kk64.out (kept_trans Kk92.out Kk101.out)))))))) Gc.out (HLc.out.later (kept_trans Kk14.out (kept_trans Kk19.out (kept_trans Kk25.out (kept_trans Kk32.out (kept_trans Kk36.out (kept_trans Kk64.out (kept_trans Kk92.out Kk101.out)))))))) Ge.out (HLe.out.later (kept_trans Kk14.out (kept_trans Kk19.out (kept_trans Kk25.out (kept_trans Kk32.out (kept_trans Kk36.out (kept_trans Kk64.out (kept_trans Kk92.out Kk101.out)))))))) (show He.fine r from ⟨Gr.out.1, Gr.out.2.1, Gr.out.2.2.1, Gr.out.2.2.2.1, Gr.out.2.2.2.2.1, Gr.out.2.2.2.2.2⟩) ⟨(HLra.out.later (kept_trans Kk14.out (kept_trans Kk19.out (kept_trans Kk25.out (kept_trans Kk32.out (kept_trans Kk36.out (kept_trans Kk64.out (kept_trans Kk92.out Kk101.out)))))))), (HLrb.out.later (kept_trans Kk14.out (kept_trans Kk19.out (kept_trans Kk25.out (kept_trans Kk32.out (kept_trans Kk36.out (kept_trans Kk64.out (kept_trans Kk92.out Kk101.out)))))))), (HLrx.out.later (kept_trans Kk14.out (kept_trans Kk19.out (kept_trans Kk25.out (kept_trans Kk32.out (kept_trans Kk36.out (kept_trans Kk64.out (kept_trans Kk92.out Kk101.out)))))))), (HLry.out.later (kept_trans Kk14.out (kept_trans Kk19.out (kept_trans Kk25.out (kept_trans Kk32.out (kept_trans Kk36.out (kept_trans Kk64.out (kept_trans Kk92.out Kk101.out)))))))), (HLrh.out.later (kept_trans Kk14.out (kept_trans Kk19.out (kept_trans Kk25.out (kept_trans Kk32.out (kept_trans Kk36.out (kept_trans Kk64.out (kept_trans Kk92.out Kk101.out))))))))⟩ (show He.fine s from ⟨Gs.out.1, Gs.out.2.1, Gs.out.2.2.1, Gs.out.2.2.2.1, Gs.out.2.2.2.2.1, Gs.out.2.2.2.2.2⟩) ⟨(HLsa.out.later (kept_trans Kk14.out (kept_trans Kk19.out (kept_trans Kk25.out (kept_trans Kk32.out (kept_trans Kk36.out (kept_trans Kk64.out (kept_trans Kk92.out Kk101.out)))))))), (HLsb.out.later (kept_trans Kk14.out (kept_trans Kk19.out (kept_trans Kk25.out (kept_trans Kk32.out (kept_trans Kk36.out (kept_trans Kk64.out (kept_trans Kk92.out Kk101.out)))))))), (HLsx.out.later (kept_trans Kk14.out (kept_trans Kk19.out (kept_trans Kk25.out (kept_trans Kk32.out (kept_trans Kk36.out (kept_trans Kk64.out (kept_trans Kk92.out Kk101.out)))))))), (HLsy.out.later (kept_trans Kk14.out (kept_trans Kk19.out (kept_trans Kk25.out (kept_trans Kk32.out (kept_trans Kk36.out (kept_trans Kk64.out (kept_trans Kk92.out Kk101.out)))))))), (HLsh.out.later (kept_trans Kk14.out (kept_trans Kk19.out (kept_trans Kk25.out (kept_trans Kk32.out (kept_trans Kk36.out (kept_trans Kk64.out (kept_trans Kk92.out Kk101.out))))))))⟩).mono ?_
              rw [HU100.out]
              rintro e w102 ⟨s104, rfl, hl105, k103⟩
              obtain ⟨a106, c107, S108, rfl, -⟩ := hl105.out
              have Kk109 := Lib.hid k103
              clear k103
              have Hhl105 : Hid (LiesQ w102 (Par w V0.heap.size [] P) U100.kids _) := par_give hl105 (Below.size (kept_trans Kk14.out (kept_trans Kk19.out (kept_trans Kk25.out (kept_trans Kk32.out (kept_trans Kk36.out (kept_trans Kk64.out (kept_trans Kk92.out Kk101.out)))))))) (xlt_nil _)
              clear hl105
              clear hHeld
              refine hK.out _ _ (seesN_kept _ (kept_trans Kk64.out (kept_trans Kk92.out (kept_trans Kk101.out Kk109.out)))) (fun hHeld => ?_)
              clear hK K
              (try simp only [Act.put, List.setIfInBounds_toArray, List.set_cons_zero, List.set_cons_succ])
              refine wpAnyH_ready (rs := [16]) (by kernel_rfl) (by simp) ?_
              refine AllReadyH.cons (o := congEqsr3_16) rfl (fun K hK => ?_) ?_
              · unfold congEqsr3_16
                go_simp
                refine (keepsame_eq U100 _ (.slice a97 U100.kids.length c98) (.slice a106 U100.kids.length c107) (Hhl96.out.later Kk109.out).lies Hhl105.out.lies).mono ?_
                rintro e w110 ⟨rfl, k111⟩
                have Kk112 := Lib.hid k111
                clear k111
                clear hHeld
                refine hK.out _ _ (seesN_kept _ (kept_trans Kk64.out (kept_trans Kk92.out (kept_trans Kk101.out (kept_trans Kk109.out Kk112.out))))) (fun hHeld => ?_)
                clear hK K
                (try simp only [Act.put, List.setIfInBounds_toArray, List.set_cons_zero, List.set_cons_succ])
                refine take_at 17 42 congEqsr3_17 (v := ?_) (Or.inl ⟨by rfl, ?_⟩) ?_
                rotate_left 1
                · ((intro w hSw; (try dsimp only at hSw); unfold congEqsr3_17; go_simp) <;> with_reducible rfl)
                (try simp only [Act.put, List.setIfInBounds_toArray, List.set_cons_zero, List.set_cons_succ])
                refine take_at 18 43 congEqsr3_18 (v := ?_) (Or.inl ⟨by rfl, ?_⟩) ?_
                rotate_left 1
                · ((intro w hSw; (try dsimp only at hSw); unfold congEqsr3_18; go_simp) <;> with_reducible rfl)
                (try simp only [Act.put, List.setIfInBounds_toArray, List.set_cons_zero, List.set_cons_succ])
                refine take_at 19 44 congEqsr3_19 (yields_part (w.heap.size) 0 32 (.tmp 7) #[.int .i64 a.k, .int .i64 a.i, .int .i64 a.j, .int .i64 a.n, (.slice aa a.kids.length ca)] du (fun _ h => seesN_blk Hx1.out trivial (seesN_of (kept_trans Kk14.out (kept_trans Kk19.out (kept_trans Kk25.out (kept_trans Kk32.out Kk36.out)))) h)) (by rfl) rfl (by rfl) (by rfl) hu1 (by cases du <;> first | rfl | exact hu2) size_term) ?_
                (try simp only [Act.put, List.setIfInBounds_toArray, List.set_cons_zero, List.set_cons_succ])
                refine take_at 20 45 congEqsr3_20 (yields_part (w.heap.size + 1) 0 32 (.tmp 8) #[.int .i64 c.k, .int .i64 c.i, .int .i64 c.j, .int .i64 c.n, (.slice ac c.kids.length cc)] du (fun _ h => seesN_blk Hx2.out trivial (seesN_of (kept_trans Kk14.out (kept_trans Kk19.out (kept_trans Kk25.out (kept_trans Kk32.out Kk36.out)))) h)) (by rfl) rfl (by rfl) (by rfl) hu1 (by cases du <;> first | rfl | exact hu2) size_term) ?_
                (try simp only [Act.put, List.setIfInBounds_toArray, List.set_cons_zero, List.set_cons_succ])
                refine take_at 21 46 congEqsr3_21 (yields_part (w.heap.size + 2) 0 32 (.tmp 9) #[.int .i64 e.k, .int .i64 e.i, .int .i64 e.j, .int .i64 e.n, (.slice ae e.kids.length ce)] du (fun _ h => seesN_blk Hx3.out trivial (seesN_of (kept_trans Kk14.out (kept_trans Kk19.out (kept_trans Kk25.out (kept_trans Kk32.out Kk36.out)))) h)) (by rfl) rfl (by rfl) (by rfl) hu1 (by cases du <;> first | rfl | exact hu2) size_term) ?_
                (try simp only [Act.put, List.setIfInBounds_toArray, List.set_cons_zero, List.set_cons_succ])
                refine take_at 22 47 congEqsr3_22 (yields_part (w.heap.size + 3) 0 45 (.tmp 10) #[.int .i64 r.i, .int .i64 r.a.k, .int .i64 r.a.i, .int .i64 r.a.j, .int .i64 r.a.n, (.slice ara r.a.kids.length cra), .int .i64 r.b.k, .int .i64 r.b.i, .int .i64 r.b.j, .int .i64 r.b.n, (.slice arb r.b.kids.length crb), .int .i64 r.x.k, .int .i64 r.x.i, .int .i64 r.x.j, .int .i64 r.x.n, (.slice arx r.x.kids.length crx), .int .i64 r.y.k, .int .i64 r.y.i, .int .i64 r.y.j, .int .i64 r.y.n, (.slice ary r.y.kids.length cry), .int .i64 r.h.k, .int .i64 r.h.i, .int .i64 r.h.j, .int .i64 r.h.n, (.slice arh r.h.kids.length crh)] dr (fun _ h => seesN_blk Hx4.out trivial (seesN_of (kept_trans Kk14.out (kept_trans Kk19.out (kept_trans Kk25.out (kept_trans Kk32.out Kk36.out)))) h)) (by rfl) rfl (by rfl) (by rfl) dr1 (by cases dr <;> first | rfl | exact dr2) (by kernel_rfl)) ?_
                (try simp only [Act.put, List.setIfInBounds_toArray, List.set_cons_zero, List.set_cons_succ])
                refine take_at 25 50 congEqsr3_25 (v := ?_) (Or.inl ⟨by rfl, ?_⟩) ?_
                rotate_left 1
                · ((intro w hSw; (try dsimp only at hSw); unfold congEqsr3_25; go_simp) <;> with_reducible rfl)
                (try simp only [Act.put, List.setIfInBounds_toArray, List.set_cons_zero, List.set_cons_succ])
                refine take_at 26 51 congEqsr3_26 (yields_part (w.heap.size) 0 32 (.tmp 7) #[.int .i64 a.k, .int .i64 a.i, .int .i64 a.j, .int .i64 a.n, (.slice aa a.kids.length ca)] du (fun _ h => seesN_blk Hx1.out trivial (seesN_of (kept_trans Kk14.out (kept_trans Kk19.out (kept_trans Kk25.out (kept_trans Kk32.out Kk36.out)))) h)) (by rfl) rfl (by rfl) (by rfl) hu1 (by cases du <;> first | rfl | exact hu2) size_term) ?_
                (try simp only [Act.put, List.setIfInBounds_toArray, List.set_cons_zero, List.set_cons_succ])
                refine take_at 27 52 congEqsr3_27 (yields_part (w.heap.size + 1) 0 32 (.tmp 8) #[.int .i64 c.k, .int .i64 c.i, .int .i64 c.j, .int .i64 c.n, (.slice ac c.kids.length cc)] du (fun _ h => seesN_blk Hx2.out trivial (seesN_of (kept_trans Kk14.out (kept_trans Kk19.out (kept_trans Kk25.out (kept_trans Kk32.out Kk36.out)))) h)) (by rfl) rfl (by rfl) (by rfl) hu1 (by cases du <;> first | rfl | exact hu2) size_term) ?_
                (try simp only [Act.put, List.setIfInBounds_toArray, List.set_cons_zero, List.set_cons_succ])
                refine take_at 28 53 congEqsr3_28 (yields_part (w.heap.size + 2) 0 32 (.tmp 9) #[.int .i64 e.k, .int .i64 e.i, .int .i64 e.j, .int .i64 e.n, (.slice ae e.kids.length ce)] du (fun _ h => seesN_blk Hx3.out trivial (seesN_of (kept_trans Kk14.out (kept_trans Kk19.out (kept_trans Kk25.out (kept_trans Kk32.out Kk36.out)))) h)) (by rfl) rfl (by rfl) (by rfl) hu1 (by cases du <;> first | rfl | exact hu2) size_term) ?_
                (try simp only [Act.put, List.setIfInBounds_toArray, List.set_cons_zero, List.set_cons_succ])
                refine take_at 29 54 congEqsr3_29 (yields_part (w.heap.size + 3) 0 45 (.tmp 10) #[.int .i64 r.i, .int .i64 r.a.k, .int .i64 r.a.i, .int .i64 r.a.j, .int .i64 r.a.n, (.slice ara r.a.kids.length cra), .int .i64 r.b.k, .int .i64 r.b.i, .int .i64 r.b.j, .int .i64 r.b.n, (.slice arb r.b.kids.length crb), .int .i64 r.x.k, .int .i64 r.x.i, .int .i64 r.x.j, .int .i64 r.x.n, (.slice arx r.x.kids.length crx), .int .i64 r.y.k, .int .i64 r.y.i, .int .i64 r.y.j, .int .i64 r.y.n, (.slice ary r.y.kids.length cry), .int .i64 r.h.k, .int .i64 r.h.i, .int .i64 r.h.j, .int .i64 r.h.n, (.slice arh r.h.kids.length crh)] dr (fun _ h => seesN_blk Hx4.out trivial (seesN_of (kept_trans Kk14.out (kept_trans Kk19.out (kept_trans Kk25.out (kept_trans Kk32.out Kk36.out)))) h)) (by rfl) rfl (by rfl) (by rfl) dr1 (by cases dr <;> first | rfl | exact dr2) (by kernel_rfl)) ?_
                (try simp only [Act.put, List.setIfInBounds_toArray, List.set_cons_zero, List.set_cons_succ])
                refine wpAnyH_ready (rs := [23]) (by kernel_rfl) (by simp) ?_
                refine AllReadyH.cons (o := congEqsr3_23) rfl (fun K hK => ?_) ?_
                · unfold congEqsr3_23
                  go_simp
                  refine (lours4_any r (Par w V0.heap.size [] P) _ (.slice ara r.a.kids.length cra) (.slice arb r.b.kids.length crb) (.slice arx r.x.kids.length crx) (.slice ary r.y.kids.length cry) (.slice arh r.h.kids.length crh) ⟨Gr.out.1, Gr.out.2.1, Gr.out.2.2.1, Gr.out.2.2.2.1, Gr.out.2.2.2.2.1, Gr.out.2.2.2.2.2⟩ ⟨(HLra.out.later (kept_trans Kk14.out (kept_trans Kk19.out (kept_trans Kk25.out (kept_trans Kk32.out (kept_trans Kk36.out (kept_trans Kk64.out (kept_trans Kk92.out (kept_trans Kk101.out (kept_trans Kk109.out Kk112.out)))))))))), (HLrb.out.later (kept_trans Kk14.out (kept_trans Kk19.out (kept_trans Kk25.out (kept_trans Kk32.out (kept_trans Kk36.out (kept_trans Kk64.out (kept_trans Kk92.out (kept_trans Kk101.out (kept_trans Kk109.out Kk112.out)))))))))), (HLrx.out.later (kept_trans Kk14.out (kept_trans Kk19.out (kept_trans Kk25.out (kept_trans Kk32.out (kept_trans Kk36.out (kept_trans Kk64.out (kept_trans Kk92.out (kept_trans Kk101.out (kept_trans Kk109.out Kk112.out)))))))))), (HLry.out.later (kept_trans Kk14.out (kept_trans Kk19.out (kept_trans Kk25.out (kept_trans Kk32.out (kept_trans Kk36.out (kept_trans Kk64.out (kept_trans Kk92.out (kept_trans Kk101.out (kept_trans Kk109.out Kk112.out)))))))))), (HLrh.out.later (kept_trans Kk14.out (kept_trans Kk19.out (kept_trans Kk25.out (kept_trans Kk32.out (kept_trans Kk36.out (kept_trans Kk64.out (kept_trans Kk92.out (kept_trans Kk101.out (kept_trans Kk109.out Kk112.out))))))))))⟩).mono ?_
                  rintro e w113 ⟨s115, s116, s117, s118, s119, rfl, ⟨hl120, hl121, hl122, hl123, hl124⟩, k114⟩
                  obtain ⟨a125, c126, S127, rfl, -⟩ := hl120.out
                  obtain ⟨a128, c129, S130, rfl, -⟩ := hl121.out
                  obtain ⟨a131, c132, S133, rfl, -⟩ := hl122.out
                  obtain ⟨a134, c135, S136, rfl, -⟩ := hl123.out
                  obtain ⟨a137, c138, S139, rfl, -⟩ := hl124.out
                  have Kk140 := Lib.hid k114
                  clear k114
                  have Hhl120 : Hid (LiesQ w113 (Par w V0.heap.size [] P) r.a.kids _) := par_give hl120 (Below.size (kept_trans Kk14.out (kept_trans Kk19.out (kept_trans Kk25.out (kept_trans Kk32.out (kept_trans Kk36.out (kept_trans Kk64.out (kept_trans Kk92.out (kept_trans Kk101.out (kept_trans Kk109.out Kk112.out)))))))))) (xlt_nil _)
                  have Hhl121 : Hid (LiesQ w113 (Par w V0.heap.size [] P) r.b.kids _) := par_give hl121 (Below.size (kept_trans Kk14.out (kept_trans Kk19.out (kept_trans Kk25.out (kept_trans Kk32.out (kept_trans Kk36.out (kept_trans Kk64.out (kept_trans Kk92.out (kept_trans Kk101.out (kept_trans Kk109.out Kk112.out)))))))))) (xlt_nil _)
                  have Hhl122 : Hid (LiesQ w113 (Par w V0.heap.size [] P) r.x.kids _) := par_give hl122 (Below.size (kept_trans Kk14.out (kept_trans Kk19.out (kept_trans Kk25.out (kept_trans Kk32.out (kept_trans Kk36.out (kept_trans Kk64.out (kept_trans Kk92.out (kept_trans Kk101.out (kept_trans Kk109.out Kk112.out)))))))))) (xlt_nil _)
                  have Hhl123 : Hid (LiesQ w113 (Par w V0.heap.size [] P) r.y.kids _) := par_give hl123 (Below.size (kept_trans Kk14.out (kept_trans Kk19.out (kept_trans Kk25.out (kept_trans Kk32.out (kept_trans Kk36.out (kept_trans Kk64.out (kept_trans Kk92.out (kept_trans Kk101.out (kept_trans Kk109.out Kk112.out)))))))))) (xlt_nil _)
                  have Hhl124 : Hid (LiesQ w113 (Par w V0.heap.size [] P) r.h.kids _) := par_give hl124 (Below.size (kept_trans Kk14.out (kept_trans Kk19.out (kept_trans Kk25.out (kept_trans Kk32.out (kept_trans Kk36.out (kept_trans Kk64.out (kept_trans Kk92.out (kept_trans Kk101.out (kept_trans Kk109.out Kk112.out)))))))))) (xlt_nil _)
                  clear hl120 hl121 hl122 hl123 hl124
                  clear hHeld
                  refine hK.out _ _ (seesN_kept _ (kept_trans Kk64.out (kept_trans Kk92.out (kept_trans Kk101.out (kept_trans Kk109.out (kept_trans Kk112.out Kk140.out)))))) (fun hHeld => ?_)
                  clear hK K
                  (try simp only [Act.put, List.setIfInBounds_toArray, List.set_cons_zero, List.set_cons_succ])
                  refine wpAnyH_ready (rs := [24]) (by kernel_rfl) (by simp) ?_
                  refine AllReadyH.cons (o := congEqsr3_24) rfl (fun K hK => ?_) ?_
                  · unfold congEqsr3_24
                    go_simp
                    refine (cRefl_any i a c e r (Par w V0.heap.size [] P) w113 (.slice aa a.kids.length ca) (.slice ac c.kids.length cc) (.slice ae e.kids.length ce) (.slice a125 r.a.kids.length c126) (.slice a128 r.b.kids.length c129) (.slice a131 r.x.kids.length c132) (.slice a134 r.y.kids.length c135) (.slice a137 r.h.kids.length c138) Ri.out Ga.out (HLa.out.later (kept_trans Kk14.out (kept_trans Kk19.out (kept_trans Kk25.out (kept_trans Kk32.out (kept_trans Kk36.out (kept_trans Kk64.out (kept_trans Kk92.out (kept_trans Kk101.out (kept_trans Kk109.out (kept_trans Kk112.out Kk140.out))))))))))) Gc.out (HLc.out.later (kept_trans Kk14.out (kept_trans Kk19.out (kept_trans Kk25.out (kept_trans Kk32.out (kept_trans Kk36.out (kept_trans Kk64.out (kept_trans Kk92.out (kept_trans Kk101.out (kept_trans Kk109.out (kept_trans Kk112.out Kk140.out))))))))))) Ge.out (HLe.out.later (kept_trans Kk14.out (kept_trans Kk19.out (kept_trans Kk25.out (kept_trans Kk32.out (kept_trans Kk36.out (kept_trans Kk64.out (kept_trans Kk92.out (kept_trans Kk101.out (kept_trans Kk109.out (kept_trans Kk112.out Kk140.out))))))))))) (show He.fine r from ⟨((show He.fine r from ⟨Gr.out.1, Gr.out.2.1, Gr.out.2.2.1, Gr.out.2.2.2.1, Gr.out.2.2.2.2.1, Gr.out.2.2.2.2.2⟩)).1, ((show He.fine r from ⟨Gr.out.1, Gr.out.2.1, Gr.out.2.2.1, Gr.out.2.2.2.1, Gr.out.2.2.2.2.1, Gr.out.2.2.2.2.2⟩)).2.1, ((show He.fine r from ⟨Gr.out.1, Gr.out.2.1, Gr.out.2.2.1, Gr.out.2.2.2.1, Gr.out.2.2.2.2.1, Gr.out.2.2.2.2.2⟩)).2.2.1, ((show He.fine r from ⟨Gr.out.1, Gr.out.2.1, Gr.out.2.2.1, Gr.out.2.2.2.1, Gr.out.2.2.2.2.1, Gr.out.2.2.2.2.2⟩)).2.2.2.1, ((show He.fine r from ⟨Gr.out.1, Gr.out.2.1, Gr.out.2.2.1, Gr.out.2.2.2.1, Gr.out.2.2.2.2.1, Gr.out.2.2.2.2.2⟩)).2.2.2.2.1, ((show He.fine r from ⟨Gr.out.1, Gr.out.2.1, Gr.out.2.2.1, Gr.out.2.2.2.1, Gr.out.2.2.2.2.1, Gr.out.2.2.2.2.2⟩)).2.2.2.2.2⟩) ⟨Hhl120.out, Hhl121.out, Hhl122.out, Hhl123.out, Hhl124.out⟩).mono ?_
                    obtain ⟨U143, hU143⟩ : ∃ qu, cgRefl i a c e r = qu := ⟨_, rfl⟩
                    rw [hU143]
                    have HU143 := Lib.hid hU143
                    clear hU143
                    rintro e w141 ⟨s144, s145, s146, s147, s148, rfl, ⟨hl149, hl150, hl151, hl152, hl153⟩, k142⟩
                    obtain ⟨a154, c155, S156, rfl, -⟩ := hl149.out
                    obtain ⟨a157, c158, S159, rfl, -⟩ := hl150.out
                    obtain ⟨a160, c161, S162, rfl, -⟩ := hl151.out
                    obtain ⟨a163, c164, S165, rfl, -⟩ := hl152.out
                    obtain ⟨a166, c167, S168, rfl, -⟩ := hl153.out
                    have Kk169 := Lib.hid k142
                    clear k142
                    have Hhl149 : Hid (LiesQ w141 (Par w V0.heap.size [] P) U143.a.kids _) := par_give hl149 (Below.size (kept_trans Kk14.out (kept_trans Kk19.out (kept_trans Kk25.out (kept_trans Kk32.out (kept_trans Kk36.out (kept_trans Kk64.out (kept_trans Kk92.out (kept_trans Kk101.out (kept_trans Kk109.out (kept_trans Kk112.out Kk140.out))))))))))) (xlt_nil _)
                    have Hhl150 : Hid (LiesQ w141 (Par w V0.heap.size [] P) U143.b.kids _) := par_give hl150 (Below.size (kept_trans Kk14.out (kept_trans Kk19.out (kept_trans Kk25.out (kept_trans Kk32.out (kept_trans Kk36.out (kept_trans Kk64.out (kept_trans Kk92.out (kept_trans Kk101.out (kept_trans Kk109.out (kept_trans Kk112.out Kk140.out))))))))))) (xlt_nil _)
                    have Hhl151 : Hid (LiesQ w141 (Par w V0.heap.size [] P) U143.x.kids _) := par_give hl151 (Below.size (kept_trans Kk14.out (kept_trans Kk19.out (kept_trans Kk25.out (kept_trans Kk32.out (kept_trans Kk36.out (kept_trans Kk64.out (kept_trans Kk92.out (kept_trans Kk101.out (kept_trans Kk109.out (kept_trans Kk112.out Kk140.out))))))))))) (xlt_nil _)
                    have Hhl152 : Hid (LiesQ w141 (Par w V0.heap.size [] P) U143.y.kids _) := par_give hl152 (Below.size (kept_trans Kk14.out (kept_trans Kk19.out (kept_trans Kk25.out (kept_trans Kk32.out (kept_trans Kk36.out (kept_trans Kk64.out (kept_trans Kk92.out (kept_trans Kk101.out (kept_trans Kk109.out (kept_trans Kk112.out Kk140.out))))))))))) (xlt_nil _)
                    have Hhl153 : Hid (LiesQ w141 (Par w V0.heap.size [] P) U143.h.kids _) := par_give hl153 (Below.size (kept_trans Kk14.out (kept_trans Kk19.out (kept_trans Kk25.out (kept_trans Kk32.out (kept_trans Kk36.out (kept_trans Kk64.out (kept_trans Kk92.out (kept_trans Kk101.out (kept_trans Kk109.out (kept_trans Kk112.out Kk140.out))))))))))) (xlt_nil _)
                    clear hl149 hl150 hl151 hl152 hl153
                    clear hHeld
                    refine hK.out _ _ (seesN_kept _ (kept_trans Kk64.out (kept_trans Kk92.out (kept_trans Kk101.out (kept_trans Kk109.out (kept_trans Kk112.out (kept_trans Kk140.out Kk169.out))))))) (fun hHeld => ?_)
                    clear hK K
                    (try simp only [Act.put, List.setIfInBounds_toArray, List.set_cons_zero, List.set_cons_succ])
                    refine wpAnyH_ready (rs := [30]) (by kernel_rfl) (by simp) ?_
                    refine AllReadyH.cons (o := congEqsr3_30) rfl (fun K hK => ?_) ?_
                    · unfold congEqsr3_30
                      go_simp
                      refine (rcRefl_any i a c e r (Par w V0.heap.size [] P) w141 (.slice aa a.kids.length ca) (.slice ac c.kids.length cc) (.slice ae e.kids.length ce) (.slice ara r.a.kids.length cra) (.slice arb r.b.kids.length crb) (.slice arx r.x.kids.length crx) (.slice ary r.y.kids.length cry) (.slice arh r.h.kids.length crh) Ri.out Ga.out (HLa.out.later (kept_trans Kk14.out (kept_trans Kk19.out (kept_trans Kk25.out (kept_trans Kk32.out (kept_trans Kk36.out (kept_trans Kk64.out (kept_trans Kk92.out (kept_trans Kk101.out (kept_trans Kk109.out (kept_trans Kk112.out (kept_trans Kk140.out Kk169.out)))))))))))) Gc.out (HLc.out.later (kept_trans Kk14.out (kept_trans Kk19.out (kept_trans Kk25.out (kept_trans Kk32.out (kept_trans Kk36.out (kept_trans Kk64.out (kept_trans Kk92.out (kept_trans Kk101.out (kept_trans Kk109.out (kept_trans Kk112.out (kept_trans Kk140.out Kk169.out)))))))))))) Ge.out (HLe.out.later (kept_trans Kk14.out (kept_trans Kk19.out (kept_trans Kk25.out (kept_trans Kk32.out (kept_trans Kk36.out (kept_trans Kk64.out (kept_trans Kk92.out (kept_trans Kk101.out (kept_trans Kk109.out (kept_trans Kk112.out (kept_trans Kk140.out Kk169.out)))))))))))) (show He.fine r from ⟨Gr.out.1, Gr.out.2.1, Gr.out.2.2.1, Gr.out.2.2.2.1, Gr.out.2.2.2.2.1, Gr.out.2.2.2.2.2⟩) ⟨(HLra.out.later (kept_trans Kk14.out (kept_trans Kk19.out (kept_trans Kk25.out (kept_trans Kk32.out (kept_trans Kk36.out (kept_trans Kk64.out (kept_trans Kk92.out (kept_trans Kk101.out (kept_trans Kk109.out (kept_trans Kk112.out (kept_trans Kk140.out Kk169.out)))))))))))), (HLrb.out.later (kept_trans Kk14.out (kept_trans Kk19.out (kept_trans Kk25.out (kept_trans Kk32.out (kept_trans Kk36.out (kept_trans Kk64.out (kept_trans Kk92.out (kept_trans Kk101.out (kept_trans Kk109.out (kept_trans Kk112.out (kept_trans Kk140.out Kk169.out)))))))))))), (HLrx.out.later (kept_trans Kk14.out (kept_trans Kk19.out (kept_trans Kk25.out (kept_trans Kk32.out (kept_trans Kk36.out (kept_trans Kk64.out (kept_trans Kk92.out (kept_trans Kk101.out (kept_trans Kk109.out (kept_trans Kk112.out (kept_trans Kk140.out Kk169.out)))))))))))), (HLry.out.later (kept_trans Kk14.out (kept_trans Kk19.out (kept_trans Kk25.out (kept_trans Kk32.out (kept_trans Kk36.out (kept_trans Kk64.out (kept_trans Kk92.out (kept_trans Kk101.out (kept_trans Kk109.out (kept_trans Kk112.out (kept_trans Kk140.out Kk169.out)))))))))))), (HLrh.out.later (kept_trans Kk14.out (kept_trans Kk19.out (kept_trans Kk25.out (kept_trans Kk32.out (kept_trans Kk36.out (kept_trans Kk64.out (kept_trans Kk92.out (kept_trans Kk101.out (kept_trans Kk109.out (kept_trans Kk112.out (kept_trans Kk140.out Kk169.out))))))))))))⟩).mono ?_
                      rw [HU143.out]
                      rintro e w170 ⟨s172, s173, s174, s175, s176, rfl, ⟨hl177, hl178, hl179, hl180, hl181⟩, k171⟩
                      obtain ⟨a182, c183, S184, rfl, -⟩ := hl177.out
                      obtain ⟨a185, c186, S187, rfl, -⟩ := hl178.out
                      obtain ⟨a188, c189, S190, rfl, -⟩ := hl179.out
                      obtain ⟨a191, c192, S193, rfl, -⟩ := hl180.out
                      obtain ⟨a194, c195, S196, rfl, -⟩ := hl181.out
                      have Kk197 := Lib.hid k171
                      clear k171
                      have Hhl177 : Hid (LiesQ w170 (Par w V0.heap.size [] P) U143.a.kids _) := par_give hl177 (Below.size (kept_trans Kk14.out (kept_trans Kk19.out (kept_trans Kk25.out (kept_trans Kk32.out (kept_trans Kk36.out (kept_trans Kk64.out (kept_trans Kk92.out (kept_trans Kk101.out (kept_trans Kk109.out (kept_trans Kk112.out (kept_trans Kk140.out Kk169.out)))))))))))) (xlt_nil _)
                      have Hhl178 : Hid (LiesQ w170 (Par w V0.heap.size [] P) U143.b.kids _) := par_give hl178 (Below.size (kept_trans Kk14.out (kept_trans Kk19.out (kept_trans Kk25.out (kept_trans Kk32.out (kept_trans Kk36.out (kept_trans Kk64.out (kept_trans Kk92.out (kept_trans Kk101.out (kept_trans Kk109.out (kept_trans Kk112.out (kept_trans Kk140.out Kk169.out)))))))))))) (xlt_nil _)
                      have Hhl179 : Hid (LiesQ w170 (Par w V0.heap.size [] P) U143.x.kids _) := par_give hl179 (Below.size (kept_trans Kk14.out (kept_trans Kk19.out (kept_trans Kk25.out (kept_trans Kk32.out (kept_trans Kk36.out (kept_trans Kk64.out (kept_trans Kk92.out (kept_trans Kk101.out (kept_trans Kk109.out (kept_trans Kk112.out (kept_trans Kk140.out Kk169.out)))))))))))) (xlt_nil _)
                      have Hhl180 : Hid (LiesQ w170 (Par w V0.heap.size [] P) U143.y.kids _) := par_give hl180 (Below.size (kept_trans Kk14.out (kept_trans Kk19.out (kept_trans Kk25.out (kept_trans Kk32.out (kept_trans Kk36.out (kept_trans Kk64.out (kept_trans Kk92.out (kept_trans Kk101.out (kept_trans Kk109.out (kept_trans Kk112.out (kept_trans Kk140.out Kk169.out)))))))))))) (xlt_nil _)
                      have Hhl181 : Hid (LiesQ w170 (Par w V0.heap.size [] P) U143.h.kids _) := par_give hl181 (Below.size (kept_trans Kk14.out (kept_trans Kk19.out (kept_trans Kk25.out (kept_trans Kk32.out (kept_trans Kk36.out (kept_trans Kk64.out (kept_trans Kk92.out (kept_trans Kk101.out (kept_trans Kk109.out (kept_trans Kk112.out (kept_trans Kk140.out Kk169.out)))))))))))) (xlt_nil _)
                      clear hl177 hl178 hl179 hl180 hl181
                      clear hHeld
                      refine hK.out _ _ (seesN_kept _ (kept_trans Kk64.out (kept_trans Kk92.out (kept_trans Kk101.out (kept_trans Kk109.out (kept_trans Kk112.out (kept_trans Kk140.out (kept_trans Kk169.out Kk197.out)))))))) (fun hHeld => ?_)
                      clear hK K
                      (try simp only [Act.put, List.setIfInBounds_toArray, List.set_cons_zero, List.set_cons_succ])
                      refine wpAnyH_ready (rs := [31]) (by kernel_rfl) (by simp) ?_
                      refine AllReadyH.cons (o := congEqsr3_31) rfl (fun K hK => ?_) ?_
                      · unfold congEqsr3_31
                        go_simp
                        refine (lsame4_any U143 (Par w V0.heap.size [] P) _ (.slice a154 U143.a.kids.length c155) (.slice a157 U143.b.kids.length c158) (.slice a160 U143.x.kids.length c161) (.slice a163 U143.y.kids.length c164) (.slice a166 U143.h.kids.length c167) (.slice a182 U143.a.kids.length c183) (.slice a185 U143.b.kids.length c186) (.slice a188 U143.x.kids.length c189) (.slice a191 U143.y.kids.length c192) (.slice a194 U143.h.kids.length c195) ⟨(Hhl149.out.later Kk197.out), (Hhl150.out.later Kk197.out), (Hhl151.out.later Kk197.out), (Hhl152.out.later Kk197.out), (Hhl153.out.later Kk197.out)⟩ ⟨Hhl177.out, Hhl178.out, Hhl179.out, Hhl180.out, Hhl181.out⟩).mono ?_
                        rintro e w198 ⟨rfl, k199⟩
                        have Kk200 := Lib.hid k199
                        clear k199
                        clear hHeld
                        refine hK.out _ _ (seesN_kept _ (kept_trans Kk64.out (kept_trans Kk92.out (kept_trans Kk101.out (kept_trans Kk109.out (kept_trans Kk112.out (kept_trans Kk140.out (kept_trans Kk169.out (kept_trans Kk197.out Kk200.out))))))))) (fun hHeld => ?_)
                        clear hK K
                        (try simp only [Act.put, List.setIfInBounds_toArray, List.set_cons_zero, List.set_cons_succ])
                        refine take_at 32 57 congEqsr3_32 (v := ?_) (Or.inl ⟨by rfl, ?_⟩) ?_
                        rotate_left 1
                        · ((intro w hSw; (try dsimp only at hSw); unfold congEqsr3_32; go_simp) <;> with_reducible rfl)
                        (try simp only [Act.put, List.setIfInBounds_toArray, List.set_cons_zero, List.set_cons_succ])
                        refine take_at 33 58 congEqsr3_33 (v := ?_) (Or.inl ⟨by rfl, ?_⟩) ?_
                        rotate_left 1
                        · ((intro w hSw; (try dsimp only at hSw); unfold congEqsr3_33; go_simp) <;> with_reducible rfl)
                        (try simp only [Act.put, List.setIfInBounds_toArray, List.set_cons_zero, List.set_cons_succ])
                        refine wpAnyH_ready (rs := [34]) (by kernel_rfl) (by simp) ?_
                        refine AllReadyH.cons (o := congEqsr3_34) rfl (fun K hK => ?_) ?_
                        · unfold congEqsr3_34
                          go_simp
                          refine (wakes24_any _).mono ?_
                          rintro e w201 ⟨rfl, k202⟩
                          have Kk203 := Lib.hid k202
                          clear k202
                          clear hHeld
                          refine hK.out _ _ (seesN_kept _ (kept_trans Kk64.out (kept_trans Kk92.out (kept_trans Kk101.out (kept_trans Kk109.out (kept_trans Kk112.out (kept_trans Kk140.out (kept_trans Kk169.out (kept_trans Kk197.out (kept_trans Kk200.out Kk203.out)))))))))) (fun hHeld => ?_)
                          clear hK K
                          (try simp only [Act.put, List.setIfInBounds_toArray, List.set_cons_zero, List.set_cons_succ])
                          refine take_at 35 60 congEqsr3_35 (v := ?_) (Or.inl ⟨by rfl, ?_⟩) ?_
                          rotate_left 1
                          · ((intro w hSw; (try dsimp only at hSw); unfold congEqsr3_35; go_simp) <;> with_reducible rfl)
                          (try simp only [Act.put, List.setIfInBounds_toArray, List.set_cons_zero, List.set_cons_succ])
                          refine take_at 36 12 congEqsr3_36 (v := ?_) (Or.inl ⟨by rfl, ?_⟩) ?_
                          rotate_left 1
                          · ((intro w hSw; (try dsimp only at hSw); unfold congEqsr3_36; go_simp) <;> with_reducible rfl)
                          (try simp only [Act.put, List.setIfInBounds_toArray, List.set_cons_zero, List.set_cons_succ])
                          refine wpAnyH_done (by kernel_rfl) ?_ _
                          clear hHeld
                          have kvV0 : SeesN V0 V0.heap.size w201 := seesN_kept _ (kept_trans Kk14.out (kept_trans Kk19.out (kept_trans Kk25.out (kept_trans Kk32.out (kept_trans Kk36.out (kept_trans Kk64.out (kept_trans Kk92.out (kept_trans Kk101.out (kept_trans Kk109.out (kept_trans Kk112.out (kept_trans Kk140.out (kept_trans Kk169.out (kept_trans Kk197.out (kept_trans Kk200.out Kk203.out))))))))))))))
                          go_wp2
                          go_ret
                          exact ⟨rfl, (kept_trans Kk8.out (kept_trans Kk14.out (kept_trans Kk19.out (kept_trans Kk25.out (kept_trans Kk32.out (kept_trans Kk36.out (kept_trans Kk64.out (kept_trans Kk92.out (kept_trans Kk101.out (kept_trans Kk109.out (kept_trans Kk112.out (kept_trans Kk140.out (kept_trans Kk169.out (kept_trans Kk197.out (kept_trans Kk200.out Kk203.out)))))))))))))))⟩
                        exact AllReadyH.nil
                      exact AllReadyH.nil
                    exact AllReadyH.nil
                  exact AllReadyH.nil
                exact AllReadyH.nil
              exact AllReadyH.nil
            exact AllReadyH.nil
          exact AllReadyH.nil
        exact AllReadyH.nil
      exact AllReadyH.nil
    | true =>
      have kvV0 : SeesN V0 V0.heap.size w28 := seesN_kept _ (kept_trans Kk14.out (kept_trans Kk19.out (kept_trans Kk25.out Kk32.out)))
      go_wp2
      go_ret
      exact ⟨rfl, (kept_trans Kk8.out (kept_trans Kk14.out (kept_trans Kk19.out (kept_trans Kk25.out Kk32.out))))⟩
  | true =>
    have kvV0 : SeesN V0 V0.heap.size w15 := seesN_kept _ (kept_trans Kk14.out Kk19.out)
    go_wp2
    go_ret
    exact ⟨rfl, (kept_trans Kk8.out (kept_trans Kk14.out Kk19.out))⟩

end Go.Proofs.Ytkdceahmknhojaa

namespace Go.Proofs.Ytkdceahmknhojaa
open Go.ChangeShapes Go.WideShapes Go.ChangeAt Go.RowKit

theorem own : ownKnob Try.prog.godebug = none := by kernel_rfl
theorem cells_int : Try.prog.cellsOf 3 = 1 := by kernel_rfl
theorem cells_kids : Try.prog.cellsOf 30 = 1 := by kernel_rfl
theorem cells_term : Try.prog.cellsOf 32 = 5 := by kernel_rfl
theorem laidOut : laidOutB Try.prog = true := by kernel_rfl

instance instOpenTm : Inhabited (Tm × Value) := ⟨(.mk 0 0 0 0 [], .nilIface)⟩

theorem list5 {α : Type} {l : List α} (h : l.length = 5) : ∃ a b c d e, l = [a, b, c, d, e] := by
  match l, h with
  | [a, b, c, d, e], _ => exact ⟨a, b, c, d, e, rfl⟩

theorem wf_I64 {x : Int} (h : (Lit.int .i64 x).wf = true) : I64 x := by
  simp [Lit.wf] at h
  have hm : IntKind.i64.min = -9223372036854775808 := by decide
  rw [hm] at h
  exact h

set_option maxRecDepth 100000 in
theorem open_term {H : Type} {enc : TypeId × Value → H} {w : World} {base : Nat} {sp : Nat → Bool} {hd : Bool} : ∀ (fuel : Nat) (cs : List Value) (x : DataW H × List MemPlace),
    DataW.trod enc Try.prog w base sp hd fuel 32 cs = some x → ∃ (t : Tm) (s : Value), cs = [.int .i64 t.k, .int .i64 t.i, .int .i64 t.j, .int .i64 t.n, s] ∧ t.fine ∧ Lies w t.kids s := by
  intro fuel
  induction fuel using Nat.strongRecOn with
  | _ fuel ih =>
    intro cs x h
    obtain ⟨xs, n, rfl, rfl, hl, hlen, hf⟩ := DataW.trod_struct Try.underlying32 h
    rw [cells_term] at hl
    obtain ⟨v0, v1, v2, v3, v4, rfl⟩ := list5 hl
    obtain ⟨y0, y1, y2, y3, y4, rfl⟩ := list5 hlen
    have g0 := hf 0 _ rfl
    have g1 := hf 1 _ rfl
    have g2 := hf 2 _ rfl
    have g3 := hf 3 _ rfl
    have g4 := hf 4 _ rfl
    simp [cells_int, cells_kids] at g0 g1 g2 g3 g4
    obtain ⟨k, e0, -, w0⟩ := DataW.trod_int Try.underlying3 g0
    obtain ⟨i, e1, -, w1⟩ := DataW.trod_int Try.underlying3 g1
    obtain ⟨j, e2, -, w2⟩ := DataW.trod_int Try.underlying3 g2
    obtain ⟨m, e3, -, w3⟩ := DataW.trod_int Try.underlying3 g3
    simp at e0 e1 e2 e3
    subst e0 e1 e2 e3
    rcases DataW.trod_slice Try.underlying30 g4 with ⟨e4, -⟩ | ⟨a, len, cap, elems, rest, n', rfl, e4, -, hb, hlc, hm, hlen', hel, -, -⟩
    · simp at e4
      subst e4
      exact ⟨.mk k i j m [], _, rfl, ⟨wf_I64 w0, wf_I64 w1, wf_I64 w2, wf_I64 w3⟩, .mk [] none 0 (fun _ => .nilIface) (Nat.le_refl _) (by decide) (fun _ h => by cases h) (fun _ h => by cases h) (fun _ h => by cases h)⟩
    · simp at e4
      subst e4
      have key : ∀ i, i < len → ∃ p : Tm × Value, p.1.fine ∧ Lies w p.1.kids p.2 ∧ ∃ b o, a = ⟨b, o, none⟩ ∧ Node w b (o + i * 5) p.1 p.2 := by
        intro i hi
        have h1 := hel i hi
        rw [cells_term, List.getElem?_eq_getElem (by omega)] at h1
        obtain ⟨cs', h2, h3⟩ := Option.bind_eq_some_iff.1 h1
        obtain ⟨t, s, rfl, hfine, hlies⟩ := ih n' (by omega) _ _ h3
        obtain ⟨-, -, hcell⟩ := World.cells?_some h2
        have hs0 : a.spot = none := by
          have h1 := hel 0 (by omega)
          rw [cells_term, List.getElem?_eq_getElem (by omega)] at h1
          obtain ⟨cs0, h2, -⟩ := Option.bind_eq_some_iff.1 h1
          obtain ⟨-, hl0, hc0⟩ := World.cells?_some h2
          have c0 := hc0 0 (by omega)
          rw [List.getElem?_eq_getElem (by omega)] at c0
          simpa [Addr.add] using World.cell?_spot c0
        obtain ⟨b, o, spot⟩ := a
        simp only at hs0
        subst hs0
        refine ⟨(t, s), hfine, hlies, b, o, rfl, ?_⟩
        have hc : ∀ q, q < 5 → w.cell? ⟨b, o + i * 5 + q, none⟩ = [Value.int .i64 t.k, .int .i64 t.i, .int .i64 t.j, .int .i64 t.n, s][q]? := fun q hq => by
          have := hcell q hq
          rwa [add_plain, add_plain] at this
        exact ⟨hc 0 (by omega), hc 1 (by omega), hc 2 (by omega), hc 3 (by omega), hc 4 (by omega)⟩
      obtain ⟨f, hf'⟩ := Go.Deep.choose_lt (α := Tm × Value) (p := fun i p => p.1.fine ∧ Lies w p.1.kids p.2 ∧ ∃ b o, a = ⟨b, o, none⟩ ∧ Node w b (o + i * 5) p.1 p.2) key
      have hl5 : ((List.range len).map fun i => (f i).1).length = len := by simp
      refine ⟨.mk k i j m ((List.range len).map fun i => (f i).1), _, rfl, ⟨wf_I64 w0, wf_I64 w1, wf_I64 w2, wf_I64 w3⟩, ?_⟩
      have := Lies.mk (w := w) ((List.range len).map fun i => (f i).1) (some a) cap (fun i => (f i).2) (by simpa using hlc) hm
        (fun x hx => by
          obtain ⟨i, hi, rfl⟩ := List.mem_map.1 hx
          exact (hf' i (List.mem_range.1 hi)).1)
        (fun i hi => by
          obtain ⟨b, o, ha, hn⟩ := (hf' i (by simpa using hi)).2.2
          exact ⟨b, o, by rw [ha], by simpa using hn⟩)
        (fun i hi => by simpa using (hf' i (by simpa using hi)).2.1)
      rwa [hl5] at this
end Go.Proofs.Ytkdceahmknhojaa

namespace Go.Proofs.Ytkdceahmknhojaa
open Go.ChangeShapes Go.WideShapes Go.ChangeAt Go.RowKit

instance instOpenEn : Inhabited (En × Value) := ⟨(⟨.mk 0 0 0 0 [], 0⟩, .nilIface)⟩
end Go.Proofs.Ytkdceahmknhojaa

namespace Go.Proofs.Ytkdceahmknhojaa
open Go.ChangeShapes Go.WideShapes Go.ChangeAt Go.RowKit

set_option maxRecDepth 100000 in
theorem open_argTF {H : Type} {enc : TypeId × Value → H} {W : World} {r : Reach} {b0 base : Nat} {sp : Nat → Bool} {hd : Bool} {v : Value} {d : DataW H} {p : List MemPlace} (hv : Value.okWide Try.prog W r b0 32 v)
    (h : DataW.Trod enc Try.prog W base sp hd 32 v d p) : ∃ (t : Tm) (s : Value), Lies W t.kids s ∧ t.fine ∧ v = tv t s := by
  obtain ⟨cs, rfl, hsz⟩ := okWide_struct Try.underlying32 hv
  obtain ⟨fuel, hf⟩ := h
  obtain ⟨t, s, hcs, hft, hl⟩ := open_term fuel _ _ hf
  refine ⟨t, s, hl, hft, ?_⟩
  have : cs.toList = [.int .i64 t.k, .int .i64 t.i, .int .i64 t.j, .int .i64 t.n, s] := by simpa [Value.cells] using hcs
  rw [show cs = #[.int .i64 t.k, .int .i64 t.i, .int .i64 t.j, .int .i64 t.n, s] from by cases cs; simp_all]
end Go.Proofs.Ytkdceahmknhojaa

namespace Go.Proofs.Ytkdceahmknhojaa
open Go.ChangeShapes Go.WideShapes Go.ChangeAt Go.RowKit

theorem cells_het : Try.prog.cellsOf 45 = 26 := by kernel_rfl
theorem list26 {α : Type} {l : List α} (h : l.length = 26) : ∃ v0 v1 v2 v3 v4 v5 v6 v7 v8 v9 v10 v11 v12 v13 v14 v15 v16 v17 v18 v19 v20 v21 v22 v23 v24 v25, l = [v0, v1, v2, v3, v4, v5, v6, v7, v8, v9, v10, v11, v12, v13, v14, v15, v16, v17, v18, v19, v20, v21, v22, v23, v24, v25] := by
  match l, h with
  | [v0, v1, v2, v3, v4, v5, v6, v7, v8, v9, v10, v11, v12, v13, v14, v15, v16, v17, v18, v19, v20, v21, v22, v23, v24, v25], _ => exact ⟨v0, v1, v2, v3, v4, v5, v6, v7, v8, v9, v10, v11, v12, v13, v14, v15, v16, v17, v18, v19, v20, v21, v22, v23, v24, v25, rfl⟩
theorem flds6 {α : Type} {l : List α} (h : l.length = 6) : ∃ y0 y1 y2 y3 y4 y5, l = [y0, y1, y2, y3, y4, y5] := by
  match l, h with
  | [y0, y1, y2, y3, y4, y5], _ => exact ⟨y0, y1, y2, y3, y4, y5, rfl⟩
set_option maxRecDepth 100000 in
theorem open_het {H : Type} {enc : TypeId × Value → H} {w : World} {base : Nat} {sp : Nat → Bool} {hd : Bool} (fuel : Nat) (cs : List Value) (x : DataW H × List MemPlace)
    (h : DataW.trod enc Try.prog w base sp hd fuel 45 cs = some x) : ∃ (j : He) (sa sb sx sy sh : Value), cs = [.int .i64 j.i, .int .i64 j.a.k, .int .i64 j.a.i, .int .i64 j.a.j, .int .i64 j.a.n, sa, .int .i64 j.b.k, .int .i64 j.b.i, .int .i64 j.b.j, .int .i64 j.b.n, sb, .int .i64 j.x.k, .int .i64 j.x.i, .int .i64 j.x.j, .int .i64 j.x.n, sx, .int .i64 j.y.k, .int .i64 j.y.i, .int .i64 j.y.j, .int .i64 j.y.n, sy, .int .i64 j.h.k, .int .i64 j.h.i, .int .i64 j.h.j, .int .i64 j.h.n, sh] ∧ j.fine ∧ HLies w j sa sb sx sy sh := by
  obtain ⟨xs, n, rfl, rfl, hl, hlen, hf⟩ := DataW.trod_struct Try.underlying45 h
  rw [cells_het] at hl
  obtain ⟨v0, v1, v2, v3, v4, v5, v6, v7, v8, v9, v10, v11, v12, v13, v14, v15, v16, v17, v18, v19, v20, v21, v22, v23, v24, v25, rfl⟩ := list26 hl
  obtain ⟨y0, y1, y2, y3, y4, y5, rfl⟩ := flds6 hlen
  have g0 := hf 0 _ rfl
  have g1 := hf 1 _ rfl
  have g2 := hf 2 _ rfl
  have g3 := hf 3 _ rfl
  have g4 := hf 4 _ rfl
  have g5 := hf 5 _ rfl
  simp [cells_int, cells_term] at g0 g1 g2 g3 g4 g5
  obtain ⟨ii, ei, -, wi⟩ := DataW.trod_int Try.underlying3 g0
  simp at ei
  subst ei
  obtain ⟨ta, sa, hca, hfa, hla⟩ := open_term n _ _ g1
  simp at hca
  obtain ⟨rfl, rfl, rfl, rfl, rfl⟩ := hca
  obtain ⟨tb, sb, hcb, hfb, hlb⟩ := open_term n _ _ g2
  simp at hcb
  obtain ⟨rfl, rfl, rfl, rfl, rfl⟩ := hcb
  obtain ⟨tx, sx, hcx, hfx, hlx⟩ := open_term n _ _ g3
  simp at hcx
  obtain ⟨rfl, rfl, rfl, rfl, rfl⟩ := hcx
  obtain ⟨ty, sy, hcy, hfy, hly⟩ := open_term n _ _ g4
  simp at hcy
  obtain ⟨rfl, rfl, rfl, rfl, rfl⟩ := hcy
  obtain ⟨th, sh, hch, hfh, hlh⟩ := open_term n _ _ g5
  simp at hch
  obtain ⟨rfl, rfl, rfl, rfl, rfl⟩ := hch
  exact ⟨⟨ii, ta, tb, tx, ty, th⟩, _, _, _, _, _, rfl, ⟨wf_I64 wi, hfa, hfb, hfx, hfy, hfh⟩, hla, hlb, hlx, hly, hlh⟩
set_option maxRecDepth 100000 in
theorem open_argH {H : Type} {enc : TypeId × Value → H} {W : World} {r : Reach} {b0 base : Nat} {sp : Nat → Bool} {hd : Bool} {v : Value} {d : DataW H} {p : List MemPlace} (hv' : Value.okWide Try.prog W r b0 45 v)
    (h : DataW.Trod enc Try.prog W base sp hd 45 v d p) : ∃ (j : He) (sa sb sx sy sh : Value), HLies W j sa sb sx sy sh ∧ j.fine ∧ v = hv j sa sb sx sy sh := by
  obtain ⟨cs, rfl, hsz⟩ := okWide_struct Try.underlying45 hv'
  obtain ⟨fuel, hf⟩ := h
  obtain ⟨j, sa, sb, sx, sy, sh, hcs, hfj, hl⟩ := open_het fuel _ _ hf
  refine ⟨j, sa, sb, sx, sy, sh, hl, hfj, ?_⟩
  have : cs.toList = [.int .i64 j.i, .int .i64 j.a.k, .int .i64 j.a.i, .int .i64 j.a.j, .int .i64 j.a.n, sa, .int .i64 j.b.k, .int .i64 j.b.i, .int .i64 j.b.j, .int .i64 j.b.n, sb, .int .i64 j.x.k, .int .i64 j.x.i, .int .i64 j.x.j, .int .i64 j.x.n, sx, .int .i64 j.y.k, .int .i64 j.y.i, .int .i64 j.y.j, .int .i64 j.y.n, sy, .int .i64 j.h.k, .int .i64 j.h.i, .int .i64 j.h.j, .int .i64 j.h.n, sh] := by simpa [Value.cells] using hcs
  rw [show cs = #[.int .i64 j.i, .int .i64 j.a.k, .int .i64 j.a.i, .int .i64 j.a.j, .int .i64 j.a.n, sa, .int .i64 j.b.k, .int .i64 j.b.i, .int .i64 j.b.j, .int .i64 j.b.n, sb, .int .i64 j.x.k, .int .i64 j.x.i, .int .i64 j.x.j, .int .i64 j.x.n, sx, .int .i64 j.y.k, .int .i64 j.y.i, .int .i64 j.y.j, .int .i64 j.y.n, sy, .int .i64 j.h.k, .int .i64 j.h.i, .int .i64 j.h.j, .int .i64 j.h.n, sh] from by cases cs; simp_all]
end Go.Proofs.Ytkdceahmknhojaa

namespace Go.Proofs.Ytkdceahmknhojaa
open Go.ChangeShapes Go.WideShapes

def code (l : List Nat) : List Char := l.map Char.ofNat
def joinN : List (List Nat) → List Nat
  | [] => []
  | [a] => a
  | a :: b :: r => a ++ 32 :: joinN (b :: r)

theorem words_one : ∀ a : List Nat, (a.all fun n => Char.ofNat n != Char.ofNat 32) = true → wordsSigns (code a) = [code a]
  | [], _ => rfl
  | n :: a, h => by
    simp only [List.all_cons, Bool.and_eq_true, bne_iff_ne] at h
    have ih := words_one a h.2
    show wordsSigns (Char.ofNat n :: code a) = _
    rw [wordsSigns]
    · rw [ih]; rfl
    · exact h.1
theorem words_more : ∀ (a : List Nat) (r : List Char), (a.all fun n => Char.ofNat n != Char.ofNat 32) = true → wordsSigns (code a ++ Char.ofNat 32 :: r) = code a :: wordsSigns r
  | [], r, _ => by
    show wordsSigns (Char.ofNat 32 :: r) = _
    rw [show Char.ofNat 32 = _ from rfl, wordsSigns]; rfl
  | n :: a, r, h => by
    simp only [List.all_cons, Bool.and_eq_true, bne_iff_ne] at h
    have ih := words_more a r h.2
    show wordsSigns (Char.ofNat n :: (code a ++ Char.ofNat 32 :: r)) = _
    rw [wordsSigns]
    · rw [ih]; rfl
    · exact h.1
theorem words_join : ∀ ws : List (List Nat), ws ≠ [] → (ws.all fun w => w.all fun n => Char.ofNat n != Char.ofNat 32) = true → wordsSigns (code (joinN ws)) = ws.map code
  | [], h, _ => absurd rfl h
  | [a], _, h => by simp only [List.all_cons, List.all_nil, Bool.and_true] at h; exact words_one a h
  | a :: b :: r, _, h => by
    have h' := h
    rw [List.all_cons, Bool.and_eq_true] at h'
    have ih := words_join (b :: r) (by simp) h'.2
    show wordsSigns (code (a ++ 32 :: joinN (b :: r))) = _
    rw [show code (a ++ 32 :: joinN (b :: r)) = code a ++ Char.ofNat 32 :: code (joinN (b :: r)) from by simp [code], words_more a _ h'.1, ih]; rfl

def cutWords : List (List Nat) := [[104, 97, 114, 110, 101, 115, 115],
  [102, 52, 56, 51, 100, 56, 99, 49, 49, 97, 51, 102, 55, 56, 101, 50, 99, 54, 102, 50, 51, 49, 56, 54, 48, 102, 51, 98, 99, 101, 97, 56, 98, 48, 97, 101, 97, 49, 51, 98, 100, 54, 53, 52, 99, 48, 102, 54, 97, 101, 50, 57, 100, 97, 48, 97, 50, 55, 55, 50, 52, 56, 55, 49],
  [99, 117, 116],
  [97, 116],
  [116, 114, 97, 110, 115, 104, 105, 112, 47, 116, 114, 97, 110, 115, 104, 105, 112, 108, 97, 119, 49, 53, 46, 80, 114, 101, 109, 105, 115, 101, 69, 120, 97, 99, 116],
  [116, 114, 97, 110, 115, 104, 105, 112, 47, 116, 114, 97, 110, 115, 104, 105, 112, 108, 97, 119, 49, 53, 46, 82, 117, 108, 101, 82, 105, 103, 104, 116],
  [116, 114, 97, 110, 115, 104, 105, 112, 47, 116, 114, 97, 110, 115, 104, 105, 112, 108, 97, 119, 49, 53, 46, 82, 117, 108, 101, 84, 117, 114, 110, 101, 100],
  [116, 114, 97, 110, 115, 104, 105, 112, 47, 116, 114, 97, 110, 115, 104, 105, 112, 108, 97, 119, 49, 53, 46, 82, 117, 108, 101, 76, 101, 118, 101, 108, 115],
  [116, 114, 97, 110, 115, 104, 105, 112, 47, 116, 114, 97, 110, 115, 104, 105, 112, 108, 97, 119, 50, 51, 46, 72, 101, 116, 80, 111, 105, 110, 116, 115],
  [116, 114, 97, 110, 115, 104, 105, 112, 47, 116, 114, 97, 110, 115, 104, 105, 112, 108, 97, 119, 50, 51, 46, 72, 101, 116, 77, 97, 107, 101, 115],
  [116, 114, 97, 110, 115, 104, 105, 112, 47, 116, 114, 97, 110, 115, 104, 105, 112, 108, 97, 119, 50, 51, 46, 72, 101, 116, 84, 104, 101, 110],
  [116, 114, 97, 110, 115, 104, 105, 112, 47, 116, 114, 97, 110, 115, 104, 105, 112, 108, 97, 119, 50, 51, 46, 72, 101, 116, 69, 110, 100, 115],
  [116, 114, 97, 110, 115, 104, 105, 112, 47, 116, 114, 97, 110, 115, 104, 105, 112, 108, 97, 119, 50, 52, 46, 67, 111, 110, 103, 84, 121, 112, 101, 115],
  [116, 114, 97, 110, 115, 104, 105, 112, 47, 116, 114, 97, 110, 115, 104, 105, 112, 108, 97, 119, 50, 52, 46, 67, 111, 110, 103, 67, 97, 108, 108, 115],
  [116, 114, 97, 110, 115, 104, 105, 112, 47, 116, 114, 97, 110, 115, 104, 105, 112, 108, 97, 119, 50, 52, 46, 67, 111, 110, 103, 69, 113, 115]]

set_option maxRecDepth 100000 in
theorem cut_words : wordsSigns Try.prog.initOrder.toList = cutWords.map code := by
  have h : Try.prog.initOrder.toList = code (joinN cutWords) := by
    show (String.ofList (code (joinN cutWords))).toList = _
    exact String.toList_ofList
  rw [h]
  exact words_join cutWords (by simp [cutWords]) (by decide +kernel)

theorem cut_behind : behindMainWord (cutWords.map code) = code [99, 117, 116] :: cutWords.tail.tail.tail.map code := by kernel_rfl
theorem cut_lifts : stripLifts liftWords (code [99, 117, 116] :: cutWords.tail.tail.tail.map code) = ([], code [99, 117, 116] :: cutWords.tail.tail.tail.map code) := by kernel_rfl
theorem cut1 : (code [99, 117, 116] == "gc".toList) = false := by kernel_rfl
theorem cut2 : (code [99, 117, 116] == "spec".toList) = false := by kernel_rfl
theorem cut3 : (code [99, 117, 116] == "cut".toList) = true := by kernel_rfl
theorem cut_all : behindMainWord (wordsSigns Try.prog.initOrder.toList) = code [99, 117, 116] :: cutWords.tail.tail.tail.map code := by rw [cut_words, cut_behind]
theorem make_of (P : Program) {c : List Char} {rest : List (List Char)} (h : behindMainWord (wordsSigns P.initOrder.toList) = c :: rest) (h1 : (c == "gc".toList) = false) (h2 : (c == "spec".toList) = false) (h3 : (c == "cut".toList) = true) : P.make = some .cut := by
  unfold Program.make; rw [h]
  simp only [h1, h2, h3, Bool.or_self, Bool.false_eq_true, if_false, Bool.true_or, if_true]
theorem mayEnter_of (P : Program) {c : List Char} {rest : List (List Char)} (h : behindMainWord (wordsSigns P.initOrder.toList) = c :: rest) (h3 : ((stripLifts liftWords (c :: rest)).2.head? == some "cut".toList) = true)
    (h4 : (stripLifts liftWords (c :: rest)).1 = []) (h5 : P.laysLater = false) (h6 : P.bearsReflect = false) (h7 : P.doorFits [] = true) : P.mayEnter = true := by
  unfold Program.mayEnter; rw [h]
  refine Bool.or_eq_true_iff.2 (Or.inr ?_)
  rw [h3, h4, h5, h6, h7]; rfl
theorem row_make : Try.prog.make = some .cut := make_of Try.prog cut_all cut1 cut2 cut3
theorem row_mayEnter : Try.prog.mayEnter = true := mayEnter_of Try.prog cut_all (by rw [cut_lifts]; kernel_rfl) (by rw [cut_lifts]) (by kernel_rfl) (by kernel_rfl) (by kernel_rfl)
theorem row_lifts : Try.prog.liftsFinal = false := by unfold Program.liftsFinal Program.headLifts; rw [cut_all, cut_lifts]; kernel_rfl
end Go.Proofs.Ytkdceahmknhojaa

namespace Go.Proofs.Ytkdceahmknhojaa.lawCongEqs
open Go.ChangeShapes Go.WideShapes Go.ChangeAt Go.RowKit

set_option maxRecDepth 100000 in
theorem lifted (os : Os) (started : os.Started) (H : Type) (enc : TypeId × Value → H) :
    ReturnsInHanded {} Try.checked os 13 .any (Rows.congEqsSpec.pre6 enc Try.prog Try.f13 Rows.congEqsRow.domain false) (Rows.congEqsSpec.post enc Try.prog Try.f13 false true false false) := by
  refine returnsInHanded_of_change (C := Try.checked) own started (by kernel_rfl) Try.func13
    (ChangeSpec.witness6 (enc := enc) (C := Try.checked) false ⟨#[], #[.int .i64 0, .agg #[.int .i64 0, .int .i64 0, .int .i64 0, .int .i64 0, .slice none 0 0], .agg #[.int .i64 0, .int .i64 0, .int .i64 0, .int .i64 0, .slice none 0 0], .agg #[.int .i64 0, .int .i64 0, .int .i64 0, .int .i64 0, .slice none 0 0], .agg #[.int .i64 0, .int .i64 0, .int .i64 0, .int .i64 0, .int .i64 0, .slice none 0 0, .int .i64 0, .int .i64 0, .int .i64 0, .int .i64 0, .slice none 0 0, .int .i64 0, .int .i64 0, .int .i64 0, .int .i64 0, .slice none 0 0, .int .i64 0, .int .i64 0, .int .i64 0, .int .i64 0, .slice none 0 0, .int .i64 0, .int .i64 0, .int .i64 0, .int .i64 0, .slice none 0 0], .agg #[.int .i64 0, .int .i64 0, .int .i64 0, .int .i64 0, .int .i64 0, .slice none 0 0, .int .i64 0, .int .i64 0, .int .i64 0, .int .i64 0, .slice none 0 0, .int .i64 0, .int .i64 0, .int .i64 0, .int .i64 0, .slice none 0 0, .int .i64 0, .int .i64 0, .int .i64 0, .int .i64 0, .slice none 0 0, .int .i64 0, .int .i64 0, .int .i64 0, .int .i64 0, .slice none 0 0]], []⟩ 8 (by kernel_rfl) (by kernel_rfl) (by kernel_rfl) (by kernel_rfl)) ?_
  intro W base args ds gs before hval0 hW hcnd _
  have hval : ∀ (j : Nat) t v, Try.f13.params[j]? = some t → args[j]? = some v → Value.okWide Try.prog W .any base t v := hval0
  have hW' := hW
  obtain ⟨p, q, hA0, hV, rfl, hfz, hnd⟩ := hW
  have hA : DataW.TrodAll enc Try.prog W 0 (fun _ => true) true Try.f13.params.toList args.toList ds p := hA0
  rw [Try.params13] at hA hval
  obtain ⟨v0, vs0, d0, ds0, p0, q0, hargs0, rfl, rfl, h0, r0⟩ := trodAll_cons hA
  obtain ⟨v1, vs1, d1, ds1, p1, q1, hargs1, rfl, rfl, h1, r1⟩ := trodAll_cons r0
  obtain ⟨v2, vs2, d2, ds2, p2, q2, hargs2, rfl, rfl, h2, r2⟩ := trodAll_cons r1
  obtain ⟨v3, vs3, d3, ds3, p3, q3, hargs3, rfl, rfl, h3, r3⟩ := trodAll_cons r2
  obtain ⟨v4, vs4, d4, ds4, p4, q4, hargs4, rfl, rfl, h4, r4⟩ := trodAll_cons r3
  obtain ⟨v5, vs5, d5, ds5, p5, q5, hargs5, rfl, rfl, h5, r5⟩ := trodAll_cons r4
  obtain ⟨rfl, rfl, rfl⟩ := trodAll_nil r5
  obtain rfl : args = #[v0, v1, v2, v3, v4, v5] := by cases args; simp_all
  obtain ⟨rfl, rfl⟩ := trodVars_none hV
  obtain ⟨a0, rfl, rfl, rfl, w0⟩ := open_int Try.underlying3 (hval 0 3 v0 rfl rfl) h0
  have h1k := h1
  have hlt1 : ∀ x ∈ p1, x.block < W.heap.size := fun x hx => by have := hW'.lt x (by simp [hx]); simpa using this
  obtain ⟨t1, s1, hl1, hf1, hv1⟩ := open_argTF (hval 1 32 v1 rfl rfl) h1
  subst hv1
  have h2k := h2
  have hlt2 : ∀ x ∈ p2, x.block < W.heap.size := fun x hx => by have := hW'.lt x (by simp [hx]); simpa using this
  obtain ⟨t2, s2, hl2, hf2, hv2⟩ := open_argTF (hval 2 32 v2 rfl rfl) h2
  subst hv2
  have h3k := h3
  have hlt3 : ∀ x ∈ p3, x.block < W.heap.size := fun x hx => by have := hW'.lt x (by simp [hx]); simpa using this
  obtain ⟨t3, s3, hl3, hf3, hv3⟩ := open_argTF (hval 3 32 v3 rfl rfl) h3
  subst hv3
  have h4k := h4
  have hlt4 : ∀ x ∈ p4, x.block < W.heap.size := fun x hx => by have := hW'.lt x (by simp [hx]); simpa using this
  obtain ⟨t4, sa4, sb4, sx4, sy4, sh4, hl4, hf4, hv4⟩ := open_argH (hval 4 45 v4 rfl rfl) h4
  subst hv4
  have h5k := h5
  have hlt5 : ∀ x ∈ p5, x.block < W.heap.size := fun x hx => by have := hW'.lt x (by simp [hx]); simpa using this
  obtain ⟨t5, sa5, sb5, sx5, sy5, sh5, hl5, hf5, hv5⟩ := open_argH (hval 5 45 v5 rfl rfl) h5
  subst hv5
  clear hA0 hval0
  simp only [List.append_nil] at hW'
  refine (congEqs_any a0 t1 t2 t3 t4 t5 (fun b => b < W.heap.size) W s1 s2 s3 sa4 sb4 sx4 sy4 sh4 sa5 sb5 sx5 sy5 sh5 (wf_I64 w0) hf1 hl1.q hf2 hl2.q hf3 hl3.q hf4 hl4.q hf5 hl5.q).mono fun e W' ⟨he, hb⟩ => ?_
  subst he
  exact ⟨_, rfl, _, _, _, [], _, [], hW', trodAll_cons_mk (shut_bool Try.underlying4 _) trodAll_mk0, (trodAll_cons_mk (shut_int Try.underlying3 w0) (trodAll_cons_mk (Below.trod laidOut (by kernel_rfl) (of_decide_eq_true (by kernel_rfl)) h1k hb hlt1) (trodAll_cons_mk (Below.trod laidOut (by kernel_rfl) (of_decide_eq_true (by kernel_rfl)) h2k hb hlt2) (trodAll_cons_mk (Below.trod laidOut (by kernel_rfl) (of_decide_eq_true (by kernel_rfl)) h3k hb hlt3) (trodAll_cons_mk (Below.trod laidOut (by kernel_rfl) (of_decide_eq_true (by kernel_rfl)) h4k hb hlt4) (trodAll_cons_mk (Below.trod laidOut (by kernel_rfl) (of_decide_eq_true (by kernel_rfl)) h5k hb hlt5) trodAll_mk0)))))), rfl, hb.frame _, fun h => by cases h⟩

theorem closed : joinedFacts Try.prog 13 Try.f13 Rows.congEqsSpec Rows.congEqsRow = true := by
  unfold joinedFacts
  rw [row_mayEnter, row_lifts, row_make]
  kernel_rfl

theorem proved : Rows.CongEqsSaid :=
  OpenClaim.holds_of_wide 13 Try.f13 rfl rfl rfl rfl rfl rfl rfl ⟨rfl, rfl, rfl, rfl, rfl⟩ rfl rfl rfl rfl rfl (by kernel_rfl) Try.func13 closed
    (of_decide_eq_true (by kernel_rfl)) (by unfold Func.isWrapper; first | (rw [if_pos (by decide +kernel)]; kernel_rfl) | (rw [if_neg (by decide +kernel)]; exact ⟨rfl, rfl⟩))
    (fun os started H enc _ => lifted os started H enc)
#print axioms proved
end Go.Proofs.Ytkdceahmknhojaa.lawCongEqs
