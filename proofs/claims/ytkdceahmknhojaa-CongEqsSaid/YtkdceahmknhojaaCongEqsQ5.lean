/-
  Facts and contracts that the proof of CongEqs uses.
-/
import Derived.Test.YtkdceahmknhojaaRows
import Derived.WalkKit
import Derived.Lib.Hide
import Derived.KernelRfl
import Derived.Deep.RegionWith
import Derived.Deep.RegionHeld3
import Derived.Deep.AppendLies
import Derived.Laws.Rows
import Derived.Laws.IdiomCopy
import Derived.Deep.Slices
import Derived.Lib.QuietBelow
import Derived.StillTailTactics
import Derived.BigQuiet
import Derived.IntWalk
import Derived.OwnWalk
import Derived.Deep.RegionLaw
import Derived.Deep.QuietTactic
import Derived.Deep.LoopGhost
import Derived.Deep.DeepCutAuto
import Derived.Deep.MidRow
import Derived.OrdersHeld
import Derived.Laws.Tables
import Derived.Laws.CopyOwn
import Derived.Laws.CopyRow
import Derived.Deep.Upon
import Derived.ArgAppend
import Derived.Deep.RegionHeld
import Derived.Lib.MinMax
import Derived.ProofKit
import Derived.OpenShut
import Derived.Carry
import Derived.ChangeSlices
import Derived.JoinedOf
import Derived.Test.YtkdceahmknhojaaCongEqsQ4
namespace Go.Proofs.Ytkdceahmknhojaa
open Go.RowKit

theorem w4_p (i : Int) (h : 0 ≤ i) (h2 : i ≤ 10) : (varT i).plainB = true := var_plain h (by omega)
theorem w4_F : fmR (⟨0, 0, sortT 0, sortT 0, sortT 0, sortT 0, varT 0, varT 1⟩ : Fm) = true := by
  unfold fmR plainL
  simp [sort_plain (i := 0) (by decide), var0_plain, w4_p 1 (by decide) (by decide), levN]
theorem w4_H : toldB (⟨0, (.mk 0 0 0 0 []), (.mk 0 0 0 0 []), varT 2, varT 3, varT 4⟩ : He) = true := by
  unfold toldB plainL
  simp [w4_p 2 (by decide) (by decide), w4_p 3 (by decide) (by decide), w4_p 4 (by decide) (by decide)]
theorem w4_fst : cgFst (⟨0, 0, sortT 0, sortT 0, sortT 0, sortT 0, varT 0, varT 1⟩ : Fm) (⟨0, (.mk 0 0 0 0 []), (.mk 0 0 0 0 []), varT 2, varT 3, varT 4⟩ : He) = (⟨0, sortT 0, sortT 0, nodeT 18 [varT 2], nodeT 18 [varT 3], sixT 18 (⟨0, 0, sortT 0, sortT 0, sortT 0, sortT 0, varT 0, varT 1⟩ : Fm) [varT 2, varT 3, varT 4]⟩ : He) := by
  unfold cgFst
  rw [if_pos (by rw [w4_F, w4_H]; rfl)]
theorem w4_pi : cgPi (⟨0, 0, sortT 0, sortT 0, sortT 0, sortT 0, varT 0, varT 1⟩ : Fm) = sixT 13 (⟨0, 0, sortT 0, sortT 0, sortT 0, sortT 0, varT 0, varT 1⟩ : Fm) [] := by unfold cgPi; rw [if_pos w4_F]
theorem w4_zero : cgPi (⟨0, 0, (.mk 0 0 0 0 []), (.mk 0 0 0 0 []), (.mk 0 0 0 0 []), (.mk 0 0 0 0 []), (.mk 0 0 0 0 []), (.mk 0 0 0 0 [])⟩ : Fm) = Tm.zero := by
  unfold cgPi fmR plainL
  rw [if_neg]
  have : (Tm.mk 0 0 0 0 []).plainB = false := zero_plain
  simp [this]

def wakes24r2_0 : Oper := { dst := some 10, op := Go.Op.load 72 (Go.Operand.tmp 1), type := 72, pos := "law.go:27", after := #[], guard := none }
def wakes24r2_1 : Oper := { dst := some 11, op := Go.Op.call { callee := Go.Callee.value (Go.Operand.func 123), args := #[Go.Operand.const (Go.Value.int Go.IntKind.i64 2)], argTypes := #[3] }, type := 32, pos := "law.go:27", after := #[], guard := none }
def wakes24r2_2 : Oper := { dst := some 12, op := Go.Op.call { callee := Go.Callee.value (Go.Operand.func 123), args := #[Go.Operand.const (Go.Value.int Go.IntKind.i64 3)], argTypes := #[3] }, type := 32, pos := "law.go:27", after := #[{ on := 1, ground := Go.Ground.chain }], guard := none }
def wakes24r2_3 : Oper := { dst := some 13, op := Go.Op.call { callee := Go.Callee.value (Go.Operand.func 123), args := #[Go.Operand.const (Go.Value.int Go.IntKind.i64 4)], argTypes := #[3] }, type := 32, pos := "law.go:27", after := #[{ on := 2, ground := Go.Ground.chain }], guard := none }
def wakes24r2_4 : Oper := { dst := some 14, op := Go.Op.build 51 #[(3, Go.Operand.tmp 11), (4, Go.Operand.tmp 12), (5, Go.Operand.tmp 13)], type := 51, pos := "law.go:27", after := #[{ on := 1, ground := Go.Ground.data }, { on := 2, ground := Go.Ground.data }, { on := 3, ground := Go.Ground.data }], guard := none }
def wakes24r2_5 : Oper := { dst := some 15, op := Go.Op.call { callee := Go.Callee.value (Go.Operand.func 68), args := #[Go.Operand.tmp 10, Go.Operand.tmp 14], argTypes := #[72, 51] }, type := 51, pos := "law.go:27", after := #[{ on := 0, ground := Go.Ground.data }, { on := 4, ground := Go.Ground.data }, { on := 3, ground := Go.Ground.chain }], guard := none }
def wakes24r2_6 : Oper := { dst := some 2, op := Go.Op.alloc 51, type := 0, pos := "law.go:27", after := #[], guard := none }
def wakes24r2_7 : Oper := { dst := none, op := Go.Op.store 51 (Go.Operand.tmp 2) (Go.Operand.tmp 15), type := 0, pos := "law.go:27", after := #[{ on := 6, ground := Go.Ground.data }, { on := 5, ground := Go.Ground.data }, { on := 5, ground := Go.Ground.chain }, { on := 0, ground := Go.Ground.phase }, { on := 1, ground := Go.Ground.phase }, { on := 2, ground := Go.Ground.phase }, { on := 3, ground := Go.Ground.phase }, { on := 4, ground := Go.Ground.phase }, { on := 5, ground := Go.Ground.phase }, { on := 6, ground := Go.Ground.phase }], guard := none }
set_option maxRecDepth 20000 in
set_option maxHeartbeats 4000000 in
theorem wakes24_any (w : World) : Calls Try.prog 62 #[] w fun e w' => e = .returned (.bool true) ∧ Kept w w' := by
  obtain ⟨dg, dg1, dg2⟩ := under_of 72 (by kernel_rfl)
  obtain ⟨dh, dh1, dh2⟩ := under_of 51 (by kernel_rfl)
  go_enter Try.func62, Try.ntmps62
  go_upto_region 1 with fail
  refine at_code (fun V0 hV0 => ?_)
  have k1 : Kept w V0 := by rw [← hV0]; exact kept_refl _
  have Z0 : Hid (V0.heap.size = w.heap.size + 0) := by show _ = _; rw [← hV0]; rfl
  clear hV0
  have Kk3 := Lib.hid k1
  clear k1
  have kvV0 : SeesN V0 V0.heap.size V0 := seesN_kept _ (kept_refl _)
  go_wp2_with fail
  clear kvV0
  refine (ls4_any 0 (Par w V0.heap.size [] (fun _ => False)) _ (show I64 0 from by unfold I64; decide)).mono ?_
  obtain ⟨U11, hU11⟩ : ∃ qu, sortT 0 = qu := ⟨_, rfl⟩
  rw [hU11]
  have HU11 := Lib.hid hU11
  clear hU11
  rintro e w4 ⟨s6, rfl, hl7, k5⟩
  obtain ⟨a8, c9, S10, rfl, -⟩ := hl7.out
  have Kk12 := Lib.hid k5
  clear k5
  have Hhl7 : Hid (LiesQ w4 (Par w V0.heap.size [] (fun _ => False)) U11.kids _) := par_give hl7 (Nat.le_refl _) (xlt_nil _)
  clear hl7
  have kvV0 : SeesN V0 V0.heap.size w4 := seesN_kept _ Kk12.out
  go_wp2_with fail
  clear kvV0
  refine (ls4_any 0 (Par w V0.heap.size [] (fun _ => False)) _ (show I64 0 from by unfold I64; decide)).mono ?_
  rw [HU11.out]
  rintro e w13 ⟨s15, rfl, hl16, k14⟩
  obtain ⟨a17, c18, S19, rfl, -⟩ := hl16.out
  have Kk20 := Lib.hid k14
  clear k14
  have Hhl16 : Hid (LiesQ w13 (Par w V0.heap.size [] (fun _ => False)) U11.kids _) := par_give hl16 (Below.size Kk12.out) (xlt_nil _)
  clear hl16
  have kvV0 : SeesN V0 V0.heap.size w13 := seesN_kept _ (kept_trans Kk12.out Kk20.out)
  go_wp2_with fail
  clear kvV0
  refine (ls4_any 0 (Par w V0.heap.size [] (fun _ => False)) _ (show I64 0 from by unfold I64; decide)).mono ?_
  rw [HU11.out]
  rintro e w21 ⟨s23, rfl, hl24, k22⟩
  obtain ⟨a25, c26, S27, rfl, -⟩ := hl24.out
  have Kk28 := Lib.hid k22
  clear k22
  have Hhl24 : Hid (LiesQ w21 (Par w V0.heap.size [] (fun _ => False)) U11.kids _) := par_give hl24 (Below.size (kept_trans Kk12.out Kk20.out)) (xlt_nil _)
  clear hl24
  have kvV0 : SeesN V0 V0.heap.size w21 := seesN_kept _ (kept_trans Kk12.out (kept_trans Kk20.out Kk28.out))
  go_wp2_with fail
  clear kvV0
  refine (ls4_any 0 (Par w V0.heap.size [] (fun _ => False)) _ (show I64 0 from by unfold I64; decide)).mono ?_
  rw [HU11.out]
  rintro e w29 ⟨s31, rfl, hl32, k30⟩
  obtain ⟨a33, c34, S35, rfl, -⟩ := hl32.out
  have Kk36 := Lib.hid k30
  clear k30
  have Hhl32 : Hid (LiesQ w29 (Par w V0.heap.size [] (fun _ => False)) U11.kids _) := par_give hl32 (Below.size (kept_trans Kk12.out (kept_trans Kk20.out Kk28.out))) (xlt_nil _)
  clear hl32
  have kvV0 : SeesN V0 V0.heap.size w29 := seesN_kept _ (kept_trans Kk12.out (kept_trans Kk20.out (kept_trans Kk28.out Kk36.out)))
  go_wp2_with fail
  clear kvV0
  refine (lv4_any 0 (Par w V0.heap.size [] (fun _ => False)) _ (show I64 0 from by unfold I64; decide)).mono ?_
  obtain ⟨U44, hU44⟩ : ∃ qu, varT 0 = qu := ⟨_, rfl⟩
  rw [hU44]
  have HU44 := Lib.hid hU44
  clear hU44
  rintro e w37 ⟨s39, rfl, hl40, k38⟩
  obtain ⟨a41, c42, S43, rfl, -⟩ := hl40.out
  have Kk45 := Lib.hid k38
  clear k38
  have Hhl40 : Hid (LiesQ w37 (Par w V0.heap.size [] (fun _ => False)) U44.kids _) := par_give hl40 (Below.size (kept_trans Kk12.out (kept_trans Kk20.out (kept_trans Kk28.out Kk36.out)))) (xlt_nil _)
  clear hl40
  have kvV0 : SeesN V0 V0.heap.size w37 := seesN_kept _ (kept_trans Kk12.out (kept_trans Kk20.out (kept_trans Kk28.out (kept_trans Kk36.out Kk45.out))))
  go_wp2_with fail
  clear kvV0
  refine (lv4_any 1 (Par w V0.heap.size [] (fun _ => False)) _ (show I64 1 from by unfold I64; decide)).mono ?_
  obtain ⟨U53, hU53⟩ : ∃ qu, varT 1 = qu := ⟨_, rfl⟩
  rw [hU53]
  have HU53 := Lib.hid hU53
  clear hU53
  rintro e w46 ⟨s48, rfl, hl49, k47⟩
  obtain ⟨a50, c51, S52, rfl, -⟩ := hl49.out
  have Kk54 := Lib.hid k47
  clear k47
  have Hhl49 : Hid (LiesQ w46 (Par w V0.heap.size [] (fun _ => False)) U53.kids _) := par_give hl49 (Below.size (kept_trans Kk12.out (kept_trans Kk20.out (kept_trans Kk28.out (kept_trans Kk36.out Kk45.out))))) (xlt_nil _)
  clear hl49
  have kvV0 : SeesN V0 V0.heap.size w46 := seesN_kept _ (kept_trans Kk12.out (kept_trans Kk20.out (kept_trans Kk28.out (kept_trans Kk36.out (kept_trans Kk45.out Kk54.out)))))
  go_wp2_with (refine stop_store 72 (.tmp 1) (.tmp 9) rfl ?_)
  intro _
  refine wpList_store_part_n (by rfl) 72 (.tmp 1) (.tmp 9) rfl (w46.heap.size) 0 #[.int .i64 0, .int .i64 0, .int .i64 U11.k, .int .i64 U11.i, .int .i64 U11.j, .int .i64 U11.n, (.slice a8 U11.kids.length c9), .int .i64 U11.k, .int .i64 U11.i, .int .i64 U11.j, .int .i64 U11.n, (.slice a17 U11.kids.length c18), .int .i64 U11.k, .int .i64 U11.i, .int .i64 U11.j, .int .i64 U11.n, (.slice a25 U11.kids.length c26), .int .i64 U11.k, .int .i64 U11.i, .int .i64 U11.j, .int .i64 U11.n, (.slice a33 U11.kids.length c34), .int .i64 U44.k, .int .i64 U44.i, .int .i64 U44.j, .int .i64 U44.n, (.slice a41 U44.kids.length c42), .int .i64 U53.k, .int .i64 U53.i, .int .i64 U53.j, .int .i64 U53.n, (.slice a50 U53.kids.length c51)] (by rfl) (by rfl) 72 (by kernel_rfl) (row_ok rfl) ?_
  intro W55 hW55
  clear kvV0
  obtain ⟨k58, x57, z59⟩ := alloc1 hW55
  have Kk60 := Lib.hid k58
  clear k58
  have Hx57 := Lib.hid x57
  have Hz59 := Lib.hid z59
  clear x57 z59 hW55
  have HG61 : Hid (V0.heap.size ≤ w46.heap.size) := (Below.size (kept_trans Kk12.out (kept_trans Kk20.out (kept_trans Kk28.out (kept_trans Kk36.out (kept_trans Kk45.out Kk54.out))))))
  have XL62 : Hid (XLt (w46.heap.size :: []) W55) := (xlt_more (xlt_nil _) Kk60.out (by have := Hz59.out; omega))
  refine ⟨_, #[.int .i64 0, .int .i64 0, .int .i64 U11.k, .int .i64 U11.i, .int .i64 U11.j, .int .i64 U11.n, (.slice a8 U11.kids.length c9), .int .i64 U11.k, .int .i64 U11.i, .int .i64 U11.j, .int .i64 U11.n, (.slice a17 U11.kids.length c18), .int .i64 U11.k, .int .i64 U11.i, .int .i64 U11.j, .int .i64 U11.n, (.slice a25 U11.kids.length c26), .int .i64 U11.k, .int .i64 U11.i, .int .i64 U11.j, .int .i64 U11.n, (.slice a33 U11.kids.length c34), .int .i64 U44.k, .int .i64 U44.i, .int .i64 U44.j, .int .i64 U44.n, (.slice a41 U44.kids.length c42), .int .i64 U53.k, .int .i64 U53.i, .int .i64 U53.j, .int .i64 U53.n, (.slice a50 U53.kids.length c51)], Hx57.out, rfl, Nat.le_of_ble_eq_true rfl, ?_⟩
  intro W56 hW56
  have KB63 := Lib.hid (kept_set (kept_trans Kk3.out (kept_trans Kk12.out (kept_trans Kk20.out (kept_trans Kk28.out (kept_trans Kk36.out (kept_trans Kk45.out (kept_trans Kk54.out Kk60.out))))))) hW56 (by have := HG61.out; have := Z0.out; omega))
  have KB64 := Lib.hid (kept_set (kept_trans Kk12.out (kept_trans Kk20.out (kept_trans Kk28.out (kept_trans Kk36.out (kept_trans Kk45.out (kept_trans Kk54.out Kk60.out)))))) hW56 HG61.out)
  have HL65 : Hid (LiesQ W56 (Par w V0.heap.size (w46.heap.size :: []) (fun _ => False)) U11.kids _) := par_set (par_grow Hhl7.out (kept_trans Kk20.out (kept_trans Kk28.out (kept_trans Kk36.out (kept_trans Kk45.out (kept_trans Kk54.out Kk60.out))))) (List.forall_mem_cons.2 ⟨(Or.inr (Nat.le_trans (Below.size (kept_trans Kk20.out (kept_trans Kk28.out (kept_trans Kk36.out (kept_trans Kk45.out Kk54.out))))) (Nat.le_refl w46.heap.size))), (fun _ h => nomatch h)⟩)) hW56 (List.mem_cons_self ..) (by have := HG61.out; have := Z0.out; omega)
  have HL66 : Hid (LiesQ W56 (Par w V0.heap.size (w46.heap.size :: []) (fun _ => False)) U11.kids _) := par_set (par_grow Hhl16.out (kept_trans Kk28.out (kept_trans Kk36.out (kept_trans Kk45.out (kept_trans Kk54.out Kk60.out)))) (List.forall_mem_cons.2 ⟨(Or.inr (Nat.le_trans (Below.size (kept_trans Kk28.out (kept_trans Kk36.out (kept_trans Kk45.out Kk54.out)))) (Nat.le_refl w46.heap.size))), (fun _ h => nomatch h)⟩)) hW56 (List.mem_cons_self ..) (by have := HG61.out; have := Z0.out; omega)
  have HL67 : Hid (LiesQ W56 (Par w V0.heap.size (w46.heap.size :: []) (fun _ => False)) U11.kids _) := par_set (par_grow Hhl24.out (kept_trans Kk36.out (kept_trans Kk45.out (kept_trans Kk54.out Kk60.out))) (List.forall_mem_cons.2 ⟨(Or.inr (Nat.le_trans (Below.size (kept_trans Kk36.out (kept_trans Kk45.out Kk54.out))) (Nat.le_refl w46.heap.size))), (fun _ h => nomatch h)⟩)) hW56 (List.mem_cons_self ..) (by have := HG61.out; have := Z0.out; omega)
  have HL68 : Hid (LiesQ W56 (Par w V0.heap.size (w46.heap.size :: []) (fun _ => False)) U11.kids _) := par_set (par_grow Hhl32.out (kept_trans Kk45.out (kept_trans Kk54.out Kk60.out)) (List.forall_mem_cons.2 ⟨(Or.inr (Nat.le_trans (Below.size (kept_trans Kk45.out Kk54.out)) (Nat.le_refl w46.heap.size))), (fun _ h => nomatch h)⟩)) hW56 (List.mem_cons_self ..) (by have := HG61.out; have := Z0.out; omega)
  have HL69 : Hid (LiesQ W56 (Par w V0.heap.size (w46.heap.size :: []) (fun _ => False)) U44.kids _) := par_set (par_grow Hhl40.out (kept_trans Kk54.out Kk60.out) (List.forall_mem_cons.2 ⟨(Or.inr (Nat.le_trans (Below.size Kk54.out) (Nat.le_refl w46.heap.size))), (fun _ h => nomatch h)⟩)) hW56 (List.mem_cons_self ..) (by have := HG61.out; have := Z0.out; omega)
  have HL70 : Hid (LiesQ W56 (Par w V0.heap.size (w46.heap.size :: []) (fun _ => False)) U53.kids _) := par_set (par_grow Hhl49.out Kk60.out (List.forall_mem_cons.2 ⟨(Or.inr (Nat.le_refl w46.heap.size)), (fun _ h => nomatch h)⟩)) hW56 (List.mem_cons_self ..) (by have := HG61.out; have := Z0.out; omega)
  have XL71 := Lib.hid (xlt_set XL62.out hW56)
  have HX72 := Lib.hid (blk_same Hx57.out hW56)
  clear hW56
  have kvV0 : SeesN V0 V0.heap.size W56 := seesN_kept _ KB64.out
  have kvW56 : SeesN W56 V0.heap.size W56 := seesN_kept _ (kept_refl _)
  go_wp2_with fail
  clear kvV0
  clear kvW56
  obtain ⟨W73, h74⟩ : ∃ x, World.drew W56 = x := ⟨_, rfl⟩
  have k75 : Kept W56 W73 := by rw [← h74]; exact kept_drew (kept_refl _)
  have Kk76 := Lib.hid k75
  clear k75
  refine wp_region_held_drew (S := SeesN W73 V0.heap.size) (by kernel_rfl) ?_ (fun hHeld => ?_)
  · (try dsimp only)
    rw [h74]
    exact seesN_kept _ (kept_refl _)
  rw [h74] at hHeld ⊢
  clear h74
  refine take_at 0 10 wakes24r2_0 (yields_part (w46.heap.size) 0 72 (.tmp 1) #[.int .i64 0, .int .i64 0, .int .i64 U11.k, .int .i64 U11.i, .int .i64 U11.j, .int .i64 U11.n, (.slice a8 U11.kids.length c9), .int .i64 U11.k, .int .i64 U11.i, .int .i64 U11.j, .int .i64 U11.n, (.slice a17 U11.kids.length c18), .int .i64 U11.k, .int .i64 U11.i, .int .i64 U11.j, .int .i64 U11.n, (.slice a25 U11.kids.length c26), .int .i64 U11.k, .int .i64 U11.i, .int .i64 U11.j, .int .i64 U11.n, (.slice a33 U11.kids.length c34), .int .i64 U44.k, .int .i64 U44.i, .int .i64 U44.j, .int .i64 U44.n, (.slice a41 U44.kids.length c42), .int .i64 U53.k, .int .i64 U53.i, .int .i64 U53.j, .int .i64 U53.n, (.slice a50 U53.kids.length c51)] dg (fun _ h => seesN_blk HX72.out trivial (seesN_of Kk76.out h)) (by rfl) rfl (by rfl) (by rfl) dg1 (by cases dg <;> first | rfl | exact dg2) (by kernel_rfl)) ?_
  (try simp only [Act.put, List.setIfInBounds_toArray, List.set_cons_zero, List.set_cons_succ])
  apply (via_joinTACTACTACHACACACACACC (K := fun W141 U88 a85 c86 U97 a94 c95 U106 a103 c104 U111 a122 c123 a125 c126 a128 c129 a131 c132 a134 c135 g145 => (Kept W73 W141) ∧ (varT 2 = U88) ∧ (varT 3 = U97) ∧ (varT 4 = U106) ∧ ((⟨0, sortT 0, sortT 0, nodeT 18 [varT 2], nodeT 18 [varT 3], sixT 18 (⟨0, 0, sortT 0, sortT 0, sortT 0, sortT 0, varT 0, varT 1⟩ : Fm) [varT 2, varT 3, varT 4]⟩ : He) = U111) ∧ (LiesQ W141 (Par w V0.heap.size (g145 :: (w46.heap.size :: [])) (fun _ => False)) U111.a.kids (.slice a122 U111.a.kids.length c123)) ∧ (LiesQ W141 (Par w V0.heap.size (g145 :: (w46.heap.size :: [])) (fun _ => False)) U111.b.kids (.slice a125 U111.b.kids.length c126)) ∧ (LiesQ W141 (Par w V0.heap.size (g145 :: (w46.heap.size :: [])) (fun _ => False)) U111.x.kids (.slice a128 U111.x.kids.length c129)) ∧ (LiesQ W141 (Par w V0.heap.size (g145 :: (w46.heap.size :: [])) (fun _ => False)) U111.y.kids (.slice a131 U111.y.kids.length c132)) ∧ (LiesQ W141 (Par w V0.heap.size (g145 :: (w46.heap.size :: [])) (fun _ => False)) U111.h.kids (.slice a134 U111.h.kids.length c135)) ∧ (W141.heap[g145]? = some (.cells #[.int .i64 0, .int .i64 0, .int .i64 0, .int .i64 0, .int .i64 0, .slice none 0 0, .int .i64 0, .int .i64 0, .int .i64 0, .int .i64 0, .slice none 0 0, .int .i64 0, .int .i64 0, .int .i64 0, .int .i64 0, .slice none 0 0, .int .i64 0, .int .i64 0, .int .i64 0, .int .i64 0, .slice none 0 0, .int .i64 0, .int .i64 0, .int .i64 0, .int .i64 0, .slice none 0 0] 51 (0, 0))) ∧ (V0.heap.size ≤ g145) ∧ (W73.heap.size ≤ g145) ∧ (W73.heap.size ≤ g145) ∧ (w46.heap.size ≠ g145) ∧ (XLt (g145 :: (w46.heap.size :: [])) W141)))
  intro HJj80
  apply (via_joinTACTACTACC (K := fun W155 U88 a85 c86 U97 a94 c95 U106 a103 c104 g159 => (Kept W73 W155) ∧ (varT 2 = U88) ∧ (varT 3 = U97) ∧ (varT 4 = U106) ∧ (LiesQ W155 (Par w V0.heap.size (g159 :: (w46.heap.size :: [])) (fun _ => False)) U88.kids (.slice a85 U88.kids.length c86)) ∧ (LiesQ W155 (Par w V0.heap.size (g159 :: (w46.heap.size :: [])) (fun _ => False)) U97.kids (.slice a94 U97.kids.length c95)) ∧ (LiesQ W155 (Par w V0.heap.size (g159 :: (w46.heap.size :: [])) (fun _ => False)) U106.kids (.slice a103 U106.kids.length c104)) ∧ (W155.heap[g159]? = some (.cells #[.int .i64 0, .int .i64 0, .int .i64 0, .int .i64 0, .int .i64 0, .slice none 0 0, .int .i64 0, .int .i64 0, .int .i64 0, .int .i64 0, .slice none 0 0, .int .i64 0, .int .i64 0, .int .i64 0, .int .i64 0, .slice none 0 0, .int .i64 0, .int .i64 0, .int .i64 0, .int .i64 0, .slice none 0 0, .int .i64 0, .int .i64 0, .int .i64 0, .int .i64 0, .slice none 0 0] 51 (0, 0))) ∧ (V0.heap.size ≤ g159) ∧ (W73.heap.size ≤ g159) ∧ (W73.heap.size ≤ g159) ∧ (w46.heap.size ≠ g159) ∧ (XLt (g159 :: (w46.heap.size :: [])) W155)))
  intro HJj79
  apply (via_joinTACTACC (K := fun W171 U88 a85 c86 U97 a94 c95 g175 => (Kept W73 W171) ∧ (varT 2 = U88) ∧ (varT 3 = U97) ∧ (LiesQ W171 (Par w V0.heap.size (g175 :: (w46.heap.size :: [])) (fun _ => False)) U88.kids (.slice a85 U88.kids.length c86)) ∧ (LiesQ W171 (Par w V0.heap.size (g175 :: (w46.heap.size :: [])) (fun _ => False)) U97.kids (.slice a94 U97.kids.length c95)) ∧ (W171.heap[g175]? = some (.cells #[.int .i64 0, .int .i64 0, .int .i64 0, .int .i64 0, .int .i64 0, .slice none 0 0, .int .i64 0, .int .i64 0, .int .i64 0, .int .i64 0, .slice none 0 0, .int .i64 0, .int .i64 0, .int .i64 0, .int .i64 0, .slice none 0 0, .int .i64 0, .int .i64 0, .int .i64 0, .int .i64 0, .slice none 0 0, .int .i64 0, .int .i64 0, .int .i64 0, .int .i64 0, .slice none 0 0] 51 (0, 0))) ∧ (V0.heap.size ≤ g175) ∧ (W73.heap.size ≤ g175) ∧ (W73.heap.size ≤ g175) ∧ (w46.heap.size ≠ g175) ∧ (XLt (g175 :: (w46.heap.size :: [])) W171)))
  intro HJj78
  apply (via_joinTACC (K := fun W186 U88 a85 c86 g190 => (Kept W73 W186) ∧ (varT 2 = U88) ∧ (LiesQ W186 (Par w V0.heap.size (g190 :: (w46.heap.size :: [])) (fun _ => False)) U88.kids (.slice a85 U88.kids.length c86)) ∧ (W186.heap[g190]? = some (.cells #[.int .i64 0, .int .i64 0, .int .i64 0, .int .i64 0, .int .i64 0, .slice none 0 0, .int .i64 0, .int .i64 0, .int .i64 0, .int .i64 0, .slice none 0 0, .int .i64 0, .int .i64 0, .int .i64 0, .int .i64 0, .slice none 0 0, .int .i64 0, .int .i64 0, .int .i64 0, .int .i64 0, .slice none 0 0, .int .i64 0, .int .i64 0, .int .i64 0, .int .i64 0, .slice none 0 0] 51 (0, 0))) ∧ (V0.heap.size ≤ g190) ∧ (W73.heap.size ≤ g190) ∧ (W73.heap.size ≤ g190) ∧ (w46.heap.size ≠ g190) ∧ (XLt (g190 :: (w46.heap.size :: [])) W186)))
  intro HJj77
  · refine wpAnyH_ready (rs := [1, 6]) (by kernel_rfl) (by simp) ?_
    refine AllReadyH.cons (o := wakes24r2_1) rfl (fun K hK => ?_) ?_
    · unfold wakes24r2_1
      go_simp
      refine (lv4_any 2 (Par w V0.heap.size (w46.heap.size :: []) (fun _ => False)) _ (show I64 2 from by unfold I64; decide)).mono ?_
      obtain ⟨U88, hU88⟩ : ∃ qu, varT 2 = qu := ⟨_, rfl⟩
      rw [hU88]
      have HU88 := Lib.hid hU88
      clear hU88
      rintro e w81 ⟨s83, rfl, hl84, k82⟩
      obtain ⟨a85, c86, S87, rfl, -⟩ := hl84.out
      have Kk89 := Lib.hid k82
      clear k82
      have Hhl84 : Hid (LiesQ w81 (Par w V0.heap.size (w46.heap.size :: []) (fun _ => False)) U88.kids _) := par_give hl84 (Below.size (kept_trans KB64.out Kk76.out)) (xlt_later XL71.out Kk76.out)
      clear hl84
      (try clear hHeld)
      refine hK.out _ _ (seesN_kept _ Kk89.out) (fun hHeld => ?_)
      clear hK K
      (try simp only [Act.put, List.setIfInBounds_toArray, List.set_cons_zero, List.set_cons_succ])
      refine wpAnyH_ready (rs := [2, 6]) (by kernel_rfl) (by simp) ?_
      refine AllReadyH.cons (o := wakes24r2_2) rfl (fun K hK => ?_) ?_
      · unfold wakes24r2_2
        go_simp
        refine (lv4_any 3 (Par w V0.heap.size (w46.heap.size :: []) (fun _ => False)) _ (show I64 3 from by unfold I64; decide)).mono ?_
        obtain ⟨U97, hU97⟩ : ∃ qu, varT 3 = qu := ⟨_, rfl⟩
        rw [hU97]
        have HU97 := Lib.hid hU97
        clear hU97
        rintro e w90 ⟨s92, rfl, hl93, k91⟩
        obtain ⟨a94, c95, S96, rfl, -⟩ := hl93.out
        have Kk98 := Lib.hid k91
        clear k91
        have Hhl93 : Hid (LiesQ w90 (Par w V0.heap.size (w46.heap.size :: []) (fun _ => False)) U97.kids _) := par_give hl93 (Below.size (kept_trans KB64.out (kept_trans Kk76.out Kk89.out))) (xlt_later XL71.out (kept_trans Kk76.out Kk89.out))
        clear hl93
        (try clear hHeld)
        refine hK.out _ _ (seesN_kept _ (kept_trans Kk89.out Kk98.out)) (fun hHeld => ?_)
        clear hK K
        (try simp only [Act.put, List.setIfInBounds_toArray, List.set_cons_zero, List.set_cons_succ])
        refine wpAnyH_ready (rs := [3, 6]) (by kernel_rfl) (by simp) ?_
        refine AllReadyH.cons (o := wakes24r2_3) rfl (fun K hK => ?_) ?_
        · unfold wakes24r2_3
          go_simp
          refine (lv4_any 4 (Par w V0.heap.size (w46.heap.size :: []) (fun _ => False)) _ (show I64 4 from by unfold I64; decide)).mono ?_
          obtain ⟨U106, hU106⟩ : ∃ qu, varT 4 = qu := ⟨_, rfl⟩
          rw [hU106]
          have HU106 := Lib.hid hU106
          clear hU106
          rintro e w99 ⟨s101, rfl, hl102, k100⟩
          obtain ⟨a103, c104, S105, rfl, -⟩ := hl102.out
          have Kk107 := Lib.hid k100
          clear k100
          have Hhl102 : Hid (LiesQ w99 (Par w V0.heap.size (w46.heap.size :: []) (fun _ => False)) U106.kids _) := par_give hl102 (Below.size (kept_trans KB64.out (kept_trans Kk76.out (kept_trans Kk89.out Kk98.out)))) (xlt_later XL71.out (kept_trans Kk76.out (kept_trans Kk89.out Kk98.out)))
          clear hl102
          (try clear hHeld)
          refine hK.out _ _ (seesN_kept _ (kept_trans Kk89.out (kept_trans Kk98.out Kk107.out))) (fun hHeld => ?_)
          clear hK K
          (try simp only [Act.put, List.setIfInBounds_toArray, List.set_cons_zero, List.set_cons_succ])
          refine take_at 4 14 wakes24r2_4 (v := ?_) (Or.inl ⟨by rfl, ?_⟩) ?_
          rotate_left 1
          · ((intro w hSw; (try dsimp only at hSw); unfold wakes24r2_4; go_simp) <;> with_reducible rfl)
          (try simp only [Act.put, List.setIfInBounds_toArray, List.set_cons_zero, List.set_cons_succ])
          refine wpAnyH_ready (rs := [5, 6]) (by kernel_rfl) (by simp) ?_
          refine AllReadyH.cons (o := wakes24r2_5) rfl (fun K hK => ?_) ?_
          · unfold wakes24r2_5
            go_simp
            have hq110 := cFst_any (⟨0, (.mk 0 0 0 0 []), (.mk 0 0 0 0 []), U88, U97, U106⟩ : He) (⟨0, 0, U11, U11, U11, U11, U44, U53⟩ : Fm) (Par w V0.heap.size (w46.heap.size :: []) (fun _ => False)) w99 (.slice a8 U11.kids.length c9) (.slice a17 U11.kids.length c18) (.slice a25 U11.kids.length c26) (.slice a33 U11.kids.length c34) (.slice a41 U44.kids.length c42) (.slice a50 U53.kids.length c51) (.slice none 0 0) (.slice none 0 0) (.slice a85 U88.kids.length c86) (.slice a94 U97.kids.length c95) (.slice a103 U106.kids.length c104) (show Fm.fine (⟨0, 0, U11, U11, U11, U11, U44, U53⟩ : Fm) from ⟨(show I64 0 from by unfold I64; decide), (show I64 0 from by unfold I64; decide), (by rw [← HU11.out]; exact (sort_fine (show I64 0 from by unfold I64; decide))), (by rw [← HU11.out]; exact (sort_fine (show I64 0 from by unfold I64; decide))), (by rw [← HU11.out]; exact (sort_fine (show I64 0 from by unfold I64; decide))), (by rw [← HU11.out]; exact (sort_fine (show I64 0 from by unfold I64; decide))), (by rw [← HU44.out]; exact (var_fine (show I64 0 from by unfold I64; decide))), (by rw [← HU53.out]; exact (var_fine (show I64 1 from by unfold I64; decide)))⟩) ⟨(HL65.out.later (kept_trans Kk76.out (kept_trans Kk89.out (kept_trans Kk98.out Kk107.out)))), (HL66.out.later (kept_trans Kk76.out (kept_trans Kk89.out (kept_trans Kk98.out Kk107.out)))), (HL67.out.later (kept_trans Kk76.out (kept_trans Kk89.out (kept_trans Kk98.out Kk107.out)))), (HL68.out.later (kept_trans Kk76.out (kept_trans Kk89.out (kept_trans Kk98.out Kk107.out)))), (HL69.out.later (kept_trans Kk76.out (kept_trans Kk89.out (kept_trans Kk98.out Kk107.out)))), (HL70.out.later (kept_trans Kk76.out (kept_trans Kk89.out (kept_trans Kk98.out Kk107.out))))⟩ (show He.fine (⟨0, (.mk 0 0 0 0 []), (.mk 0 0 0 0 []), U88, U97, U106⟩ : He) from ⟨(show I64 0 from by unfold I64; decide), (mk_fine (show I64 0 from by unfold I64; decide) (show I64 0 from by unfold I64; decide) (show I64 0 from by unfold I64; decide) (show I64 0 from by unfold I64; decide)), (mk_fine (show I64 0 from by unfold I64; decide) (show I64 0 from by unfold I64; decide) (show I64 0 from by unfold I64; decide) (show I64 0 from by unfold I64; decide)), (by rw [← HU88.out]; exact (var_fine (show I64 2 from by unfold I64; decide))), (by rw [← HU97.out]; exact (var_fine (show I64 3 from by unfold I64; decide))), (by rw [← HU106.out]; exact (var_fine (show I64 4 from by unfold I64; decide)))⟩) ⟨(liesQ_nil w99 (Par w V0.heap.size (w46.heap.size :: []) (fun _ => False))), (liesQ_nil w99 (Par w V0.heap.size (w46.heap.size :: []) (fun _ => False))), (Hhl84.out.later (kept_trans Kk98.out Kk107.out)), (Hhl93.out.later Kk107.out), Hhl102.out⟩
            rw [show cgFst (⟨0, 0, U11, U11, U11, U11, U44, U53⟩ : Fm) (⟨0, (.mk 0 0 0 0 []), (.mk 0 0 0 0 []), U88, U97, U106⟩ : He) = (⟨0, sortT 0, sortT 0, nodeT 18 [varT 2], nodeT 18 [varT 3], sixT 18 (⟨0, 0, sortT 0, sortT 0, sortT 0, sortT 0, varT 0, varT 1⟩ : Fm) [varT 2, varT 3, varT 4]⟩ : He) from by rw [← HU11.out, ← HU44.out, ← HU53.out, ← HU88.out, ← HU97.out, ← HU106.out]; exact w4_fst] at hq110
            refine hq110.mono ?_
            clear hq110
            obtain ⟨U111, hU111⟩ : ∃ qu, (⟨0, sortT 0, sortT 0, nodeT 18 [varT 2], nodeT 18 [varT 3], sixT 18 (⟨0, 0, sortT 0, sortT 0, sortT 0, sortT 0, varT 0, varT 1⟩ : Fm) [varT 2, varT 3, varT 4]⟩ : He) = qu := ⟨_, rfl⟩
            rw [hU111]
            have HU111 := Lib.hid hU111
            clear hU111
            rintro e w108 ⟨s112, s113, s114, s115, s116, rfl, ⟨hl117, hl118, hl119, hl120, hl121⟩, k109⟩
            obtain ⟨a122, c123, S124, rfl, -⟩ := hl117.out
            obtain ⟨a125, c126, S127, rfl, -⟩ := hl118.out
            obtain ⟨a128, c129, S130, rfl, -⟩ := hl119.out
            obtain ⟨a131, c132, S133, rfl, -⟩ := hl120.out
            obtain ⟨a134, c135, S136, rfl, -⟩ := hl121.out
            have Kk137 := Lib.hid k109
            clear k109
            have Hhl117 : Hid (LiesQ w108 (Par w V0.heap.size (w46.heap.size :: []) (fun _ => False)) U111.a.kids _) := par_give hl117 (Below.size (kept_trans KB64.out (kept_trans Kk76.out (kept_trans Kk89.out (kept_trans Kk98.out Kk107.out))))) (xlt_later XL71.out (kept_trans Kk76.out (kept_trans Kk89.out (kept_trans Kk98.out Kk107.out))))
            have Hhl118 : Hid (LiesQ w108 (Par w V0.heap.size (w46.heap.size :: []) (fun _ => False)) U111.b.kids _) := par_give hl118 (Below.size (kept_trans KB64.out (kept_trans Kk76.out (kept_trans Kk89.out (kept_trans Kk98.out Kk107.out))))) (xlt_later XL71.out (kept_trans Kk76.out (kept_trans Kk89.out (kept_trans Kk98.out Kk107.out))))
            have Hhl119 : Hid (LiesQ w108 (Par w V0.heap.size (w46.heap.size :: []) (fun _ => False)) U111.x.kids _) := par_give hl119 (Below.size (kept_trans KB64.out (kept_trans Kk76.out (kept_trans Kk89.out (kept_trans Kk98.out Kk107.out))))) (xlt_later XL71.out (kept_trans Kk76.out (kept_trans Kk89.out (kept_trans Kk98.out Kk107.out))))
            have Hhl120 : Hid (LiesQ w108 (Par w V0.heap.size (w46.heap.size :: []) (fun _ => False)) U111.y.kids _) := par_give hl120 (Below.size (kept_trans KB64.out (kept_trans Kk76.out (kept_trans Kk89.out (kept_trans Kk98.out Kk107.out))))) (xlt_later XL71.out (kept_trans Kk76.out (kept_trans Kk89.out (kept_trans Kk98.out Kk107.out))))
            have Hhl121 : Hid (LiesQ w108 (Par w V0.heap.size (w46.heap.size :: []) (fun _ => False)) U111.h.kids _) := par_give hl121 (Below.size (kept_trans KB64.out (kept_trans Kk76.out (kept_trans Kk89.out (kept_trans Kk98.out Kk107.out))))) (xlt_later XL71.out (kept_trans Kk76.out (kept_trans Kk89.out (kept_trans Kk98.out Kk107.out))))
            clear hl117 hl118 hl119 hl120 hl121
            have kf138 : (U111.x.k == 18) = true := by rw [← HU111.out]; first | rfl | decide
            have kf139 : (U111.h.n == 18) = true := by rw [← HU111.out]; first | rfl | decide
            have kf140 : ((U111.h.kids.length : Int) == 9) = true := by rw [← HU111.out]; first | rfl | decide
            (try clear hHeld)
            refine hK.out _ _ (seesN_kept _ (kept_trans Kk89.out (kept_trans Kk98.out (kept_trans Kk107.out Kk137.out)))) (fun hHeld => ?_)
            clear hK K
            (try simp only [Act.put, List.setIfInBounds_toArray, List.set_cons_zero, List.set_cons_succ])
            refine wpAnyH_ready (rs := [6]) (by kernel_rfl) (by simp) ?_
            refine AllReadyH.cons (o := wakes24r2_6) rfl (fun K hK => ?_) ?_
            · unfold wakes24r2_6
              go_simp
              refine at_K (fun W141 hW141 => ?_)
              obtain ⟨g145, hg146, Kk143, Hx142, Hz144, KV147, HN148⟩ := alloc1v (kept_trans KB64.out (kept_trans Kk76.out (kept_trans Kk89.out (kept_trans Kk98.out (kept_trans Kk107.out Kk137.out))))) hW141
              rw [hg146]
              clear hW141
              have HG149 : Hid (V0.heap.size ≤ g145) := (by show _ ≤ _; rw [← hg146]; exact (Below.size (kept_trans KB64.out (kept_trans Kk76.out (kept_trans Kk89.out (kept_trans Kk98.out (kept_trans Kk107.out Kk137.out)))))))
              have AP150 : Hid (w46.heap.size < g145) := (by show _ < _; rw [← hg146]; exact block_lt (blk_at HX72.out (kept_trans Kk76.out (kept_trans Kk89.out (kept_trans Kk98.out (kept_trans Kk107.out Kk137.out))))))
              have XL151 : Hid (XLt (g145 :: (w46.heap.size :: [])) W141) := (by show XLt _ _; rw [← hg146]; exact xlt_more (xlt_later XL71.out (kept_trans Kk76.out (kept_trans Kk89.out (kept_trans Kk98.out (kept_trans Kk107.out Kk137.out))))) Kk143.out (by have := Hz144.out; omega))
              have HP152 : Hid (w108.heap.size ≤ g145) := (by show _ ≤ _; rw [← hg146]; exact Nat.le_refl _)
              have HD153 : Hid (W73.heap.size ≤ g145) := (by show _ ≤ _; rw [← hg146]; exact Below.size (kept_trans Kk89.out (kept_trans Kk98.out (kept_trans Kk107.out Kk137.out))))
              clear hg146
              (try clear hHeld)
              refine hK.out _ _ (seesN_kept _ (kept_trans Kk89.out (kept_trans Kk98.out (kept_trans Kk107.out (kept_trans Kk137.out Kk143.out))))) (fun hHeld => ?_)
              clear hK K
              (try simp only [Act.put, List.setIfInBounds_toArray, List.set_cons_zero, List.set_cons_succ])
              have pg154 : ∀ (l : List Tm) (s : Value), LiesQ w108 (Par w V0.heap.size (w46.heap.size :: []) (fun _ => False)) l s → LiesQ W141 (Par w V0.heap.size (g145 :: (w46.heap.size :: [])) (fun _ => False)) l s := fun _ _ h => par_grow h Kk143.out (List.forall_mem_cons.2 ⟨(Or.inr HP152.out), (List.forall_mem_cons.2 ⟨(Or.inl (List.mem_cons_self ..)), (fun _ h => nomatch h)⟩)⟩)
              exact HJj80 W141 U88 a85 c86 U97 a94 c95 U106 a103 c104 U111 a122 c123 a125 c126 a128 c129 a131 c132 a134 c135 g145 ⟨(kept_trans Kk89.out (kept_trans Kk98.out (kept_trans Kk107.out (kept_trans Kk137.out Kk143.out)))), HU88.out, HU97.out, HU106.out, HU111.out, (pg154 _ _ Hhl117.out), (pg154 _ _ Hhl118.out), (pg154 _ _ Hhl119.out), (pg154 _ _ Hhl120.out), (pg154 _ _ Hhl121.out), Hx142.out, HG149.out, (Nat.le_trans (Below.size (kept_trans Kk89.out (kept_trans Kk98.out (kept_trans Kk107.out Kk137.out)))) HP152.out), HD153.out, (by have := AP150.out; omega), XL151.out⟩
            exact AllReadyH.nil
          refine AllReadyH.cons (o := wakes24r2_6) rfl (fun K hK => ?_) ?_
          · unfold wakes24r2_6
            go_simp
            refine at_K (fun W155 hW155 => ?_)
            obtain ⟨g159, hg160, Kk157, Hx156, Hz158, KV161, HN162⟩ := alloc1v (kept_trans KB64.out (kept_trans Kk76.out (kept_trans Kk89.out (kept_trans Kk98.out Kk107.out)))) hW155
            rw [hg160]
            clear hW155
            have HG163 : Hid (V0.heap.size ≤ g159) := (by show _ ≤ _; rw [← hg160]; exact (Below.size (kept_trans KB64.out (kept_trans Kk76.out (kept_trans Kk89.out (kept_trans Kk98.out Kk107.out))))))
            have AP164 : Hid (w46.heap.size < g159) := (by show _ < _; rw [← hg160]; exact block_lt (blk_at HX72.out (kept_trans Kk76.out (kept_trans Kk89.out (kept_trans Kk98.out Kk107.out)))))
            have XL165 : Hid (XLt (g159 :: (w46.heap.size :: [])) W155) := (by show XLt _ _; rw [← hg160]; exact xlt_more (xlt_later XL71.out (kept_trans Kk76.out (kept_trans Kk89.out (kept_trans Kk98.out Kk107.out)))) Kk157.out (by have := Hz158.out; omega))
            have HP166 : Hid (w99.heap.size ≤ g159) := (by show _ ≤ _; rw [← hg160]; exact Nat.le_refl _)
            have HD167 : Hid (W73.heap.size ≤ g159) := (by show _ ≤ _; rw [← hg160]; exact Below.size (kept_trans Kk89.out (kept_trans Kk98.out Kk107.out)))
            clear hg160
            (try clear hHeld)
            refine hK.out _ _ (seesN_kept _ (kept_trans Kk89.out (kept_trans Kk98.out (kept_trans Kk107.out Kk157.out)))) (fun hHeld => ?_)
            clear hK K
            (try simp only [Act.put, List.setIfInBounds_toArray, List.set_cons_zero, List.set_cons_succ])
            have pg168 : ∀ (l : List Tm) (s : Value), LiesQ w81 (Par w V0.heap.size (w46.heap.size :: []) (fun _ => False)) l s → LiesQ W155 (Par w V0.heap.size (g159 :: (w46.heap.size :: [])) (fun _ => False)) l s := fun _ _ h => par_grow h (kept_trans Kk98.out (kept_trans Kk107.out Kk157.out)) (List.forall_mem_cons.2 ⟨(Or.inr (Nat.le_trans (Below.size (kept_trans Kk98.out Kk107.out)) HP166.out)), (List.forall_mem_cons.2 ⟨(Or.inl (List.mem_cons_self ..)), (fun _ h => nomatch h)⟩)⟩)
            have pg169 : ∀ (l : List Tm) (s : Value), LiesQ w90 (Par w V0.heap.size (w46.heap.size :: []) (fun _ => False)) l s → LiesQ W155 (Par w V0.heap.size (g159 :: (w46.heap.size :: [])) (fun _ => False)) l s := fun _ _ h => par_grow h (kept_trans Kk107.out Kk157.out) (List.forall_mem_cons.2 ⟨(Or.inr (Nat.le_trans (Below.size Kk107.out) HP166.out)), (List.forall_mem_cons.2 ⟨(Or.inl (List.mem_cons_self ..)), (fun _ h => nomatch h)⟩)⟩)
            have pg170 : ∀ (l : List Tm) (s : Value), LiesQ w99 (Par w V0.heap.size (w46.heap.size :: []) (fun _ => False)) l s → LiesQ W155 (Par w V0.heap.size (g159 :: (w46.heap.size :: [])) (fun _ => False)) l s := fun _ _ h => par_grow h Kk157.out (List.forall_mem_cons.2 ⟨(Or.inr HP166.out), (List.forall_mem_cons.2 ⟨(Or.inl (List.mem_cons_self ..)), (fun _ h => nomatch h)⟩)⟩)
            exact HJj79 W155 U88 a85 c86 U97 a94 c95 U106 a103 c104 g159 ⟨(kept_trans Kk89.out (kept_trans Kk98.out (kept_trans Kk107.out Kk157.out))), HU88.out, HU97.out, HU106.out, (pg168 _ _ Hhl84.out), (pg169 _ _ Hhl93.out), (pg170 _ _ Hhl102.out), Hx156.out, HG163.out, (Nat.le_trans (Below.size (kept_trans Kk89.out (kept_trans Kk98.out Kk107.out))) HP166.out), HD167.out, (by have := AP164.out; omega), XL165.out⟩
          exact AllReadyH.nil
        refine AllReadyH.cons (o := wakes24r2_6) rfl (fun K hK => ?_) ?_
        · unfold wakes24r2_6
          go_simp
          refine at_K (fun W171 hW171 => ?_)
          obtain ⟨g175, hg176, Kk173, Hx172, Hz174, KV177, HN178⟩ := alloc1v (kept_trans KB64.out (kept_trans Kk76.out (kept_trans Kk89.out Kk98.out))) hW171
          rw [hg176]
          clear hW171
          have HG179 : Hid (V0.heap.size ≤ g175) := (by show _ ≤ _; rw [← hg176]; exact (Below.size (kept_trans KB64.out (kept_trans Kk76.out (kept_trans Kk89.out Kk98.out)))))
          have AP180 : Hid (w46.heap.size < g175) := (by show _ < _; rw [← hg176]; exact block_lt (blk_at HX72.out (kept_trans Kk76.out (kept_trans Kk89.out Kk98.out))))
          have XL181 : Hid (XLt (g175 :: (w46.heap.size :: [])) W171) := (by show XLt _ _; rw [← hg176]; exact xlt_more (xlt_later XL71.out (kept_trans Kk76.out (kept_trans Kk89.out Kk98.out))) Kk173.out (by have := Hz174.out; omega))
          have HP182 : Hid (w90.heap.size ≤ g175) := (by show _ ≤ _; rw [← hg176]; exact Nat.le_refl _)
          have HD183 : Hid (W73.heap.size ≤ g175) := (by show _ ≤ _; rw [← hg176]; exact Below.size (kept_trans Kk89.out Kk98.out))
          clear hg176
          (try clear hHeld)
          refine hK.out _ _ (seesN_kept _ (kept_trans Kk89.out (kept_trans Kk98.out Kk173.out))) (fun hHeld => ?_)
          clear hK K
          (try simp only [Act.put, List.setIfInBounds_toArray, List.set_cons_zero, List.set_cons_succ])
          have pg184 : ∀ (l : List Tm) (s : Value), LiesQ w81 (Par w V0.heap.size (w46.heap.size :: []) (fun _ => False)) l s → LiesQ W171 (Par w V0.heap.size (g175 :: (w46.heap.size :: [])) (fun _ => False)) l s := fun _ _ h => par_grow h (kept_trans Kk98.out Kk173.out) (List.forall_mem_cons.2 ⟨(Or.inr (Nat.le_trans (Below.size Kk98.out) HP182.out)), (List.forall_mem_cons.2 ⟨(Or.inl (List.mem_cons_self ..)), (fun _ h => nomatch h)⟩)⟩)
          have pg185 : ∀ (l : List Tm) (s : Value), LiesQ w90 (Par w V0.heap.size (w46.heap.size :: []) (fun _ => False)) l s → LiesQ W171 (Par w V0.heap.size (g175 :: (w46.heap.size :: [])) (fun _ => False)) l s := fun _ _ h => par_grow h Kk173.out (List.forall_mem_cons.2 ⟨(Or.inr HP182.out), (List.forall_mem_cons.2 ⟨(Or.inl (List.mem_cons_self ..)), (fun _ h => nomatch h)⟩)⟩)
          exact HJj78 W171 U88 a85 c86 U97 a94 c95 g175 ⟨(kept_trans Kk89.out (kept_trans Kk98.out Kk173.out)), HU88.out, HU97.out, (pg184 _ _ Hhl84.out), (pg185 _ _ Hhl93.out), Hx172.out, HG179.out, (Nat.le_trans (Below.size (kept_trans Kk89.out Kk98.out)) HP182.out), HD183.out, (by have := AP180.out; omega), XL181.out⟩
        exact AllReadyH.nil
      refine AllReadyH.cons (o := wakes24r2_6) rfl (fun K hK => ?_) ?_
      · unfold wakes24r2_6
        go_simp
        refine at_K (fun W186 hW186 => ?_)
        obtain ⟨g190, hg191, Kk188, Hx187, Hz189, KV192, HN193⟩ := alloc1v (kept_trans KB64.out (kept_trans Kk76.out Kk89.out)) hW186
        rw [hg191]
        clear hW186
        have HG194 : Hid (V0.heap.size ≤ g190) := (by show _ ≤ _; rw [← hg191]; exact (Below.size (kept_trans KB64.out (kept_trans Kk76.out Kk89.out))))
        have AP195 : Hid (w46.heap.size < g190) := (by show _ < _; rw [← hg191]; exact block_lt (blk_at HX72.out (kept_trans Kk76.out Kk89.out)))
        have XL196 : Hid (XLt (g190 :: (w46.heap.size :: [])) W186) := (by show XLt _ _; rw [← hg191]; exact xlt_more (xlt_later XL71.out (kept_trans Kk76.out Kk89.out)) Kk188.out (by have := Hz189.out; omega))
        have HP197 : Hid (w81.heap.size ≤ g190) := (by show _ ≤ _; rw [← hg191]; exact Nat.le_refl _)
        have HD198 : Hid (W73.heap.size ≤ g190) := (by show _ ≤ _; rw [← hg191]; exact Below.size Kk89.out)
        clear hg191
        (try clear hHeld)
        refine hK.out _ _ (seesN_kept _ (kept_trans Kk89.out Kk188.out)) (fun hHeld => ?_)
        clear hK K
        (try simp only [Act.put, List.setIfInBounds_toArray, List.set_cons_zero, List.set_cons_succ])
        have pg199 : ∀ (l : List Tm) (s : Value), LiesQ w81 (Par w V0.heap.size (w46.heap.size :: []) (fun _ => False)) l s → LiesQ W186 (Par w V0.heap.size (g190 :: (w46.heap.size :: [])) (fun _ => False)) l s := fun _ _ h => par_grow h Kk188.out (List.forall_mem_cons.2 ⟨(Or.inr HP197.out), (List.forall_mem_cons.2 ⟨(Or.inl (List.mem_cons_self ..)), (fun _ h => nomatch h)⟩)⟩)
        exact HJj77 W186 U88 a85 c86 g190 ⟨(kept_trans Kk89.out Kk188.out), HU88.out, (pg199 _ _ Hhl84.out), Hx187.out, HG194.out, (Nat.le_trans (Below.size Kk89.out) HP197.out), HD198.out, (by have := AP195.out; omega), XL196.out⟩
      exact AllReadyH.nil
    refine AllReadyH.cons (o := wakes24r2_6) rfl (fun K hK => ?_) ?_
    · unfold wakes24r2_6
      go_simp
      refine at_K (fun W200 hW200 => ?_)
      obtain ⟨g204, hg205, Kk202, Hx201, Hz203, KV206, HN207⟩ := alloc1v (kept_trans KB64.out Kk76.out) hW200
      rw [hg205]
      clear hW200
      have HG208 : Hid (V0.heap.size ≤ g204) := (by show _ ≤ _; rw [← hg205]; exact (Below.size (kept_trans KB64.out Kk76.out)))
      have AP209 : Hid (w46.heap.size < g204) := (by show _ < _; rw [← hg205]; exact block_lt (blk_at HX72.out Kk76.out))
      have XL210 : Hid (XLt (g204 :: (w46.heap.size :: [])) W200) := (by show XLt _ _; rw [← hg205]; exact xlt_more (xlt_later XL71.out Kk76.out) Kk202.out (by have := Hz203.out; omega))
      have HP211 : Hid (W73.heap.size ≤ g204) := (by show _ ≤ _; rw [← hg205]; exact Nat.le_refl _)
      have HD212 : Hid (W73.heap.size ≤ g204) := (by show _ ≤ _; rw [← hg205]; exact Below.size (kept_refl _))
      clear hg205
      (try clear hHeld)
      refine hK.out _ _ (seesN_kept _ Kk202.out) (fun hHeld => ?_)
      clear hK K
      (try simp only [Act.put, List.setIfInBounds_toArray, List.set_cons_zero, List.set_cons_succ])
      refine wpAnyH_ready (rs := [1]) (by kernel_rfl) (by simp) ?_
      refine AllReadyH.cons (o := wakes24r2_1) rfl (fun K hK => ?_) ?_
      · unfold wakes24r2_1
        go_simp
        refine (lv4_any 2 (Par w V0.heap.size (g204 :: (w46.heap.size :: [])) (fun _ => False)) _ (show I64 2 from by unfold I64; decide)).mono ?_
        obtain ⟨U220, hU220⟩ : ∃ qu, varT 2 = qu := ⟨_, rfl⟩
        rw [hU220]
        have HU220 := Lib.hid hU220
        clear hU220
        rintro e w213 ⟨s215, rfl, hl216, k214⟩
        obtain ⟨a217, c218, S219, rfl, -⟩ := hl216.out
        have Kk221 := Lib.hid k214
        clear k214
        have Hhl216 : Hid (LiesQ w213 (Par w V0.heap.size (g204 :: (w46.heap.size :: [])) (fun _ => False)) U220.kids _) := par_give hl216 (Below.size KV206.out) XL210.out
        clear hl216
        (try clear hHeld)
        refine hK.out _ _ (seesN_kept _ (kept_trans Kk202.out Kk221.out)) (fun hHeld => ?_)
        clear hK K
        (try simp only [Act.put, List.setIfInBounds_toArray, List.set_cons_zero, List.set_cons_succ])
        exact HJj77 w213 U220 a217 c218 g204 ⟨(kept_trans Kk202.out Kk221.out), HU220.out, Hhl216.out, (blk_at Hx201.out Kk221.out), HG208.out, (Nat.le_trans (Below.size (kept_refl _)) HP211.out), HD212.out, (by have := AP209.out; omega), (xlt_later XL210.out Kk221.out)⟩
      exact AllReadyH.nil
    exact AllReadyH.nil
  · intro W186 U88 a85 c86 g190 k222
    obtain ⟨q223, q224, q225, q226, q227, q228, q229, q230, q231⟩ := k222
    have Kk232 := Lib.hid q223
    have KV233 := Lib.hid (kept_trans (kept_trans KB64.out Kk76.out) Kk232.out)
    have HU88 := Lib.hid q224
    have HL234 := Lib.hid q225
    have HX235 := Lib.hid q226
    have HG236 := Lib.hid q227
    have HP237 := Lib.hid q228
    have HD238 := Lib.hid q229
    have AP239 := Lib.hid q230
    have XL240 := Lib.hid q231
    clear q223 q224 q225 q226 q227 q228 q229 q230 q231
    have hHeld : SeesN W73 V0.heap.size W186 := seesN_kept _ Kk232.out
    refine wpAnyH_ready (rs := [2]) (by kernel_rfl) (by simp) ?_
    refine AllReadyH.cons (o := wakes24r2_2) rfl (fun K hK => ?_) ?_
    · unfold wakes24r2_2
      go_simp
      refine (lv4_any 3 (Par w V0.heap.size (g190 :: (w46.heap.size :: [])) (fun _ => False)) _ (show I64 3 from by unfold I64; decide)).mono ?_
      obtain ⟨U248, hU248⟩ : ∃ qu, varT 3 = qu := ⟨_, rfl⟩
      rw [hU248]
      have HU248 := Lib.hid hU248
      clear hU248
      rintro e w241 ⟨s243, rfl, hl244, k242⟩
      obtain ⟨a245, c246, S247, rfl, -⟩ := hl244.out
      have Kk249 := Lib.hid k242
      clear k242
      have Hhl244 : Hid (LiesQ w241 (Par w V0.heap.size (g190 :: (w46.heap.size :: [])) (fun _ => False)) U248.kids _) := par_give hl244 (Below.size KV233.out) XL240.out
      clear hl244
      (try clear hHeld)
      refine hK.out _ _ (seesN_kept _ (kept_trans Kk232.out Kk249.out)) (fun hHeld => ?_)
      clear hK K
      (try simp only [Act.put, List.setIfInBounds_toArray, List.set_cons_zero, List.set_cons_succ])
      exact HJj78 w241 U88 a85 c86 U248 a245 c246 g190 ⟨(kept_trans Kk232.out Kk249.out), HU88.out, HU248.out, (HL234.out.later Kk249.out), Hhl244.out, (blk_at HX235.out Kk249.out), HG236.out, (Nat.le_trans (Below.size (kept_refl _)) HP237.out), HD238.out, (by have := AP239.out; omega), (xlt_later XL240.out Kk249.out)⟩
    exact AllReadyH.nil
  · intro W171 U88 a85 c86 U97 a94 c95 g175 k250
    obtain ⟨q251, q252, q253, q254, q255, q256, q257, q258, q259, q260, q261⟩ := k250
    have Kk262 := Lib.hid q251
    have KV263 := Lib.hid (kept_trans (kept_trans KB64.out Kk76.out) Kk262.out)
    have HU88 := Lib.hid q252
    have HU97 := Lib.hid q253
    have HL264 := Lib.hid q254
    have HL265 := Lib.hid q255
    have HX266 := Lib.hid q256
    have HG267 := Lib.hid q257
    have HP268 := Lib.hid q258
    have HD269 := Lib.hid q259
    have AP270 := Lib.hid q260
    have XL271 := Lib.hid q261
    clear q251 q252 q253 q254 q255 q256 q257 q258 q259 q260 q261
    have hHeld : SeesN W73 V0.heap.size W171 := seesN_kept _ Kk262.out
    refine wpAnyH_ready (rs := [3]) (by kernel_rfl) (by simp) ?_
    refine AllReadyH.cons (o := wakes24r2_3) rfl (fun K hK => ?_) ?_
    · unfold wakes24r2_3
      go_simp
      refine (lv4_any 4 (Par w V0.heap.size (g175 :: (w46.heap.size :: [])) (fun _ => False)) _ (show I64 4 from by unfold I64; decide)).mono ?_
      obtain ⟨U279, hU279⟩ : ∃ qu, varT 4 = qu := ⟨_, rfl⟩
      rw [hU279]
      have HU279 := Lib.hid hU279
      clear hU279
      rintro e w272 ⟨s274, rfl, hl275, k273⟩
      obtain ⟨a276, c277, S278, rfl, -⟩ := hl275.out
      have Kk280 := Lib.hid k273
      clear k273
      have Hhl275 : Hid (LiesQ w272 (Par w V0.heap.size (g175 :: (w46.heap.size :: [])) (fun _ => False)) U279.kids _) := par_give hl275 (Below.size KV263.out) XL271.out
      clear hl275
      (try clear hHeld)
      refine hK.out _ _ (seesN_kept _ (kept_trans Kk262.out Kk280.out)) (fun hHeld => ?_)
      clear hK K
      (try simp only [Act.put, List.setIfInBounds_toArray, List.set_cons_zero, List.set_cons_succ])
      refine take_at 4 14 wakes24r2_4 (v := ?_) (Or.inl ⟨by rfl, ?_⟩) ?_
      rotate_left 1
      · ((intro w hSw; (try dsimp only at hSw); unfold wakes24r2_4; go_simp) <;> with_reducible rfl)
      (try simp only [Act.put, List.setIfInBounds_toArray, List.set_cons_zero, List.set_cons_succ])
      exact HJj79 w272 U88 a85 c86 U97 a94 c95 U279 a276 c277 g175 ⟨(kept_trans Kk262.out Kk280.out), HU88.out, HU97.out, HU279.out, (HL264.out.later Kk280.out), (HL265.out.later Kk280.out), Hhl275.out, (blk_at HX266.out Kk280.out), HG267.out, (Nat.le_trans (Below.size (kept_refl _)) HP268.out), HD269.out, (by have := AP270.out; omega), (xlt_later XL271.out Kk280.out)⟩
    exact AllReadyH.nil
  · intro W155 U88 a85 c86 U97 a94 c95 U106 a103 c104 g159 k281
    obtain ⟨q282, q283, q284, q285, q286, q287, q288, q289, q290, q291, q292, q293, q294⟩ := k281
    have Kk295 := Lib.hid q282
    have KV296 := Lib.hid (kept_trans (kept_trans KB64.out Kk76.out) Kk295.out)
    have HU88 := Lib.hid q283
    have HU97 := Lib.hid q284
    have HU106 := Lib.hid q285
    have HL297 := Lib.hid q286
    have HL298 := Lib.hid q287
    have HL299 := Lib.hid q288
    have HX300 := Lib.hid q289
    have HG301 := Lib.hid q290
    have HP302 := Lib.hid q291
    have HD303 := Lib.hid q292
    have AP304 := Lib.hid q293
    have XL305 := Lib.hid q294
    clear q282 q283 q284 q285 q286 q287 q288 q289 q290 q291 q292 q293 q294
    have hHeld : SeesN W73 V0.heap.size W155 := seesN_kept _ Kk295.out
    refine wpAnyH_ready (rs := [5]) (by kernel_rfl) (by simp) ?_
    refine AllReadyH.cons (o := wakes24r2_5) rfl (fun K hK => ?_) ?_
    · unfold wakes24r2_5
      go_simp
      have hq308 := cFst_any (⟨0, (.mk 0 0 0 0 []), (.mk 0 0 0 0 []), U88, U97, U106⟩ : He) (⟨0, 0, U11, U11, U11, U11, U44, U53⟩ : Fm) (Par w V0.heap.size (g159 :: (w46.heap.size :: [])) (fun _ => False)) W155 (.slice a8 U11.kids.length c9) (.slice a17 U11.kids.length c18) (.slice a25 U11.kids.length c26) (.slice a33 U11.kids.length c34) (.slice a41 U44.kids.length c42) (.slice a50 U53.kids.length c51) (.slice none 0 0) (.slice none 0 0) (.slice a85 U88.kids.length c86) (.slice a94 U97.kids.length c95) (.slice a103 U106.kids.length c104) (show Fm.fine (⟨0, 0, U11, U11, U11, U11, U44, U53⟩ : Fm) from ⟨(show I64 0 from by unfold I64; decide), (show I64 0 from by unfold I64; decide), (by rw [← HU11.out]; exact (sort_fine (show I64 0 from by unfold I64; decide))), (by rw [← HU11.out]; exact (sort_fine (show I64 0 from by unfold I64; decide))), (by rw [← HU11.out]; exact (sort_fine (show I64 0 from by unfold I64; decide))), (by rw [← HU11.out]; exact (sort_fine (show I64 0 from by unfold I64; decide))), (by rw [← HU44.out]; exact (var_fine (show I64 0 from by unfold I64; decide))), (by rw [← HU53.out]; exact (var_fine (show I64 1 from by unfold I64; decide)))⟩) ⟨(par_grow HL65.out (kept_trans Kk76.out Kk295.out) (List.forall_mem_cons.2 ⟨(Or.inr (Nat.le_trans (Below.size Kk76.out) HP302.out)), (List.forall_mem_cons.2 ⟨(Or.inl (List.mem_cons_self ..)), (fun _ h => nomatch h)⟩)⟩)), (par_grow HL66.out (kept_trans Kk76.out Kk295.out) (List.forall_mem_cons.2 ⟨(Or.inr (Nat.le_trans (Below.size Kk76.out) HP302.out)), (List.forall_mem_cons.2 ⟨(Or.inl (List.mem_cons_self ..)), (fun _ h => nomatch h)⟩)⟩)), (par_grow HL67.out (kept_trans Kk76.out Kk295.out) (List.forall_mem_cons.2 ⟨(Or.inr (Nat.le_trans (Below.size Kk76.out) HP302.out)), (List.forall_mem_cons.2 ⟨(Or.inl (List.mem_cons_self ..)), (fun _ h => nomatch h)⟩)⟩)), (par_grow HL68.out (kept_trans Kk76.out Kk295.out) (List.forall_mem_cons.2 ⟨(Or.inr (Nat.le_trans (Below.size Kk76.out) HP302.out)), (List.forall_mem_cons.2 ⟨(Or.inl (List.mem_cons_self ..)), (fun _ h => nomatch h)⟩)⟩)), (par_grow HL69.out (kept_trans Kk76.out Kk295.out) (List.forall_mem_cons.2 ⟨(Or.inr (Nat.le_trans (Below.size Kk76.out) HP302.out)), (List.forall_mem_cons.2 ⟨(Or.inl (List.mem_cons_self ..)), (fun _ h => nomatch h)⟩)⟩)), (par_grow HL70.out (kept_trans Kk76.out Kk295.out) (List.forall_mem_cons.2 ⟨(Or.inr (Nat.le_trans (Below.size Kk76.out) HP302.out)), (List.forall_mem_cons.2 ⟨(Or.inl (List.mem_cons_self ..)), (fun _ h => nomatch h)⟩)⟩))⟩ (show He.fine (⟨0, (.mk 0 0 0 0 []), (.mk 0 0 0 0 []), U88, U97, U106⟩ : He) from ⟨(show I64 0 from by unfold I64; decide), (mk_fine (show I64 0 from by unfold I64; decide) (show I64 0 from by unfold I64; decide) (show I64 0 from by unfold I64; decide) (show I64 0 from by unfold I64; decide)), (mk_fine (show I64 0 from by unfold I64; decide) (show I64 0 from by unfold I64; decide) (show I64 0 from by unfold I64; decide) (show I64 0 from by unfold I64; decide)), (by rw [← HU88.out]; exact (var_fine (show I64 2 from by unfold I64; decide))), (by rw [← HU97.out]; exact (var_fine (show I64 3 from by unfold I64; decide))), (by rw [← HU106.out]; exact (var_fine (show I64 4 from by unfold I64; decide)))⟩) ⟨(liesQ_nil W155 (Par w V0.heap.size (g159 :: (w46.heap.size :: [])) (fun _ => False))), (liesQ_nil W155 (Par w V0.heap.size (g159 :: (w46.heap.size :: [])) (fun _ => False))), HL297.out, HL298.out, HL299.out⟩
      rw [show cgFst (⟨0, 0, U11, U11, U11, U11, U44, U53⟩ : Fm) (⟨0, (.mk 0 0 0 0 []), (.mk 0 0 0 0 []), U88, U97, U106⟩ : He) = (⟨0, sortT 0, sortT 0, nodeT 18 [varT 2], nodeT 18 [varT 3], sixT 18 (⟨0, 0, sortT 0, sortT 0, sortT 0, sortT 0, varT 0, varT 1⟩ : Fm) [varT 2, varT 3, varT 4]⟩ : He) from by rw [← HU11.out, ← HU44.out, ← HU53.out, ← HU88.out, ← HU97.out, ← HU106.out]; exact w4_fst] at hq308
      refine hq308.mono ?_
      clear hq308
      obtain ⟨U309, hU309⟩ : ∃ qu, (⟨0, sortT 0, sortT 0, nodeT 18 [varT 2], nodeT 18 [varT 3], sixT 18 (⟨0, 0, sortT 0, sortT 0, sortT 0, sortT 0, varT 0, varT 1⟩ : Fm) [varT 2, varT 3, varT 4]⟩ : He) = qu := ⟨_, rfl⟩
      rw [hU309]
      have HU309 := Lib.hid hU309
      clear hU309
      rintro e w306 ⟨s310, s311, s312, s313, s314, rfl, ⟨hl315, hl316, hl317, hl318, hl319⟩, k307⟩
      obtain ⟨a320, c321, S322, rfl, -⟩ := hl315.out
      obtain ⟨a323, c324, S325, rfl, -⟩ := hl316.out
      obtain ⟨a326, c327, S328, rfl, -⟩ := hl317.out
      obtain ⟨a329, c330, S331, rfl, -⟩ := hl318.out
      obtain ⟨a332, c333, S334, rfl, -⟩ := hl319.out
      have Kk335 := Lib.hid k307
      clear k307
      have Hhl315 : Hid (LiesQ w306 (Par w V0.heap.size (g159 :: (w46.heap.size :: [])) (fun _ => False)) U309.a.kids _) := par_give hl315 (Below.size KV296.out) XL305.out
      have Hhl316 : Hid (LiesQ w306 (Par w V0.heap.size (g159 :: (w46.heap.size :: [])) (fun _ => False)) U309.b.kids _) := par_give hl316 (Below.size KV296.out) XL305.out
      have Hhl317 : Hid (LiesQ w306 (Par w V0.heap.size (g159 :: (w46.heap.size :: [])) (fun _ => False)) U309.x.kids _) := par_give hl317 (Below.size KV296.out) XL305.out
      have Hhl318 : Hid (LiesQ w306 (Par w V0.heap.size (g159 :: (w46.heap.size :: [])) (fun _ => False)) U309.y.kids _) := par_give hl318 (Below.size KV296.out) XL305.out
      have Hhl319 : Hid (LiesQ w306 (Par w V0.heap.size (g159 :: (w46.heap.size :: [])) (fun _ => False)) U309.h.kids _) := par_give hl319 (Below.size KV296.out) XL305.out
      clear hl315 hl316 hl317 hl318 hl319
      have kf336 : (U309.x.k == 18) = true := by rw [← HU309.out]; first | rfl | decide
      have kf337 : (U309.h.n == 18) = true := by rw [← HU309.out]; first | rfl | decide
      have kf338 : ((U309.h.kids.length : Int) == 9) = true := by rw [← HU309.out]; first | rfl | decide
      (try clear hHeld)
      refine hK.out _ _ (seesN_kept _ (kept_trans Kk295.out Kk335.out)) (fun hHeld => ?_)
      clear hK K
      (try simp only [Act.put, List.setIfInBounds_toArray, List.set_cons_zero, List.set_cons_succ])
      exact HJj80 w306 U88 a85 c86 U97 a94 c95 U106 a103 c104 U309 a320 c321 a323 c324 a326 c327 a329 c330 a332 c333 g159 ⟨(kept_trans Kk295.out Kk335.out), HU88.out, HU97.out, HU106.out, HU309.out, Hhl315.out, Hhl316.out, Hhl317.out, Hhl318.out, Hhl319.out, (blk_at HX300.out Kk335.out), HG301.out, (Nat.le_trans (Below.size (kept_refl _)) HP302.out), HD303.out, (by have := AP304.out; omega), (xlt_later XL305.out Kk335.out)⟩
    exact AllReadyH.nil
  · intro W141 U88 a85 c86 U97 a94 c95 U106 a103 c104 U111 a122 c123 a125 c126 a128 c129 a131 c132 a134 c135 g145 k339
    obtain ⟨q340, q341, q342, q343, q344, q345, q346, q347, q348, q349, q350, q351, q352, q353, q354, q355⟩ := k339
    have Kk356 := Lib.hid q340
    have KV357 := Lib.hid (kept_trans (kept_trans KB64.out Kk76.out) Kk356.out)
    have HU88 := Lib.hid q341
    have HU97 := Lib.hid q342
    have HU106 := Lib.hid q343
    have HU111 := Lib.hid q344
    have HL358 := Lib.hid q345
    have HL359 := Lib.hid q346
    have HL360 := Lib.hid q347
    have HL361 := Lib.hid q348
    have HL362 := Lib.hid q349
    have HX363 := Lib.hid q350
    have HG364 := Lib.hid q351
    have HP365 := Lib.hid q352
    have HD366 := Lib.hid q353
    have AP367 := Lib.hid q354
    have XL368 := Lib.hid q355
    clear q340 q341 q342 q343 q344 q345 q346 q347 q348 q349 q350 q351 q352 q353 q354 q355
    have kf369 : (U111.x.k == 18) = true := by rw [← HU111.out]; first | rfl | decide
    have kf370 : (U111.h.n == 18) = true := by rw [← HU111.out]; first | rfl | decide
    have kf371 : ((U111.h.kids.length : Int) == 9) = true := by rw [← HU111.out]; first | rfl | decide
    have hHeld : SeesN W73 V0.heap.size W141 := seesN_kept _ Kk356.out
    refine wpAnyH_ready (rs := [7]) (by kernel_rfl) (by simp) ?_
    refine AllReadyH.cons (o := wakes24r2_7) rfl (fun K hK => ?_) ?_
    · unfold wakes24r2_7
      refine step_store_part rfl 51 (.tmp 2) (.tmp 15) rfl (g145) 0 #[.int .i64 U111.i, .int .i64 U111.a.k, .int .i64 U111.a.i, .int .i64 U111.a.j, .int .i64 U111.a.n, (.slice a122 U111.a.kids.length c123), .int .i64 U111.b.k, .int .i64 U111.b.i, .int .i64 U111.b.j, .int .i64 U111.b.n, (.slice a125 U111.b.kids.length c126), .int .i64 U111.x.k, .int .i64 U111.x.i, .int .i64 U111.x.j, .int .i64 U111.x.n, (.slice a128 U111.x.kids.length c129), .int .i64 U111.y.k, .int .i64 U111.y.i, .int .i64 U111.y.j, .int .i64 U111.y.n, (.slice a131 U111.y.kids.length c132), .int .i64 U111.h.k, .int .i64 U111.h.i, .int .i64 U111.h.j, .int .i64 U111.h.n, (.slice a134 U111.h.kids.length c135)] rfl rfl 51 (by kernel_rfl) (row_ok rfl) _ #[.int .i64 U111.i, .int .i64 U111.a.k, .int .i64 U111.a.i, .int .i64 U111.a.j, .int .i64 U111.a.n, (.slice a122 U111.a.kids.length c123), .int .i64 U111.b.k, .int .i64 U111.b.i, .int .i64 U111.b.j, .int .i64 U111.b.n, (.slice a125 U111.b.kids.length c126), .int .i64 U111.x.k, .int .i64 U111.x.i, .int .i64 U111.x.j, .int .i64 U111.x.n, (.slice a128 U111.x.kids.length c129), .int .i64 U111.y.k, .int .i64 U111.y.i, .int .i64 U111.y.j, .int .i64 U111.y.n, (.slice a131 U111.y.kids.length c132), .int .i64 U111.h.k, .int .i64 U111.h.i, .int .i64 U111.h.j, .int .i64 U111.h.n, (.slice a134 U111.h.kids.length c135)] HX363.out rfl (Nat.le_of_ble_eq_true rfl) ?_
      intro W372 hW372
      have KB373 := Lib.hid (kept_set (kept_trans KB63.out (kept_trans Kk76.out Kk356.out)) hW372 (by have := HG364.out; have := Z0.out; omega))
      have KB374 := Lib.hid (kept_set KV357.out hW372 HG364.out)
      have KB375 := Lib.hid (kept_set Kk356.out hW372 HD366.out)
      have HL376 : Hid (LiesQ W372 (Par w V0.heap.size (g145 :: (w46.heap.size :: [])) (fun _ => False)) U11.kids _) := par_set (par_grow HL65.out (kept_trans Kk76.out Kk356.out) (List.forall_mem_cons.2 ⟨(Or.inr (Nat.le_trans (Below.size Kk76.out) HP365.out)), (List.forall_mem_cons.2 ⟨(Or.inl (List.mem_cons_self ..)), (fun _ h => nomatch h)⟩)⟩)) hW372 (List.mem_cons_self ..) (by have := HG364.out; have := Z0.out; omega)
      have HL377 : Hid (LiesQ W372 (Par w V0.heap.size (g145 :: (w46.heap.size :: [])) (fun _ => False)) U11.kids _) := par_set (par_grow HL66.out (kept_trans Kk76.out Kk356.out) (List.forall_mem_cons.2 ⟨(Or.inr (Nat.le_trans (Below.size Kk76.out) HP365.out)), (List.forall_mem_cons.2 ⟨(Or.inl (List.mem_cons_self ..)), (fun _ h => nomatch h)⟩)⟩)) hW372 (List.mem_cons_self ..) (by have := HG364.out; have := Z0.out; omega)
      have HL378 : Hid (LiesQ W372 (Par w V0.heap.size (g145 :: (w46.heap.size :: [])) (fun _ => False)) U11.kids _) := par_set (par_grow HL67.out (kept_trans Kk76.out Kk356.out) (List.forall_mem_cons.2 ⟨(Or.inr (Nat.le_trans (Below.size Kk76.out) HP365.out)), (List.forall_mem_cons.2 ⟨(Or.inl (List.mem_cons_self ..)), (fun _ h => nomatch h)⟩)⟩)) hW372 (List.mem_cons_self ..) (by have := HG364.out; have := Z0.out; omega)
      have HL379 : Hid (LiesQ W372 (Par w V0.heap.size (g145 :: (w46.heap.size :: [])) (fun _ => False)) U11.kids _) := par_set (par_grow HL68.out (kept_trans Kk76.out Kk356.out) (List.forall_mem_cons.2 ⟨(Or.inr (Nat.le_trans (Below.size Kk76.out) HP365.out)), (List.forall_mem_cons.2 ⟨(Or.inl (List.mem_cons_self ..)), (fun _ h => nomatch h)⟩)⟩)) hW372 (List.mem_cons_self ..) (by have := HG364.out; have := Z0.out; omega)
      have HL380 : Hid (LiesQ W372 (Par w V0.heap.size (g145 :: (w46.heap.size :: [])) (fun _ => False)) U44.kids _) := par_set (par_grow HL69.out (kept_trans Kk76.out Kk356.out) (List.forall_mem_cons.2 ⟨(Or.inr (Nat.le_trans (Below.size Kk76.out) HP365.out)), (List.forall_mem_cons.2 ⟨(Or.inl (List.mem_cons_self ..)), (fun _ h => nomatch h)⟩)⟩)) hW372 (List.mem_cons_self ..) (by have := HG364.out; have := Z0.out; omega)
      have HL381 : Hid (LiesQ W372 (Par w V0.heap.size (g145 :: (w46.heap.size :: [])) (fun _ => False)) U53.kids _) := par_set (par_grow HL70.out (kept_trans Kk76.out Kk356.out) (List.forall_mem_cons.2 ⟨(Or.inr (Nat.le_trans (Below.size Kk76.out) HP365.out)), (List.forall_mem_cons.2 ⟨(Or.inl (List.mem_cons_self ..)), (fun _ h => nomatch h)⟩)⟩)) hW372 (List.mem_cons_self ..) (by have := HG364.out; have := Z0.out; omega)
      have HL382 : Hid (LiesQ W372 (Par w V0.heap.size (g145 :: (w46.heap.size :: [])) (fun _ => False)) U111.a.kids _) := par_set HL358.out hW372 (List.mem_cons_self ..) (by have := HG364.out; have := Z0.out; omega)
      have HL383 : Hid (LiesQ W372 (Par w V0.heap.size (g145 :: (w46.heap.size :: [])) (fun _ => False)) U111.b.kids _) := par_set HL359.out hW372 (List.mem_cons_self ..) (by have := HG364.out; have := Z0.out; omega)
      have HL384 : Hid (LiesQ W372 (Par w V0.heap.size (g145 :: (w46.heap.size :: [])) (fun _ => False)) U111.x.kids _) := par_set HL360.out hW372 (List.mem_cons_self ..) (by have := HG364.out; have := Z0.out; omega)
      have HL385 : Hid (LiesQ W372 (Par w V0.heap.size (g145 :: (w46.heap.size :: [])) (fun _ => False)) U111.y.kids _) := par_set HL361.out hW372 (List.mem_cons_self ..) (by have := HG364.out; have := Z0.out; omega)
      have HL386 : Hid (LiesQ W372 (Par w V0.heap.size (g145 :: (w46.heap.size :: [])) (fun _ => False)) U111.h.kids _) := par_set HL362.out hW372 (List.mem_cons_self ..) (by have := HG364.out; have := Z0.out; omega)
      have XL387 := Lib.hid (xlt_set XL368.out hW372)
      have HX388 := Lib.hid (blk_other (blk_at HX72.out (kept_trans Kk76.out Kk356.out)) hW372 (by have := AP367.out; omega))
      have HX389 := Lib.hid (blk_same HX363.out hW372)
      clear hW372
      have ld390 := partN_cell (r := V0.heap.size) HX389.out trivial 11 (.int .i64 U111.x.k) rfl
      have ld391 := partN_cell (r := V0.heap.size) HX389.out trivial 24 (.int .i64 U111.h.n) rfl
      have ld392 := partN_cell (r := V0.heap.size) HX389.out trivial 25 ((.slice a134 U111.h.kids.length c135)) rfl
      clear hHeld
      refine hK.out _ _ (seesN_kept _ KB375.out) (fun hHeld => ?_)
      clear hK K
      (try simp only [Act.put])
      refine wpAnyH_done (by kernel_rfl) ?_ _
      clear hHeld
      have kvV0 : SeesN V0 V0.heap.size W372 := seesN_kept _ KB374.out
      have kvW372 : SeesN W372 V0.heap.size W372 := seesN_kept _ (kept_refl _)
      go_wp2_with (refine stop_load 72 (.tmp 1) rfl ?_)
      intro _
      refine wpList_load_part (w46.heap.size) 0 72 (.tmp 1) #[.int .i64 0, .int .i64 0, .int .i64 U11.k, .int .i64 U11.i, .int .i64 U11.j, .int .i64 U11.n, (.slice a8 U11.kids.length c9), .int .i64 U11.k, .int .i64 U11.i, .int .i64 U11.j, .int .i64 U11.n, (.slice a17 U11.kids.length c18), .int .i64 U11.k, .int .i64 U11.i, .int .i64 U11.j, .int .i64 U11.n, (.slice a25 U11.kids.length c26), .int .i64 U11.k, .int .i64 U11.i, .int .i64 U11.j, .int .i64 U11.n, (.slice a33 U11.kids.length c34), .int .i64 U44.k, .int .i64 U44.i, .int .i64 U44.j, .int .i64 U44.n, (.slice a41 U44.kids.length c42), .int .i64 U53.k, .int .i64 U53.i, .int .i64 U53.j, .int .i64 U53.n, (.slice a50 U53.kids.length c51)] dg HX388.out (by rfl) rfl (by rfl) (by rfl) dg1 (by cases dg <;> first | rfl | exact dg2) (by kernel_rfl) ?_
      go_wp2_with fail
      clear kvV0
      clear kvW372
      have hq395 := cPi_any (⟨0, 0, U11, U11, U11, U11, U44, U53⟩ : Fm) (Par w V0.heap.size (g145 :: (w46.heap.size :: [])) (fun _ => False)) W372 (.slice a8 U11.kids.length c9) (.slice a17 U11.kids.length c18) (.slice a25 U11.kids.length c26) (.slice a33 U11.kids.length c34) (.slice a41 U44.kids.length c42) (.slice a50 U53.kids.length c51) (show Fm.fine (⟨0, 0, U11, U11, U11, U11, U44, U53⟩ : Fm) from ⟨(show I64 0 from by unfold I64; decide), (show I64 0 from by unfold I64; decide), (by rw [← HU11.out]; exact (sort_fine (show I64 0 from by unfold I64; decide))), (by rw [← HU11.out]; exact (sort_fine (show I64 0 from by unfold I64; decide))), (by rw [← HU11.out]; exact (sort_fine (show I64 0 from by unfold I64; decide))), (by rw [← HU11.out]; exact (sort_fine (show I64 0 from by unfold I64; decide))), (by rw [← HU44.out]; exact (var_fine (show I64 0 from by unfold I64; decide))), (by rw [← HU53.out]; exact (var_fine (show I64 1 from by unfold I64; decide)))⟩) ⟨HL376.out, HL377.out, HL378.out, HL379.out, HL380.out, HL381.out⟩
      rw [show cgPi (⟨0, 0, U11, U11, U11, U11, U44, U53⟩ : Fm) = sixT 13 (⟨0, 0, sortT 0, sortT 0, sortT 0, sortT 0, varT 0, varT 1⟩ : Fm) [] from by rw [← HU11.out, ← HU44.out, ← HU53.out]; exact w4_pi] at hq395
      refine hq395.mono ?_
      clear hq395
      obtain ⟨U401, hU401⟩ : ∃ qu, sixT 13 (⟨0, 0, sortT 0, sortT 0, sortT 0, sortT 0, varT 0, varT 1⟩ : Fm) [] = qu := ⟨_, rfl⟩
      rw [hU401]
      have HU401 := Lib.hid hU401
      clear hU401
      rintro e w393 ⟨s396, rfl, hl397, k394⟩
      obtain ⟨a398, c399, S400, rfl, -⟩ := hl397.out
      have Kk402 := Lib.hid k394
      clear k394
      have Hhl397 : Hid (LiesQ w393 (Par w V0.heap.size (g145 :: (w46.heap.size :: [])) (fun _ => False)) U401.kids _) := par_give hl397 (Below.size KB374.out) XL387.out
      clear hl397
      (try unfold tv)
      have fd403 : ∀ w', (Instr.field 32 (.agg #[.int .i64 U401.k, .int .i64 U401.i, .int .i64 U401.j, .int .i64 U401.n, (.slice a398 U401.kids.length c399)]) 3).run Try.prog w' = .ok (.int .i64 U401.n) w' := fun w' => field_term3 (.int .i64 U401.k) (.int .i64 U401.i) (.int .i64 U401.j) (.int .i64 U401.n) (.slice a398 U401.kids.length c399) w'
      have kf404 : (U401.n == 13) = true := by rw [← HU401.out]; first | rfl | decide
      have kvV0 : SeesN V0 V0.heap.size w393 := seesN_kept _ (kept_trans KB374.out Kk402.out)
      have kvW372 : SeesN W372 V0.heap.size w393 := seesN_kept _ Kk402.out
      go_wp2_with fail
      clear kvV0
      clear kvW372
      have hq407 := cPi_any (⟨0, 0, (.mk 0 0 0 0 []), (.mk 0 0 0 0 []), (.mk 0 0 0 0 []), (.mk 0 0 0 0 []), (.mk 0 0 0 0 []), (.mk 0 0 0 0 [])⟩ : Fm) (Par w V0.heap.size (g145 :: (w46.heap.size :: [])) (fun _ => False)) w393 (.slice none 0 0) (.slice none 0 0) (.slice none 0 0) (.slice none 0 0) (.slice none 0 0) (.slice none 0 0) (show Fm.fine (⟨0, 0, (.mk 0 0 0 0 []), (.mk 0 0 0 0 []), (.mk 0 0 0 0 []), (.mk 0 0 0 0 []), (.mk 0 0 0 0 []), (.mk 0 0 0 0 [])⟩ : Fm) from ⟨(show I64 0 from by unfold I64; decide), (show I64 0 from by unfold I64; decide), (mk_fine (show I64 0 from by unfold I64; decide) (show I64 0 from by unfold I64; decide) (show I64 0 from by unfold I64; decide) (show I64 0 from by unfold I64; decide)), (mk_fine (show I64 0 from by unfold I64; decide) (show I64 0 from by unfold I64; decide) (show I64 0 from by unfold I64; decide) (show I64 0 from by unfold I64; decide)), (mk_fine (show I64 0 from by unfold I64; decide) (show I64 0 from by unfold I64; decide) (show I64 0 from by unfold I64; decide) (show I64 0 from by unfold I64; decide)), (mk_fine (show I64 0 from by unfold I64; decide) (show I64 0 from by unfold I64; decide) (show I64 0 from by unfold I64; decide) (show I64 0 from by unfold I64; decide)), (mk_fine (show I64 0 from by unfold I64; decide) (show I64 0 from by unfold I64; decide) (show I64 0 from by unfold I64; decide) (show I64 0 from by unfold I64; decide)), (mk_fine (show I64 0 from by unfold I64; decide) (show I64 0 from by unfold I64; decide) (show I64 0 from by unfold I64; decide) (show I64 0 from by unfold I64; decide))⟩) ⟨(liesQ_nil w393 (Par w V0.heap.size (g145 :: (w46.heap.size :: [])) (fun _ => False))), (liesQ_nil w393 (Par w V0.heap.size (g145 :: (w46.heap.size :: [])) (fun _ => False))), (liesQ_nil w393 (Par w V0.heap.size (g145 :: (w46.heap.size :: [])) (fun _ => False))), (liesQ_nil w393 (Par w V0.heap.size (g145 :: (w46.heap.size :: [])) (fun _ => False))), (liesQ_nil w393 (Par w V0.heap.size (g145 :: (w46.heap.size :: [])) (fun _ => False))), (liesQ_nil w393 (Par w V0.heap.size (g145 :: (w46.heap.size :: [])) (fun _ => False)))⟩
      rw [show cgPi (⟨0, 0, (.mk 0 0 0 0 []), (.mk 0 0 0 0 []), (.mk 0 0 0 0 []), (.mk 0 0 0 0 []), (.mk 0 0 0 0 []), (.mk 0 0 0 0 [])⟩ : Fm) = Tm.zero from by exact w4_zero] at hq407
      refine hq407.mono ?_
      clear hq407
      rintro e w405 ⟨s408, rfl, hl409, k406⟩
      obtain ⟨a410, c411, S412, rfl, -⟩ := hl409.out
      have Kk413 := Lib.hid k406
      clear k406
      have Hhl409 : Hid (LiesQ w405 (Par w V0.heap.size (g145 :: (w46.heap.size :: [])) (fun _ => False)) Tm.zero.kids _) := par_give hl409 (Below.size (kept_trans KB374.out Kk402.out)) (xlt_later XL387.out Kk402.out)
      clear hl409
      (try unfold tv)
      have fd414 : ∀ w', (Instr.field 32 (.agg #[.int .i64 Tm.zero.k, .int .i64 Tm.zero.i, .int .i64 Tm.zero.j, .int .i64 Tm.zero.n, (.slice a410 Tm.zero.kids.length c411)]) 0).run Try.prog w' = .ok (.int .i64 Tm.zero.k) w' := fun w' => field_term0 (.int .i64 Tm.zero.k) (.int .i64 Tm.zero.i) (.int .i64 Tm.zero.j) (.int .i64 Tm.zero.n) (.slice a410 Tm.zero.kids.length c411) w'
      have kf415 : (Tm.zero.k == 0) = true := by first | rfl | decide
      have kvV0 : SeesN V0 V0.heap.size w405 := seesN_kept _ (kept_trans KB374.out (kept_trans Kk402.out Kk413.out))
      have kvW372 : SeesN W372 V0.heap.size w405 := seesN_kept _ (kept_trans Kk402.out Kk413.out)
      go_wp2
      go_ret
      exact ⟨rfl, (kept_trans KB373.out (kept_trans Kk402.out Kk413.out))⟩
    exact AllReadyH.nil

end Go.Proofs.Ytkdceahmknhojaa
