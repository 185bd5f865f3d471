/-
  Facts and contracts that the proof of CongEqs uses.
-/
import Derived.Test.YtkdceahmknhojaaRows
import Derived.WalkKit
import Derived.Lib.Hide
import Derived.KernelRfl
import Derived.Deep.RegionWith
import Derived.Deep.RegionHeld3
import Derived.Deep.AppendLies
import Derived.Laws.Rows
import Derived.Laws.IdiomCopy
import Derived.Deep.Slices
import Derived.Lib.QuietBelow
import Derived.StillTailTactics
import Derived.BigQuiet
import Derived.IntWalk
import Derived.OwnWalk
import Derived.Deep.RegionLaw
import Derived.Deep.QuietTactic
import Derived.Deep.LoopGhost
import Derived.Deep.DeepCutAuto
import Derived.Deep.MidRow
import Derived.OrdersHeld
import Derived.Laws.Tables
import Derived.Laws.CopyOwn
import Derived.Laws.CopyRow
import Derived.Deep.Upon
import Derived.ArgAppend
import Derived.Deep.RegionHeld
import Derived.Lib.MinMax
import Derived.ProofKit
import Derived.OpenShut
import Derived.Carry
import Derived.ChangeSlices
import Derived.JoinedOf
import Derived.Test.YtkdceahmknhojaaCongEqsQ3
namespace Go.Proofs.Ytkdceahmknhojaa
open Go.RowKit

set_option maxRecDepth 20000 in
set_option maxHeartbeats 4000000 in
theorem lv4_any (i : Int) (P : Nat → Prop) (w : World) (hri : I64 i) : Calls Try.prog 123 #[.int .i64 i] w (GivesP P (varT i) w) := by
  have Ri := Lib.hid hri
  clear hri
  obtain ⟨du, hu1, hu2⟩ := under_term
  go_enter Try.func123, Try.ntmps123
  go_upto_region 1 with fail
  refine at_code (fun V0 hV0 => ?_)
  obtain ⟨k2, x1, z3⟩ := alloc1 hV0
  have Kk4 := Lib.hid k2
  clear k2
  have Hx1 := Lib.hid x1
  have Z0 := Lib.hid z3
  clear z3 x1 hV0
  have kvV0 : Sees V0 (w.heap.size) V0 := sees_kept _ (kept_refl _)
  go_wp2_with (refine stop_store 32 (.tmp 2) (.tmp 4) rfl ?_)
  intro _
  refine wpList_store_part_n (by rfl) 32 (.tmp 2) (.tmp 4) rfl (w.heap.size) 0 #[.int .i64 2, .int .i64 i, .int .i64 0, .int .i64 0, .slice none 0 0] (by rfl) (by rfl) 32 size_term (row_ok rfl) ?_
  intro W5 hW5
  clear kvV0
  subst hW5
  refine ⟨_, #[.int .i64 2, .int .i64 i, .int .i64 0, .int .i64 0, .slice none 0 0], Hx1.out, rfl, Nat.le_of_ble_eq_true rfl, ?_⟩
  intro W6 hW6
  go_wp2_with fail
  refine bodyPost_ret (results_cell_row rfl _ _ (w.heap.size) 32 _ _ du rfl (blk_same Hx1.out hW6) hu1 (by cases du <;> first | rfl | exact hu2) size_term) rfl ?_
  exact ⟨_, rfl, par_end (par_row' (liesQ_nil V0 (Par w V0.heap.size [] P)) hW6 (by omega) (by have := Z0.out; omega)) (by have := Z0.out; omega), kept_set Kk4.out hW6 (by omega)⟩

set_option maxRecDepth 20000 in
set_option maxHeartbeats 4000000 in
theorem ls4_any (i : Int) (P : Nat → Prop) (w : World) (hri : I64 i) : Calls Try.prog 122 #[.int .i64 i] w (GivesP P (sortT i) w) := by
  have Ri := Lib.hid hri
  clear hri
  obtain ⟨du, hu1, hu2⟩ := under_term
  go_enter Try.func122, Try.ntmps122
  go_upto_region 1 with fail
  refine at_code (fun V0 hV0 => ?_)
  obtain ⟨k2, x1, z3⟩ := alloc1 hV0
  have Kk4 := Lib.hid k2
  clear k2
  have Hx1 := Lib.hid x1
  have Z0 := Lib.hid z3
  clear z3 x1 hV0
  have kvV0 : Sees V0 (w.heap.size) V0 := sees_kept _ (kept_refl _)
  go_wp2_with (refine stop_store 32 (.tmp 2) (.tmp 4) rfl ?_)
  intro _
  refine wpList_store_part_n (by rfl) 32 (.tmp 2) (.tmp 4) rfl (w.heap.size) 0 #[.int .i64 1, .int .i64 i, .int .i64 0, .int .i64 0, .slice none 0 0] (by rfl) (by rfl) 32 size_term (row_ok rfl) ?_
  intro W5 hW5
  clear kvV0
  subst hW5
  refine ⟨_, #[.int .i64 1, .int .i64 i, .int .i64 0, .int .i64 0, .slice none 0 0], Hx1.out, rfl, Nat.le_of_ble_eq_true rfl, ?_⟩
  intro W6 hW6
  go_wp2_with fail
  refine bodyPost_ret (results_cell_row rfl _ _ (w.heap.size) 32 _ _ du rfl (blk_same Hx1.out hW6) hu1 (by cases du <;> first | rfl | exact hu2) size_term) rfl ?_
  exact ⟨_, rfl, par_end (par_row' (liesQ_nil V0 (Par w V0.heap.size [] P)) hW6 (by omega) (by have := Z0.out; omega)) (by have := Z0.out; omega), kept_set Kk4.out hW6 (by omega)⟩

set_option maxRecDepth 20000 in
set_option maxHeartbeats 4000000 in
theorem lours4_any (h : He) (P : Nat → Prop) (w : World) (sha : Value) (shb : Value) (shx : Value) (shy : Value) (shh : Value) (hfh : h.fine) (hlh : HQ w P h sha shb shx shy shh) : Calls Try.prog 63 #[hv h sha shb shx shy shh] w (GivesHP P h w) := by
  have Gh := Lib.hid hfh
  clear hfh
  obtain ⟨hlha, hlhb, hlhx, hlhy, hlhh⟩ := hlh
  obtain ⟨aha, cha, Sha, rfl, -⟩ := hlha.out
  obtain ⟨ahb, chb, Shb, rfl, -⟩ := hlhb.out
  obtain ⟨ahx, chx, Shx, rfl, -⟩ := hlhx.out
  obtain ⟨ahy, chy, Shy, rfl, -⟩ := hlhy.out
  obtain ⟨ahh, chh, Shh, rfl, -⟩ := hlhh.out
  obtain ⟨du, hu1, hu2⟩ := under_term
  obtain ⟨dh, dh1, dh2⟩ := under_of 51 (by kernel_rfl)
  obtain ⟨dr, dr1, dr2⟩ := under_of 45 (by kernel_rfl)
  unfold hv
  go_enter Try.func63, Try.ntmps63
  go_upto_region 1 with fail
  refine at_code (fun V0 hV0 => ?_)
  obtain ⟨k3, x1, x2, z4⟩ := alloc2 hV0
  have Kk5 := Lib.hid k3
  clear k3
  have Hx1 := Lib.hid x1
  have Hx2 := Lib.hid x2
  have Z0 := Lib.hid z4
  clear z4 x1 x2 hV0
  have HLha : Hid (LiesQ V0 (Par w V0.heap.size [] P) h.a.kids _) := (par_in _ _ hlha).later Kk5.out
  clear hlha
  have HLhb : Hid (LiesQ V0 (Par w V0.heap.size [] P) h.b.kids _) := (par_in _ _ hlhb).later Kk5.out
  clear hlhb
  have HLhx : Hid (LiesQ V0 (Par w V0.heap.size [] P) h.x.kids _) := (par_in _ _ hlhx).later Kk5.out
  clear hlhx
  have HLhy : Hid (LiesQ V0 (Par w V0.heap.size [] P) h.y.kids _) := (par_in _ _ hlhy).later Kk5.out
  clear hlhy
  have HLhh : Hid (LiesQ V0 (Par w V0.heap.size [] P) h.h.kids _) := (par_in _ _ hlhh).later Kk5.out
  clear hlhh
  have ld6 := part_cell (r := (w.heap.size + 1)) Hx1.out (by have := Z0.out; omega) 0 (.int .i64 h.i) rfl
  have kvV0 : Sees V0 (w.heap.size + 1) V0 := sees_kept _ (kept_refl _)
  go_wp2_with (refine stop_load 32 (.tmp 5) rfl ?_)
  intro _
  refine wpList_load_part (w.heap.size) 1 32 (.tmp 5) #[.int .i64 h.a.k, .int .i64 h.a.i, .int .i64 h.a.j, .int .i64 h.a.n, (.slice aha h.a.kids.length cha)] du Hx1.out (by rfl) rfl (by rfl) (by rfl) hu1 (by cases du <;> first | rfl | exact hu2) size_term ?_
  go_wp2_with (refine stop_load 32 (.tmp 7) rfl ?_)
  intro _
  refine wpList_load_part (w.heap.size) 6 32 (.tmp 7) #[.int .i64 h.b.k, .int .i64 h.b.i, .int .i64 h.b.j, .int .i64 h.b.n, (.slice ahb h.b.kids.length chb)] du Hx1.out (by rfl) rfl (by rfl) (by rfl) hu1 (by cases du <;> first | rfl | exact hu2) size_term ?_
  go_wp2_with (refine stop_load 32 (.tmp 9) rfl ?_)
  intro _
  refine wpList_load_part (w.heap.size) 11 32 (.tmp 9) #[.int .i64 h.x.k, .int .i64 h.x.i, .int .i64 h.x.j, .int .i64 h.x.n, (.slice ahx h.x.kids.length chx)] du Hx1.out (by rfl) rfl (by rfl) (by rfl) hu1 (by cases du <;> first | rfl | exact hu2) size_term ?_
  go_wp2_with (refine stop_load 32 (.tmp 11) rfl ?_)
  intro _
  refine wpList_load_part (w.heap.size) 16 32 (.tmp 11) #[.int .i64 h.y.k, .int .i64 h.y.i, .int .i64 h.y.j, .int .i64 h.y.n, (.slice ahy h.y.kids.length chy)] du Hx1.out (by rfl) rfl (by rfl) (by rfl) hu1 (by cases du <;> first | rfl | exact hu2) size_term ?_
  go_wp2_with (refine stop_load 32 (.tmp 13) rfl ?_)
  intro _
  refine wpList_load_part (w.heap.size) 21 32 (.tmp 13) #[.int .i64 h.h.k, .int .i64 h.h.i, .int .i64 h.h.j, .int .i64 h.h.n, (.slice ahh h.h.kids.length chh)] du Hx1.out (by rfl) rfl (by rfl) (by rfl) hu1 (by cases du <;> first | rfl | exact hu2) size_term ?_
  go_wp2_with (refine stop_store 51 (.tmp 2) (.tmp 15) rfl ?_)
  intro _
  refine wpList_store_part_n (by rfl) 51 (.tmp 2) (.tmp 15) rfl (w.heap.size + 1) 0 #[.int .i64 h.i, .int .i64 h.a.k, .int .i64 h.a.i, .int .i64 h.a.j, .int .i64 h.a.n, (.slice aha h.a.kids.length cha), .int .i64 h.b.k, .int .i64 h.b.i, .int .i64 h.b.j, .int .i64 h.b.n, (.slice ahb h.b.kids.length chb), .int .i64 h.x.k, .int .i64 h.x.i, .int .i64 h.x.j, .int .i64 h.x.n, (.slice ahx h.x.kids.length chx), .int .i64 h.y.k, .int .i64 h.y.i, .int .i64 h.y.j, .int .i64 h.y.n, (.slice ahy h.y.kids.length chy), .int .i64 h.h.k, .int .i64 h.h.i, .int .i64 h.h.j, .int .i64 h.h.n, (.slice ahh h.h.kids.length chh)] (by rfl) (by rfl) 51 (by kernel_rfl) (row_ok rfl) ?_
  intro W7 hW7
  clear kvV0
  subst hW7
  refine ⟨_, #[.int .i64 h.i, .int .i64 h.a.k, .int .i64 h.a.i, .int .i64 h.a.j, .int .i64 h.a.n, (.slice aha h.a.kids.length cha), .int .i64 h.b.k, .int .i64 h.b.i, .int .i64 h.b.j, .int .i64 h.b.n, (.slice ahb h.b.kids.length chb), .int .i64 h.x.k, .int .i64 h.x.i, .int .i64 h.x.j, .int .i64 h.x.n, (.slice ahx h.x.kids.length chx), .int .i64 h.y.k, .int .i64 h.y.i, .int .i64 h.y.j, .int .i64 h.y.n, (.slice ahy h.y.kids.length chy), .int .i64 h.h.k, .int .i64 h.h.i, .int .i64 h.h.j, .int .i64 h.h.n, (.slice ahh h.h.kids.length chh)], Hx2.out, rfl, Nat.le_of_ble_eq_true rfl, ?_⟩
  intro W8 hW8
  go_wp2_with fail
  refine bodyPost_ret (results_cell_row rfl _ _ (w.heap.size + 1) 51 _ _ dh rfl (blk_same Hx2.out hW8) dh1 (by cases dh <;> first | rfl | exact dh2) (by kernel_rfl)) rfl ?_
  exact ⟨_, _, _, _, _, rfl, ⟨par_end (par_row' HLha.out hW8 (by omega) (by have := Z0.out; omega)) (by have := Z0.out; omega), par_end (par_row' HLhb.out hW8 (by omega) (by have := Z0.out; omega)) (by have := Z0.out; omega), par_end (par_row' HLhx.out hW8 (by omega) (by have := Z0.out; omega)) (by have := Z0.out; omega), par_end (par_row' HLhy.out hW8 (by omega) (by have := Z0.out; omega)) (by have := Z0.out; omega), par_end (par_row' HLhh.out hW8 (by omega) (by have := Z0.out; omega)) (by have := Z0.out; omega)⟩, kept_set Kk5.out hW8 (by omega)⟩

set_option maxRecDepth 20000 in
set_option maxHeartbeats 4000000 in
theorem lsame4_any (h : He) (P : Nat → Prop) (w : World) (sha : Value) (shb : Value) (shx : Value) (shy : Value) (shh : Value) (zha : Value) (zhb : Value) (zhx : Value) (zhy : Value) (zhh : Value) (hlh : HQ w P h sha shb shx shy shh) (klh : HQ w P h zha zhb zhx zhy zhh) : Calls Try.prog 59 #[hv h sha shb shx shy shh, hv h zha zhb zhx zhy zhh] w fun e w' => e = .returned (.bool true) ∧ Kept w w' := by
  obtain ⟨hlha, hlhb, hlhx, hlhy, hlhh⟩ := hlh
  obtain ⟨aha, cha, Sha, rfl, -⟩ := hlha.out
  obtain ⟨ahb, chb, Shb, rfl, -⟩ := hlhb.out
  obtain ⟨ahx, chx, Shx, rfl, -⟩ := hlhx.out
  obtain ⟨ahy, chy, Shy, rfl, -⟩ := hlhy.out
  obtain ⟨ahh, chh, Shh, rfl, -⟩ := hlhh.out
  obtain ⟨klha, klhb, klhx, klhy, klhh⟩ := klh
  obtain ⟨bha, dha, Tha, rfl, -⟩ := klha.out
  obtain ⟨bhb, dhb, Thb, rfl, -⟩ := klhb.out
  obtain ⟨bhx, dhx, Thx, rfl, -⟩ := klhx.out
  obtain ⟨bhy, dhy, Thy, rfl, -⟩ := klhy.out
  obtain ⟨bhh, dhh, Thh, rfl, -⟩ := klhh.out
  obtain ⟨du, hu1, hu2⟩ := under_term
  obtain ⟨dh, dh1, dh2⟩ := under_of 51 (by kernel_rfl)
  obtain ⟨dr, dr1, dr2⟩ := under_of 45 (by kernel_rfl)
  unfold hv
  go_enter Try.func59, Try.ntmps59
  go_upto_region 1 with fail
  refine at_code (fun V0 hV0 => ?_)
  obtain ⟨k3, x1, x2, z4⟩ := alloc2 hV0
  have Kk5 := Lib.hid k3
  clear k3
  have Hx1 := Lib.hid x1
  have Hx2 := Lib.hid x2
  have Z0 := Lib.hid z4
  clear z4 x1 x2 hV0
  have HLha : Hid (LiesQ V0 (Par w V0.heap.size [] P) h.a.kids _) := (par_in _ _ hlha).later Kk5.out
  clear hlha
  have HLhb : Hid (LiesQ V0 (Par w V0.heap.size [] P) h.b.kids _) := (par_in _ _ hlhb).later Kk5.out
  clear hlhb
  have HLhx : Hid (LiesQ V0 (Par w V0.heap.size [] P) h.x.kids _) := (par_in _ _ hlhx).later Kk5.out
  clear hlhx
  have HLhy : Hid (LiesQ V0 (Par w V0.heap.size [] P) h.y.kids _) := (par_in _ _ hlhy).later Kk5.out
  clear hlhy
  have HLhh : Hid (LiesQ V0 (Par w V0.heap.size [] P) h.h.kids _) := (par_in _ _ hlhh).later Kk5.out
  clear hlhh
  have HLzha : Hid (LiesQ V0 (Par w V0.heap.size [] P) h.a.kids _) := (par_in _ _ klha).later Kk5.out
  clear klha
  have HLzhb : Hid (LiesQ V0 (Par w V0.heap.size [] P) h.b.kids _) := (par_in _ _ klhb).later Kk5.out
  clear klhb
  have HLzhx : Hid (LiesQ V0 (Par w V0.heap.size [] P) h.x.kids _) := (par_in _ _ klhx).later Kk5.out
  clear klhx
  have HLzhy : Hid (LiesQ V0 (Par w V0.heap.size [] P) h.y.kids _) := (par_in _ _ klhy).later Kk5.out
  clear klhy
  have HLzhh : Hid (LiesQ V0 (Par w V0.heap.size [] P) h.h.kids _) := (par_in _ _ klhh).later Kk5.out
  clear klhh
  have ld6 := partN_cell (r := V0.heap.size) Hx1.out trivial 0 (.int .i64 h.i) rfl
  have ld7 := partN_cell (r := V0.heap.size) Hx2.out trivial 0 (.int .i64 h.i) rfl
  have kvV0 : SeesN V0 V0.heap.size V0 := seesN_kept _ (kept_refl _)
  go_wp2_with (refine stop_load 32 (.tmp 11) rfl ?_)
  intro _
  refine wpList_load_part (w.heap.size) 1 32 (.tmp 11) #[.int .i64 h.a.k, .int .i64 h.a.i, .int .i64 h.a.j, .int .i64 h.a.n, (.slice aha h.a.kids.length cha)] du Hx1.out (by rfl) rfl (by rfl) (by rfl) hu1 (by cases du <;> first | rfl | exact hu2) size_term ?_
  go_wp2_with (refine stop_load 32 (.tmp 13) rfl ?_)
  intro _
  refine wpList_load_part (w.heap.size + 1) 1 32 (.tmp 13) #[.int .i64 h.a.k, .int .i64 h.a.i, .int .i64 h.a.j, .int .i64 h.a.n, (.slice bha h.a.kids.length dha)] du Hx2.out (by rfl) rfl (by rfl) (by rfl) hu1 (by cases du <;> first | rfl | exact hu2) size_term ?_
  go_wp2_with fail
  clear kvV0
  refine (keepsame_eq h.a _ (.slice aha h.a.kids.length cha) (.slice bha h.a.kids.length dha) HLha.out.lies HLzha.out.lies).mono ?_
  rintro e w8 ⟨rfl, k9⟩
  have Kk10 := Lib.hid k9
  clear k9
  have kvV0 : SeesN V0 V0.heap.size w8 := seesN_kept _ Kk10.out
  go_wp2_with (refine stop_load 32 (.tmp 18) rfl ?_)
  intro _
  refine wpList_load_part (w.heap.size) 6 32 (.tmp 18) #[.int .i64 h.b.k, .int .i64 h.b.i, .int .i64 h.b.j, .int .i64 h.b.n, (.slice ahb h.b.kids.length chb)] du (blk_at Hx1.out Kk10.out) (by rfl) rfl (by rfl) (by rfl) hu1 (by cases du <;> first | rfl | exact hu2) size_term ?_
  go_wp2_with (refine stop_load 32 (.tmp 20) rfl ?_)
  intro _
  refine wpList_load_part (w.heap.size + 1) 6 32 (.tmp 20) #[.int .i64 h.b.k, .int .i64 h.b.i, .int .i64 h.b.j, .int .i64 h.b.n, (.slice bhb h.b.kids.length dhb)] du (blk_at Hx2.out Kk10.out) (by rfl) rfl (by rfl) (by rfl) hu1 (by cases du <;> first | rfl | exact hu2) size_term ?_
  go_wp2_with fail
  clear kvV0
  refine (keepsame_eq h.b _ (.slice ahb h.b.kids.length chb) (.slice bhb h.b.kids.length dhb) (HLhb.out.later Kk10.out).lies (HLzhb.out.later Kk10.out).lies).mono ?_
  rintro e w11 ⟨rfl, k12⟩
  have Kk13 := Lib.hid k12
  clear k12
  have kvV0 : SeesN V0 V0.heap.size w11 := seesN_kept _ (kept_trans Kk10.out Kk13.out)
  go_wp2_with (refine stop_load 32 (.tmp 25) rfl ?_)
  intro _
  refine wpList_load_part (w.heap.size) 11 32 (.tmp 25) #[.int .i64 h.x.k, .int .i64 h.x.i, .int .i64 h.x.j, .int .i64 h.x.n, (.slice ahx h.x.kids.length chx)] du (blk_at Hx1.out (kept_trans Kk10.out Kk13.out)) (by rfl) rfl (by rfl) (by rfl) hu1 (by cases du <;> first | rfl | exact hu2) size_term ?_
  go_wp2_with (refine stop_load 32 (.tmp 27) rfl ?_)
  intro _
  refine wpList_load_part (w.heap.size + 1) 11 32 (.tmp 27) #[.int .i64 h.x.k, .int .i64 h.x.i, .int .i64 h.x.j, .int .i64 h.x.n, (.slice bhx h.x.kids.length dhx)] du (blk_at Hx2.out (kept_trans Kk10.out Kk13.out)) (by rfl) rfl (by rfl) (by rfl) hu1 (by cases du <;> first | rfl | exact hu2) size_term ?_
  go_wp2_with fail
  clear kvV0
  refine (keepsame_eq h.x _ (.slice ahx h.x.kids.length chx) (.slice bhx h.x.kids.length dhx) (HLhx.out.later (kept_trans Kk10.out Kk13.out)).lies (HLzhx.out.later (kept_trans Kk10.out Kk13.out)).lies).mono ?_
  rintro e w14 ⟨rfl, k15⟩
  have Kk16 := Lib.hid k15
  clear k15
  have kvV0 : SeesN V0 V0.heap.size w14 := seesN_kept _ (kept_trans Kk10.out (kept_trans Kk13.out Kk16.out))
  go_wp2_with (refine stop_load 32 (.tmp 32) rfl ?_)
  intro _
  refine wpList_load_part (w.heap.size) 16 32 (.tmp 32) #[.int .i64 h.y.k, .int .i64 h.y.i, .int .i64 h.y.j, .int .i64 h.y.n, (.slice ahy h.y.kids.length chy)] du (blk_at Hx1.out (kept_trans Kk10.out (kept_trans Kk13.out Kk16.out))) (by rfl) rfl (by rfl) (by rfl) hu1 (by cases du <;> first | rfl | exact hu2) size_term ?_
  go_wp2_with (refine stop_load 32 (.tmp 34) rfl ?_)
  intro _
  refine wpList_load_part (w.heap.size + 1) 16 32 (.tmp 34) #[.int .i64 h.y.k, .int .i64 h.y.i, .int .i64 h.y.j, .int .i64 h.y.n, (.slice bhy h.y.kids.length dhy)] du (blk_at Hx2.out (kept_trans Kk10.out (kept_trans Kk13.out Kk16.out))) (by rfl) rfl (by rfl) (by rfl) hu1 (by cases du <;> first | rfl | exact hu2) size_term ?_
  go_wp2_with fail
  clear kvV0
  refine (keepsame_eq h.y _ (.slice ahy h.y.kids.length chy) (.slice bhy h.y.kids.length dhy) (HLhy.out.later (kept_trans Kk10.out (kept_trans Kk13.out Kk16.out))).lies (HLzhy.out.later (kept_trans Kk10.out (kept_trans Kk13.out Kk16.out))).lies).mono ?_
  rintro e w17 ⟨rfl, k18⟩
  have Kk19 := Lib.hid k18
  clear k18
  have kvV0 : SeesN V0 V0.heap.size w17 := seesN_kept _ (kept_trans Kk10.out (kept_trans Kk13.out (kept_trans Kk16.out Kk19.out)))
  go_wp2_with (refine stop_load 32 (.tmp 39) rfl ?_)
  intro _
  refine wpList_load_part (w.heap.size) 21 32 (.tmp 39) #[.int .i64 h.h.k, .int .i64 h.h.i, .int .i64 h.h.j, .int .i64 h.h.n, (.slice ahh h.h.kids.length chh)] du (blk_at Hx1.out (kept_trans Kk10.out (kept_trans Kk13.out (kept_trans Kk16.out Kk19.out)))) (by rfl) rfl (by rfl) (by rfl) hu1 (by cases du <;> first | rfl | exact hu2) size_term ?_
  go_wp2_with (refine stop_load 32 (.tmp 41) rfl ?_)
  intro _
  refine wpList_load_part (w.heap.size + 1) 21 32 (.tmp 41) #[.int .i64 h.h.k, .int .i64 h.h.i, .int .i64 h.h.j, .int .i64 h.h.n, (.slice bhh h.h.kids.length dhh)] du (blk_at Hx2.out (kept_trans Kk10.out (kept_trans Kk13.out (kept_trans Kk16.out Kk19.out)))) (by rfl) rfl (by rfl) (by rfl) hu1 (by cases du <;> first | rfl | exact hu2) size_term ?_
  go_wp2_with fail
  clear kvV0
  refine (keepsame_eq h.h _ (.slice ahh h.h.kids.length chh) (.slice bhh h.h.kids.length dhh) (HLhh.out.later (kept_trans Kk10.out (kept_trans Kk13.out (kept_trans Kk16.out Kk19.out)))).lies (HLzhh.out.later (kept_trans Kk10.out (kept_trans Kk13.out (kept_trans Kk16.out Kk19.out)))).lies).mono ?_
  rintro e w20 ⟨rfl, k21⟩
  have Kk22 := Lib.hid k21
  clear k21
  have kvV0 : SeesN V0 V0.heap.size w20 := seesN_kept _ (kept_trans Kk10.out (kept_trans Kk13.out (kept_trans Kk16.out (kept_trans Kk19.out Kk22.out))))
  go_wp2
  go_ret
  exact ⟨rfl, (kept_trans Kk5.out (kept_trans Kk10.out (kept_trans Kk13.out (kept_trans Kk16.out (kept_trans Kk19.out Kk22.out)))))⟩

def lheavy2r6_0 : Oper := { dst := some 26, op := Go.Op.move (Go.Operand.tmp 1), type := 114, pos := "law.go:50", after := #[], guard := none }
def lheavy2r6_1 : Oper := { dst := some 27, op := Go.Op.move (Go.Operand.tmp 5), type := 3, pos := "law.go:50", after := #[], guard := none }
def lheavy2r6_2 : Oper := { dst := some 28, op := Go.Op.indexAddr 114 (Go.Operand.tmp 26) (Go.Operand.tmp 27), type := 0, pos := "law.go:50", after := #[{ on := 0, ground := Go.Ground.data }, { on := 1, ground := Go.Ground.data }], guard := none }
def lheavy2r6_3 : Oper := { dst := some 29, op := Go.Op.fieldAddr 45 (Go.Operand.tmp 28) 1, type := 0, pos := "law.go:50", after := #[{ on := 2, ground := Go.Ground.data }], guard := none }
def lheavy2r6_4 : Oper := { dst := some 30, op := Go.Op.load 32 (Go.Operand.tmp 29), type := 32, pos := "law.go:50", after := #[{ on := 3, ground := Go.Ground.data }], guard := none }
def lheavy2r6_5 : Oper := { dst := some 31, op := Go.Op.move (Go.Operand.tmp 1), type := 114, pos := "law.go:50", after := #[], guard := none }
def lheavy2r6_6 : Oper := { dst := some 32, op := Go.Op.move (Go.Operand.tmp 5), type := 3, pos := "law.go:50", after := #[], guard := none }
def lheavy2r6_7 : Oper := { dst := some 33, op := Go.Op.indexAddr 114 (Go.Operand.tmp 31) (Go.Operand.tmp 32), type := 0, pos := "law.go:50", after := #[{ on := 5, ground := Go.Ground.data }, { on := 6, ground := Go.Ground.data }], guard := none }
def lheavy2r6_8 : Oper := { dst := some 34, op := Go.Op.fieldAddr 45 (Go.Operand.tmp 33) 2, type := 0, pos := "law.go:50", after := #[{ on := 7, ground := Go.Ground.data }], guard := none }
def lheavy2r6_9 : Oper := { dst := some 35, op := Go.Op.load 32 (Go.Operand.tmp 34), type := 32, pos := "law.go:50", after := #[{ on := 8, ground := Go.Ground.data }], guard := none }
def lheavy2r6_10 : Oper := { dst := some 36, op := Go.Op.move (Go.Operand.tmp 1), type := 114, pos := "law.go:50", after := #[], guard := none }
def lheavy2r6_11 : Oper := { dst := some 37, op := Go.Op.move (Go.Operand.tmp 5), type := 3, pos := "law.go:50", after := #[], guard := none }
def lheavy2r6_12 : Oper := { dst := some 38, op := Go.Op.indexAddr 114 (Go.Operand.tmp 36) (Go.Operand.tmp 37), type := 0, pos := "law.go:50", after := #[{ on := 10, ground := Go.Ground.data }, { on := 11, ground := Go.Ground.data }], guard := none }
def lheavy2r6_13 : Oper := { dst := some 39, op := Go.Op.fieldAddr 45 (Go.Operand.tmp 38) 3, type := 0, pos := "law.go:50", after := #[{ on := 12, ground := Go.Ground.data }], guard := none }
def lheavy2r6_14 : Oper := { dst := some 40, op := Go.Op.load 32 (Go.Operand.tmp 39), type := 32, pos := "law.go:50", after := #[{ on := 13, ground := Go.Ground.data }], guard := none }
def lheavy2r6_15 : Oper := { dst := some 41, op := Go.Op.move (Go.Operand.tmp 1), type := 114, pos := "law.go:50", after := #[], guard := none }
def lheavy2r6_16 : Oper := { dst := some 42, op := Go.Op.move (Go.Operand.tmp 5), type := 3, pos := "law.go:50", after := #[], guard := none }
def lheavy2r6_17 : Oper := { dst := some 43, op := Go.Op.indexAddr 114 (Go.Operand.tmp 41) (Go.Operand.tmp 42), type := 0, pos := "law.go:50", after := #[{ on := 15, ground := Go.Ground.data }, { on := 16, ground := Go.Ground.data }], guard := none }
def lheavy2r6_18 : Oper := { dst := some 44, op := Go.Op.fieldAddr 45 (Go.Operand.tmp 43) 4, type := 0, pos := "law.go:50", after := #[{ on := 17, ground := Go.Ground.data }], guard := none }
def lheavy2r6_19 : Oper := { dst := some 45, op := Go.Op.load 32 (Go.Operand.tmp 44), type := 32, pos := "law.go:50", after := #[{ on := 18, ground := Go.Ground.data }], guard := none }
def lheavy2r6_20 : Oper := { dst := some 46, op := Go.Op.move (Go.Operand.tmp 1), type := 114, pos := "law.go:50", after := #[], guard := none }
def lheavy2r6_21 : Oper := { dst := some 47, op := Go.Op.move (Go.Operand.tmp 5), type := 3, pos := "law.go:50", after := #[], guard := none }
def lheavy2r6_22 : Oper := { dst := some 48, op := Go.Op.indexAddr 114 (Go.Operand.tmp 46) (Go.Operand.tmp 47), type := 0, pos := "law.go:50", after := #[{ on := 20, ground := Go.Ground.data }, { on := 21, ground := Go.Ground.data }], guard := none }
def lheavy2r6_23 : Oper := { dst := some 49, op := Go.Op.fieldAddr 45 (Go.Operand.tmp 48) 5, type := 0, pos := "law.go:50", after := #[{ on := 22, ground := Go.Ground.data }], guard := none }
def lheavy2r6_24 : Oper := { dst := some 50, op := Go.Op.load 32 (Go.Operand.tmp 49), type := 32, pos := "law.go:50", after := #[{ on := 23, ground := Go.Ground.data }], guard := none }
def lheavy2r6_25 : Oper := { dst := some 51, op := Go.Op.buildSlice 30 5 #[(0, Go.Operand.tmp 30), (1, Go.Operand.tmp 35), (2, Go.Operand.tmp 40), (3, Go.Operand.tmp 45), (4, Go.Operand.tmp 50)], type := 30, pos := "law.go:50", after := #[{ on := 4, ground := Go.Ground.data }, { on := 9, ground := Go.Ground.data }, { on := 14, ground := Go.Ground.data }, { on := 19, ground := Go.Ground.data }, { on := 24, ground := Go.Ground.data }], guard := none }
def lheavy2r6_26 : Oper := { dst := some 52, op := Go.Op.call { callee := Go.Callee.value (Go.Operand.func 53), args := #[Go.Operand.tmp 51, Go.Operand.const (Go.Value.int Go.IntKind.i64 120)], argTypes := #[30, 3] }, type := 4, pos := "law.go:50", after := #[{ on := 25, ground := Go.Ground.data }], guard := none }
set_option maxRecDepth 20000 in
set_option maxHeartbeats 4000000 in
theorem lheavy2_any (g : Fm) (r : He) (s : He) (P : Nat → Prop) (w : World) (sga : Value) (sgc : Value) (sgb : Value) (sgd : Value) (sge : Value) (sgf : Value) (b0 : Nat) (sra : Value) (srb : Value) (srx : Value) (sry : Value) (srh : Value) (ssa : Value) (ssb : Value) (ssx : Value) (ssy : Value) (ssh : Value) (hfg : g.fine) (hlg : FQ w P g sga sgc sgb sgd sge sgf) (hfr : r.fine) (hlr : HQ w P r sra srb srx sry srh) (hfs : s.fine) (hls : HQ w P s ssa ssb ssx ssy ssh) (hb0 : w.heap[b0]? = some (.cells #[.int .i64 r.i, .int .i64 r.a.k, .int .i64 r.a.i, .int .i64 r.a.j, .int .i64 r.a.n, sra, .int .i64 r.b.k, .int .i64 r.b.i, .int .i64 r.b.j, .int .i64 r.b.n, srb, .int .i64 r.x.k, .int .i64 r.x.i, .int .i64 r.x.j, .int .i64 r.x.n, srx, .int .i64 r.y.k, .int .i64 r.y.i, .int .i64 r.y.j, .int .i64 r.y.n, sry, .int .i64 r.h.k, .int .i64 r.h.i, .int .i64 r.h.j, .int .i64 r.h.n, srh, .int .i64 s.i, .int .i64 s.a.k, .int .i64 s.a.i, .int .i64 s.a.j, .int .i64 s.a.n, ssa, .int .i64 s.b.k, .int .i64 s.b.i, .int .i64 s.b.j, .int .i64 s.b.n, ssb, .int .i64 s.x.k, .int .i64 s.x.i, .int .i64 s.x.j, .int .i64 s.x.n, ssx, .int .i64 s.y.k, .int .i64 s.y.i, .int .i64 s.y.j, .int .i64 s.y.n, ssy, .int .i64 s.h.k, .int .i64 s.h.i, .int .i64 s.h.j, .int .i64 s.h.n, ssh] 45 (0, 0))) : Calls Try.prog 52 #[fv g sga sgc sgb sgd sge sgf, .slice (some ⟨b0, 0, none⟩) 2 2] w (GivesG ((∀ t ∈ [g.a, g.c, g.b, g.d, g.e, g.f], t.deep ≤ 99999) ∧ (∀ t ∈ [r.a, r.b, r.x, r.y, r.h], t.deep ≤ 99999) ∧ (∀ t ∈ [s.a, s.b, s.x, s.y, s.h], t.deep ≤ 99999)) w) := by
  have Gg := Lib.hid hfg
  clear hfg
  obtain ⟨hlga, hlgc, hlgb, hlgd, hlge, hlgf⟩ := hlg
  obtain ⟨aga, cga, Sga, rfl, -⟩ := hlga.out
  obtain ⟨agc, cgc, Sgc, rfl, -⟩ := hlgc.out
  obtain ⟨agb, cgb, Sgb, rfl, -⟩ := hlgb.out
  obtain ⟨agd, cgd, Sgd, rfl, -⟩ := hlgd.out
  obtain ⟨age, cge, Sge, rfl, -⟩ := hlge.out
  obtain ⟨agf, cgf, Sgf, rfl, -⟩ := hlgf.out
  have Gr := Lib.hid hfr
  clear hfr
  obtain ⟨hlra, hlrb, hlrx, hlry, hlrh⟩ := hlr
  obtain ⟨ara, cra, Sra, rfl, -⟩ := hlra.out
  obtain ⟨arb, crb, Srb, rfl, -⟩ := hlrb.out
  obtain ⟨arx, crx, Srx, rfl, -⟩ := hlrx.out
  obtain ⟨ary, cry, Sry, rfl, -⟩ := hlry.out
  obtain ⟨arh, crh, Srh, rfl, -⟩ := hlrh.out
  have Gs := Lib.hid hfs
  clear hfs
  obtain ⟨hlsa, hlsb, hlsx, hlsy, hlsh⟩ := hls
  obtain ⟨asa, csa, Ssa, rfl, -⟩ := hlsa.out
  obtain ⟨asb, csb, Ssb, rfl, -⟩ := hlsb.out
  obtain ⟨asx, csx, Ssx, rfl, -⟩ := hlsx.out
  obtain ⟨asy, csy, Ssy, rfl, -⟩ := hlsy.out
  obtain ⟨ash, csh, Ssh, rfl, -⟩ := hlsh.out
  have HB0 := Lib.hid hb0
  clear hb0
  obtain ⟨du, hu1, hu2⟩ := under_term
  obtain ⟨dq, dq1, dq2⟩ := under_of 69 (by kernel_rfl)
  unfold fv
  go_enter Try.func52, Try.ntmps52
  go_upto_region 1 with fail
  refine at_code (fun V0 hV0 => ?_)
  obtain ⟨k2, x1, z3⟩ := alloc1 hV0
  have Kk4 := Lib.hid k2
  clear k2
  have Hx1 := Lib.hid x1
  have Z0 := Lib.hid z3
  clear z3 x1 hV0
  have HLga : Hid (LiesQ V0 (Par w V0.heap.size [] P) g.a.kids _) := (par_in _ _ hlga).later Kk4.out
  clear hlga
  have HLgc : Hid (LiesQ V0 (Par w V0.heap.size [] P) g.c.kids _) := (par_in _ _ hlgc).later Kk4.out
  clear hlgc
  have HLgb : Hid (LiesQ V0 (Par w V0.heap.size [] P) g.b.kids _) := (par_in _ _ hlgb).later Kk4.out
  clear hlgb
  have HLgd : Hid (LiesQ V0 (Par w V0.heap.size [] P) g.d.kids _) := (par_in _ _ hlgd).later Kk4.out
  clear hlgd
  have HLge : Hid (LiesQ V0 (Par w V0.heap.size [] P) g.e.kids _) := (par_in _ _ hlge).later Kk4.out
  clear hlge
  have HLgf : Hid (LiesQ V0 (Par w V0.heap.size [] P) g.f.kids _) := (par_in _ _ hlgf).later Kk4.out
  clear hlgf
  have HLra : Hid (LiesQ V0 (Par w V0.heap.size [] P) r.a.kids _) := (par_in _ _ hlra).later Kk4.out
  clear hlra
  have HLrb : Hid (LiesQ V0 (Par w V0.heap.size [] P) r.b.kids _) := (par_in _ _ hlrb).later Kk4.out
  clear hlrb
  have HLrx : Hid (LiesQ V0 (Par w V0.heap.size [] P) r.x.kids _) := (par_in _ _ hlrx).later Kk4.out
  clear hlrx
  have HLry : Hid (LiesQ V0 (Par w V0.heap.size [] P) r.y.kids _) := (par_in _ _ hlry).later Kk4.out
  clear hlry
  have HLrh : Hid (LiesQ V0 (Par w V0.heap.size [] P) r.h.kids _) := (par_in _ _ hlrh).later Kk4.out
  clear hlrh
  have HLsa : Hid (LiesQ V0 (Par w V0.heap.size [] P) s.a.kids _) := (par_in _ _ hlsa).later Kk4.out
  clear hlsa
  have HLsb : Hid (LiesQ V0 (Par w V0.heap.size [] P) s.b.kids _) := (par_in _ _ hlsb).later Kk4.out
  clear hlsb
  have HLsx : Hid (LiesQ V0 (Par w V0.heap.size [] P) s.x.kids _) := (par_in _ _ hlsx).later Kk4.out
  clear hlsx
  have HLsy : Hid (LiesQ V0 (Par w V0.heap.size [] P) s.y.kids _) := (par_in _ _ hlsy).later Kk4.out
  clear hlsy
  have HLsh : Hid (LiesQ V0 (Par w V0.heap.size [] P) s.h.kids _) := (par_in _ _ hlsh).later Kk4.out
  clear hlsh
  have kvV0 : SeesN V0 V0.heap.size V0 := seesN_kept _ (kept_refl _)
  go_wp2_with (refine stop_load 32 (.tmp 6) rfl ?_)
  intro _
  refine wpList_load_part (w.heap.size) 2 32 (.tmp 6) #[.int .i64 g.a.k, .int .i64 g.a.i, .int .i64 g.a.j, .int .i64 g.a.n, (.slice aga g.a.kids.length cga)] du Hx1.out (by rfl) rfl (by rfl) (by rfl) hu1 (by cases du <;> first | rfl | exact hu2) size_term ?_
  go_wp2_with (refine stop_load 32 (.tmp 8) rfl ?_)
  intro _
  refine wpList_load_part (w.heap.size) 7 32 (.tmp 8) #[.int .i64 g.c.k, .int .i64 g.c.i, .int .i64 g.c.j, .int .i64 g.c.n, (.slice agc g.c.kids.length cgc)] du Hx1.out (by rfl) rfl (by rfl) (by rfl) hu1 (by cases du <;> first | rfl | exact hu2) size_term ?_
  go_wp2_with (refine stop_load 32 (.tmp 10) rfl ?_)
  intro _
  refine wpList_load_part (w.heap.size) 12 32 (.tmp 10) #[.int .i64 g.b.k, .int .i64 g.b.i, .int .i64 g.b.j, .int .i64 g.b.n, (.slice agb g.b.kids.length cgb)] du Hx1.out (by rfl) rfl (by rfl) (by rfl) hu1 (by cases du <;> first | rfl | exact hu2) size_term ?_
  go_wp2_with (refine stop_load 32 (.tmp 12) rfl ?_)
  intro _
  refine wpList_load_part (w.heap.size) 17 32 (.tmp 12) #[.int .i64 g.d.k, .int .i64 g.d.i, .int .i64 g.d.j, .int .i64 g.d.n, (.slice agd g.d.kids.length cgd)] du Hx1.out (by rfl) rfl (by rfl) (by rfl) hu1 (by cases du <;> first | rfl | exact hu2) size_term ?_
  go_wp2_with (refine stop_load 32 (.tmp 14) rfl ?_)
  intro _
  refine wpList_load_part (w.heap.size) 22 32 (.tmp 14) #[.int .i64 g.e.k, .int .i64 g.e.i, .int .i64 g.e.j, .int .i64 g.e.n, (.slice age g.e.kids.length cge)] du Hx1.out (by rfl) rfl (by rfl) (by rfl) hu1 (by cases du <;> first | rfl | exact hu2) size_term ?_
  go_wp2_with (refine stop_load 32 (.tmp 16) rfl ?_)
  intro _
  refine wpList_load_part (w.heap.size) 27 32 (.tmp 16) #[.int .i64 g.f.k, .int .i64 g.f.i, .int .i64 g.f.j, .int .i64 g.f.n, (.slice agf g.f.kids.length cgf)] du Hx1.out (by rfl) rfl (by rfl) (by rfl) hu1 (by cases du <;> first | rfl | exact hu2) size_term ?_
  go_wp2_with fail
  refine at_world (fun W6 hW6 => ?_)
  clear kvV0
  obtain ⟨k8, x7, z9⟩ := alloc1 hW6
  have Kk10 := Lib.hid k8
  clear k8
  have Hx7 := Lib.hid x7
  have Hz9 := Lib.hid z9
  clear x7 z9 hW6
  have HR11 := Lib.hid (q_row6 Hx7.out Gg.out.2.2.1 (HLga.out.later Kk10.out) Gg.out.2.2.2.1 (HLgc.out.later Kk10.out) Gg.out.2.2.2.2.1 (HLgb.out.later Kk10.out) Gg.out.2.2.2.2.2.1 (HLgd.out.later Kk10.out) Gg.out.2.2.2.2.2.2.1 (HLge.out.later Kk10.out) Gg.out.2.2.2.2.2.2.2 (HLgf.out.later Kk10.out) (par_new (Nat.le_refl _) (xlt_nil _) (Nat.le_refl _)))
  refine (greats9_any [g.a, g.c, g.b, g.d, g.e, g.f] 120 (by decide) _ _ HR11.out.lies).mono ?_
  rintro e w12 ⟨gb14, rfl, hg15, k13⟩
  have Hhg15 := Lib.hid hg15
  clear hg15
  have Kk16 := Lib.hid k13
  clear k13
  cases gb14 with
  | false =>
    have HIhg15 := Lib.hid (Hhg15.out rfl)
    have kvV0 : SeesN V0 V0.heap.size w12 := seesN_kept _ (kept_trans Kk10.out Kk16.out)
    go_wp2_with fail
    clear kvV0
    go_loopw [5] (fun iv wr => ∃ i : Int, 0 ≤ i ∧ i ≤ 2 ∧ iv = .int .i64 i ∧ Hid ((1 ≤ i → ∀ t ∈ [r.a, r.b, r.x, r.y, r.h], t.deep ≤ 99999) ∧ (2 ≤ i → ∀ t ∈ [s.a, s.b, s.x, s.y, s.h], t.deep ≤ 99999)) ∧ Kept w12 wr) (fun iv _ => 2 - (intOf iv).toNat)
    case atStart => exact ⟨0, by decide, by decide, rfl, ⟨(fun h => absurd h (by decide)), (fun h => absurd h (by decide))⟩, kept_refl _⟩
    case round =>
      obtain ⟨i, hi0, hi1, rfl, hv18, k17⟩ := hrel
      have Kk19 := Lib.hid k17
      clear k17
      have HVhv18 := Lib.hid hv18.out
      clear hv18
      obtain rfl | rfl | rfl : i = 0 ∨ i = 1 ∨ i = 2 := by omega
      · clear hi0 hi1
        have kvV0 : SeesN V0 V0.heap.size wr := seesN_kept _ (kept_trans Kk10.out (kept_trans Kk16.out Kk19.out))
        go_wp2_with fail
        clear kvV0
        obtain ⟨W20, h21⟩ : ∃ x, World.drew wr = x := ⟨_, rfl⟩
        have k22 : Kept wr W20 := by rw [← h21]; exact kept_drew (kept_refl _)
        have Kk23 := Lib.hid k22
        clear k22
        refine wp_region_held_drew (S := SeesN W20 V0.heap.size) (by kernel_rfl) ?_ (fun hHeld => ?_)
        · (try dsimp only)
          rw [h21]
          exact seesN_kept _ (kept_refl _)
        rw [h21] at hHeld ⊢
        clear h21
        refine take_at 0 26 lheavy2r6_0 (v := ?_) (Or.inl ⟨by rfl, ?_⟩) ?_
        rotate_left 1
        · ((intro w hSw; (try dsimp only at hSw); unfold lheavy2r6_0; go_simp) <;> with_reducible rfl)
        (try simp only [Act.put, List.setIfInBounds_toArray, List.set_cons_zero, List.set_cons_succ])
        refine take_at 1 27 lheavy2r6_1 (v := ?_) (Or.inl ⟨by rfl, ?_⟩) ?_
        rotate_left 1
        · ((intro w hSw; (try dsimp only at hSw); unfold lheavy2r6_1; go_simp) <;> with_reducible rfl)
        (try simp only [Act.put, List.setIfInBounds_toArray, List.set_cons_zero, List.set_cons_succ])
        refine take_at 2 28 lheavy2r6_2 (v := ?_) (Or.inl ⟨by rfl, ?_⟩) ?_
        rotate_left 1
        · ((intro w hSw; (try dsimp only at hSw); unfold lheavy2r6_2; go_simp) <;> with_reducible rfl)
        (try simp only [Act.put, List.setIfInBounds_toArray, List.set_cons_zero, List.set_cons_succ])
        refine take_at 3 29 lheavy2r6_3 (v := ?_) (Or.inl ⟨by rfl, ?_⟩) ?_
        rotate_left 1
        · ((intro w hSw; (try dsimp only at hSw); unfold lheavy2r6_3; go_simp) <;> with_reducible rfl)
        (try simp only [Act.put, List.setIfInBounds_toArray, List.set_cons_zero, List.set_cons_succ])
        refine take_at 4 30 lheavy2r6_4 (yields_part (b0) 1 32 (.tmp 29) #[.int .i64 r.a.k, .int .i64 r.a.i, .int .i64 r.a.j, .int .i64 r.a.n, (.slice ara r.a.kids.length cra)] du (fun _ h => seesN_blk HB0.out trivial (seesN_of (kept_trans Kk4.out (kept_trans Kk10.out (kept_trans Kk16.out (kept_trans Kk19.out Kk23.out)))) h)) (by rfl) rfl (by rfl) (by rfl) hu1 (by cases du <;> first | rfl | exact hu2) size_term) ?_
        (try simp only [Act.put, List.setIfInBounds_toArray, List.set_cons_zero, List.set_cons_succ])
        refine take_at 5 31 lheavy2r6_5 (v := ?_) (Or.inl ⟨by rfl, ?_⟩) ?_
        rotate_left 1
        · ((intro w hSw; (try dsimp only at hSw); unfold lheavy2r6_5; go_simp) <;> with_reducible rfl)
        (try simp only [Act.put, List.setIfInBounds_toArray, List.set_cons_zero, List.set_cons_succ])
        refine take_at 6 32 lheavy2r6_6 (v := ?_) (Or.inl ⟨by rfl, ?_⟩) ?_
        rotate_left 1
        · ((intro w hSw; (try dsimp only at hSw); unfold lheavy2r6_6; go_simp) <;> with_reducible rfl)
        (try simp only [Act.put, List.setIfInBounds_toArray, List.set_cons_zero, List.set_cons_succ])
        refine take_at 7 33 lheavy2r6_7 (v := ?_) (Or.inl ⟨by rfl, ?_⟩) ?_
        rotate_left 1
        · ((intro w hSw; (try dsimp only at hSw); unfold lheavy2r6_7; go_simp) <;> with_reducible rfl)
        (try simp only [Act.put, List.setIfInBounds_toArray, List.set_cons_zero, List.set_cons_succ])
        refine take_at 8 34 lheavy2r6_8 (v := ?_) (Or.inl ⟨by rfl, ?_⟩) ?_
        rotate_left 1
        · ((intro w hSw; (try dsimp only at hSw); unfold lheavy2r6_8; go_simp) <;> with_reducible rfl)
        (try simp only [Act.put, List.setIfInBounds_toArray, List.set_cons_zero, List.set_cons_succ])
        refine take_at 9 35 lheavy2r6_9 (yields_part (b0) 6 32 (.tmp 34) #[.int .i64 r.b.k, .int .i64 r.b.i, .int .i64 r.b.j, .int .i64 r.b.n, (.slice arb r.b.kids.length crb)] du (fun _ h => seesN_blk HB0.out trivial (seesN_of (kept_trans Kk4.out (kept_trans Kk10.out (kept_trans Kk16.out (kept_trans Kk19.out Kk23.out)))) h)) (by rfl) rfl (by rfl) (by rfl) hu1 (by cases du <;> first | rfl | exact hu2) size_term) ?_
        (try simp only [Act.put, List.setIfInBounds_toArray, List.set_cons_zero, List.set_cons_succ])
        refine take_at 10 36 lheavy2r6_10 (v := ?_) (Or.inl ⟨by rfl, ?_⟩) ?_
        rotate_left 1
        · ((intro w hSw; (try dsimp only at hSw); unfold lheavy2r6_10; go_simp) <;> with_reducible rfl)
        (try simp only [Act.put, List.setIfInBounds_toArray, List.set_cons_zero, List.set_cons_succ])
        refine take_at 11 37 lheavy2r6_11 (v := ?_) (Or.inl ⟨by rfl, ?_⟩) ?_
        rotate_left 1
        · ((intro w hSw; (try dsimp only at hSw); unfold lheavy2r6_11; go_simp) <;> with_reducible rfl)
        (try simp only [Act.put, List.setIfInBounds_toArray, List.set_cons_zero, List.set_cons_succ])
        refine take_at 12 38 lheavy2r6_12 (v := ?_) (Or.inl ⟨by rfl, ?_⟩) ?_
        rotate_left 1
        · ((intro w hSw; (try dsimp only at hSw); unfold lheavy2r6_12; go_simp) <;> with_reducible rfl)
        (try simp only [Act.put, List.setIfInBounds_toArray, List.set_cons_zero, List.set_cons_succ])
        refine take_at 13 39 lheavy2r6_13 (v := ?_) (Or.inl ⟨by rfl, ?_⟩) ?_
        rotate_left 1
        · ((intro w hSw; (try dsimp only at hSw); unfold lheavy2r6_13; go_simp) <;> with_reducible rfl)
        (try simp only [Act.put, List.setIfInBounds_toArray, List.set_cons_zero, List.set_cons_succ])
        refine take_at 14 40 lheavy2r6_14 (yields_part (b0) 11 32 (.tmp 39) #[.int .i64 r.x.k, .int .i64 r.x.i, .int .i64 r.x.j, .int .i64 r.x.n, (.slice arx r.x.kids.length crx)] du (fun _ h => seesN_blk HB0.out trivial (seesN_of (kept_trans Kk4.out (kept_trans Kk10.out (kept_trans Kk16.out (kept_trans Kk19.out Kk23.out)))) h)) (by rfl) rfl (by rfl) (by rfl) hu1 (by cases du <;> first | rfl | exact hu2) size_term) ?_
        (try simp only [Act.put, List.setIfInBounds_toArray, List.set_cons_zero, List.set_cons_succ])
        refine take_at 15 41 lheavy2r6_15 (v := ?_) (Or.inl ⟨by rfl, ?_⟩) ?_
        rotate_left 1
        · ((intro w hSw; (try dsimp only at hSw); unfold lheavy2r6_15; go_simp) <;> with_reducible rfl)
        (try simp only [Act.put, List.setIfInBounds_toArray, List.set_cons_zero, List.set_cons_succ])
        refine take_at 16 42 lheavy2r6_16 (v := ?_) (Or.inl ⟨by rfl, ?_⟩) ?_
        rotate_left 1
        · ((intro w hSw; (try dsimp only at hSw); unfold lheavy2r6_16; go_simp) <;> with_reducible rfl)
        (try simp only [Act.put, List.setIfInBounds_toArray, List.set_cons_zero, List.set_cons_succ])
        refine take_at 17 43 lheavy2r6_17 (v := ?_) (Or.inl ⟨by rfl, ?_⟩) ?_
        rotate_left 1
        · ((intro w hSw; (try dsimp only at hSw); unfold lheavy2r6_17; go_simp) <;> with_reducible rfl)
        (try simp only [Act.put, List.setIfInBounds_toArray, List.set_cons_zero, List.set_cons_succ])
        refine take_at 18 44 lheavy2r6_18 (v := ?_) (Or.inl ⟨by rfl, ?_⟩) ?_
        rotate_left 1
        · ((intro w hSw; (try dsimp only at hSw); unfold lheavy2r6_18; go_simp) <;> with_reducible rfl)
        (try simp only [Act.put, List.setIfInBounds_toArray, List.set_cons_zero, List.set_cons_succ])
        refine take_at 19 45 lheavy2r6_19 (yields_part (b0) 16 32 (.tmp 44) #[.int .i64 r.y.k, .int .i64 r.y.i, .int .i64 r.y.j, .int .i64 r.y.n, (.slice ary r.y.kids.length cry)] du (fun _ h => seesN_blk HB0.out trivial (seesN_of (kept_trans Kk4.out (kept_trans Kk10.out (kept_trans Kk16.out (kept_trans Kk19.out Kk23.out)))) h)) (by rfl) rfl (by rfl) (by rfl) hu1 (by cases du <;> first | rfl | exact hu2) size_term) ?_
        (try simp only [Act.put, List.setIfInBounds_toArray, List.set_cons_zero, List.set_cons_succ])
        refine take_at 20 46 lheavy2r6_20 (v := ?_) (Or.inl ⟨by rfl, ?_⟩) ?_
        rotate_left 1
        · ((intro w hSw; (try dsimp only at hSw); unfold lheavy2r6_20; go_simp) <;> with_reducible rfl)
        (try simp only [Act.put, List.setIfInBounds_toArray, List.set_cons_zero, List.set_cons_succ])
        refine take_at 21 47 lheavy2r6_21 (v := ?_) (Or.inl ⟨by rfl, ?_⟩) ?_
        rotate_left 1
        · ((intro w hSw; (try dsimp only at hSw); unfold lheavy2r6_21; go_simp) <;> with_reducible rfl)
        (try simp only [Act.put, List.setIfInBounds_toArray, List.set_cons_zero, List.set_cons_succ])
        refine take_at 22 48 lheavy2r6_22 (v := ?_) (Or.inl ⟨by rfl, ?_⟩) ?_
        rotate_left 1
        · ((intro w hSw; (try dsimp only at hSw); unfold lheavy2r6_22; go_simp) <;> with_reducible rfl)
        (try simp only [Act.put, List.setIfInBounds_toArray, List.set_cons_zero, List.set_cons_succ])
        refine take_at 23 49 lheavy2r6_23 (v := ?_) (Or.inl ⟨by rfl, ?_⟩) ?_
        rotate_left 1
        · ((intro w hSw; (try dsimp only at hSw); unfold lheavy2r6_23; go_simp) <;> with_reducible rfl)
        (try simp only [Act.put, List.setIfInBounds_toArray, List.set_cons_zero, List.set_cons_succ])
        refine take_at 24 50 lheavy2r6_24 (yields_part (b0) 21 32 (.tmp 49) #[.int .i64 r.h.k, .int .i64 r.h.i, .int .i64 r.h.j, .int .i64 r.h.n, (.slice arh r.h.kids.length crh)] du (fun _ h => seesN_blk HB0.out trivial (seesN_of (kept_trans Kk4.out (kept_trans Kk10.out (kept_trans Kk16.out (kept_trans Kk19.out Kk23.out)))) h)) (by rfl) rfl (by rfl) (by rfl) hu1 (by cases du <;> first | rfl | exact hu2) size_term) ?_
        (try simp only [Act.put, List.setIfInBounds_toArray, List.set_cons_zero, List.set_cons_succ])
        refine wpAnyH_ready (rs := [25]) (by kernel_rfl) (by simp) ?_
        refine AllReadyH.cons (o := lheavy2r6_25) rfl (fun K hK => ?_) ?_
        · unfold lheavy2r6_25
          go_simp
          refine at_K (fun W25 hW25 => ?_)
          obtain ⟨g29, hg30, Kk27, Hx26, Hz28, KV31, HN32⟩ := alloc1v (kept_trans Kk10.out (kept_trans Kk16.out (kept_trans Kk19.out Kk23.out))) hW25
          rw [hg30]
          clear hW25
          have HR33 := Lib.hid (q_row5 Hx26.out Gr.out.2.1 (HLra.out.later KV31.out) Gr.out.2.2.1 (HLrb.out.later KV31.out) Gr.out.2.2.2.1 (HLrx.out.later KV31.out) Gr.out.2.2.2.2.1 (HLry.out.later KV31.out) Gr.out.2.2.2.2.2 (HLrh.out.later KV31.out) (par_newg HN32.out (fun h => nomatch h)))
          clear hg30
          clear hHeld
          refine hK.out _ _ (seesN_kept _ Kk27.out) (fun hHeld => ?_)
          clear hK K
          (try simp only [Act.put, List.setIfInBounds_toArray, List.set_cons_zero, List.set_cons_succ])
          refine wpAnyH_ready (rs := [26]) (by kernel_rfl) (by simp) ?_
          refine AllReadyH.cons (o := lheavy2r6_26) rfl (fun K hK => ?_) ?_
          · unfold lheavy2r6_26
            go_simp
            refine (greats9_any [r.a, r.b, r.x, r.y, r.h] 120 (by decide) _ _ HR33.out.lies).mono ?_
            rintro e w34 ⟨gb36, rfl, hg37, k35⟩
            have Hhg37 := Lib.hid hg37
            clear hg37
            have Kk38 := Lib.hid k35
            clear k35
            cases gb36 with
            | false =>
              have HIhg37 := Lib.hid (Hhg37.out rfl)
              clear hHeld
              refine hK.out _ _ (seesN_kept _ (kept_trans Kk27.out Kk38.out)) (fun hHeld => ?_)
              clear hK K
              (try simp only [Act.put, List.setIfInBounds_toArray, List.set_cons_zero, List.set_cons_succ])
              refine wpAnyH_done (by kernel_rfl) ?_ _
              clear hHeld
              have kvV0 : SeesN V0 V0.heap.size w34 := seesN_kept _ (kept_trans Kk10.out (kept_trans Kk16.out (kept_trans Kk19.out (kept_trans Kk23.out (kept_trans Kk27.out Kk38.out)))))
              go_wp2
              go_roundw
              case rel => exact ⟨1, by decide, by decide, by go_num, ⟨(fun _ => HIhg37.out.2), (fun h => absurd h (by decide))⟩, (kept_trans Kk19.out (kept_trans Kk23.out (kept_trans Kk27.out Kk38.out)))⟩
              case measure => simp [intOf]
            | true =>
              clear hHeld
              refine hK.out _ _ (seesN_kept _ (kept_trans Kk27.out Kk38.out)) (fun hHeld => ?_)
              clear hK K
              (try simp only [Act.put, List.setIfInBounds_toArray, List.set_cons_zero, List.set_cons_succ])
              refine wpAnyH_done (by kernel_rfl) ?_ _
              clear hHeld
              have kvV0 : SeesN V0 V0.heap.size w34 := seesN_kept _ (kept_trans Kk10.out (kept_trans Kk16.out (kept_trans Kk19.out (kept_trans Kk23.out (kept_trans Kk27.out Kk38.out)))))
              go_wp2
              go_ret
              exact ⟨true, rfl, (fun h => Bool.noConfusion h), (kept_trans Kk4.out (kept_trans Kk10.out (kept_trans Kk16.out (kept_trans Kk19.out (kept_trans Kk23.out (kept_trans Kk27.out Kk38.out))))))⟩
          exact AllReadyH.nil
        exact AllReadyH.nil
      · clear hi0 hi1
        have kvV0 : SeesN V0 V0.heap.size wr := seesN_kept _ (kept_trans Kk10.out (kept_trans Kk16.out Kk19.out))
        go_wp2_with fail
        clear kvV0
        obtain ⟨W39, h40⟩ : ∃ x, World.drew wr = x := ⟨_, rfl⟩
        have k41 : Kept wr W39 := by rw [← h40]; exact kept_drew (kept_refl _)
        have Kk42 := Lib.hid k41
        clear k41
        refine wp_region_held_drew (S := SeesN W39 V0.heap.size) (by kernel_rfl) ?_ (fun hHeld => ?_)
        · (try dsimp only)
          rw [h40]
          exact seesN_kept _ (kept_refl _)
        rw [h40] at hHeld ⊢
        clear h40
        refine take_at 0 26 lheavy2r6_0 (v := ?_) (Or.inl ⟨by rfl, ?_⟩) ?_
        rotate_left 1
        · ((intro w hSw; (try dsimp only at hSw); unfold lheavy2r6_0; go_simp) <;> with_reducible rfl)
        (try simp only [Act.put, List.setIfInBounds_toArray, List.set_cons_zero, List.set_cons_succ])
        refine take_at 1 27 lheavy2r6_1 (v := ?_) (Or.inl ⟨by rfl, ?_⟩) ?_
        rotate_left 1
        · ((intro w hSw; (try dsimp only at hSw); unfold lheavy2r6_1; go_simp) <;> with_reducible rfl)
        (try simp only [Act.put, List.setIfInBounds_toArray, List.set_cons_zero, List.set_cons_succ])
        refine take_at 2 28 lheavy2r6_2 (v := ?_) (Or.inl ⟨by rfl, ?_⟩) ?_
        rotate_left 1
        · ((intro w hSw; (try dsimp only at hSw); unfold lheavy2r6_2; go_simp) <;> with_reducible rfl)
        (try simp only [Act.put, List.setIfInBounds_toArray, List.set_cons_zero, List.set_cons_succ])
        refine take_at 3 29 lheavy2r6_3 (v := ?_) (Or.inl ⟨by rfl, ?_⟩) ?_
        rotate_left 1
        · ((intro w hSw; (try dsimp only at hSw); unfold lheavy2r6_3; go_simp) <;> with_reducible rfl)
        (try simp only [Act.put, List.setIfInBounds_toArray, List.set_cons_zero, List.set_cons_succ])
        refine take_at 4 30 lheavy2r6_4 (yields_part (b0) 27 32 (.tmp 29) #[.int .i64 s.a.k, .int .i64 s.a.i, .int .i64 s.a.j, .int .i64 s.a.n, (.slice asa s.a.kids.length csa)] du (fun _ h => seesN_blk HB0.out trivial (seesN_of (kept_trans Kk4.out (kept_trans Kk10.out (kept_trans Kk16.out (kept_trans Kk19.out Kk42.out)))) h)) (by rfl) rfl (by rfl) (by rfl) hu1 (by cases du <;> first | rfl | exact hu2) size_term) ?_
        (try simp only [Act.put, List.setIfInBounds_toArray, List.set_cons_zero, List.set_cons_succ])
        refine take_at 5 31 lheavy2r6_5 (v := ?_) (Or.inl ⟨by rfl, ?_⟩) ?_
        rotate_left 1
        · ((intro w hSw; (try dsimp only at hSw); unfold lheavy2r6_5; go_simp) <;> with_reducible rfl)
        (try simp only [Act.put, List.setIfInBounds_toArray, List.set_cons_zero, List.set_cons_succ])
        refine take_at 6 32 lheavy2r6_6 (v := ?_) (Or.inl ⟨by rfl, ?_⟩) ?_
        rotate_left 1
        · ((intro w hSw; (try dsimp only at hSw); unfold lheavy2r6_6; go_simp) <;> with_reducible rfl)
        (try simp only [Act.put, List.setIfInBounds_toArray, List.set_cons_zero, List.set_cons_succ])
        refine take_at 7 33 lheavy2r6_7 (v := ?_) (Or.inl ⟨by rfl, ?_⟩) ?_
        rotate_left 1
        · ((intro w hSw; (try dsimp only at hSw); unfold lheavy2r6_7; go_simp) <;> with_reducible rfl)
        (try simp only [Act.put, List.setIfInBounds_toArray, List.set_cons_zero, List.set_cons_succ])
        refine take_at 8 34 lheavy2r6_8 (v := ?_) (Or.inl ⟨by rfl, ?_⟩) ?_
        rotate_left 1
        · ((intro w hSw; (try dsimp only at hSw); unfold lheavy2r6_8; go_simp) <;> with_reducible rfl)
        (try simp only [Act.put, List.setIfInBounds_toArray, List.set_cons_zero, List.set_cons_succ])
        refine take_at 9 35 lheavy2r6_9 (yields_part (b0) 32 32 (.tmp 34) #[.int .i64 s.b.k, .int .i64 s.b.i, .int .i64 s.b.j, .int .i64 s.b.n, (.slice asb s.b.kids.length csb)] du (fun _ h => seesN_blk HB0.out trivial (seesN_of (kept_trans Kk4.out (kept_trans Kk10.out (kept_trans Kk16.out (kept_trans Kk19.out Kk42.out)))) h)) (by rfl) rfl (by rfl) (by rfl) hu1 (by cases du <;> first | rfl | exact hu2) size_term) ?_
        (try simp only [Act.put, List.setIfInBounds_toArray, List.set_cons_zero, List.set_cons_succ])
        refine take_at 10 36 lheavy2r6_10 (v := ?_) (Or.inl ⟨by rfl, ?_⟩) ?_
        rotate_left 1
        · ((intro w hSw; (try dsimp only at hSw); unfold lheavy2r6_10; go_simp) <;> with_reducible rfl)
        (try simp only [Act.put, List.setIfInBounds_toArray, List.set_cons_zero, List.set_cons_succ])
        refine take_at 11 37 lheavy2r6_11 (v := ?_) (Or.inl ⟨by rfl, ?_⟩) ?_
        rotate_left 1
        · ((intro w hSw; (try dsimp only at hSw); unfold lheavy2r6_11; go_simp) <;> with_reducible rfl)
        (try simp only [Act.put, List.setIfInBounds_toArray, List.set_cons_zero, List.set_cons_succ])
        refine take_at 12 38 lheavy2r6_12 (v := ?_) (Or.inl ⟨by rfl, ?_⟩) ?_
        rotate_left 1
        · ((intro w hSw; (try dsimp only at hSw); unfold lheavy2r6_12; go_simp) <;> with_reducible rfl)
        (try simp only [Act.put, List.setIfInBounds_toArray, List.set_cons_zero, List.set_cons_succ])
        refine take_at 13 39 lheavy2r6_13 (v := ?_) (Or.inl ⟨by rfl, ?_⟩) ?_
        rotate_left 1
        · ((intro w hSw; (try dsimp only at hSw); unfold lheavy2r6_13; go_simp) <;> with_reducible rfl)
        (try simp only [Act.put, List.setIfInBounds_toArray, List.set_cons_zero, List.set_cons_succ])
        refine take_at 14 40 lheavy2r6_14 (yields_part (b0) 37 32 (.tmp 39) #[.int .i64 s.x.k, .int .i64 s.x.i, .int .i64 s.x.j, .int .i64 s.x.n, (.slice asx s.x.kids.length csx)] du (fun _ h => seesN_blk HB0.out trivial (seesN_of (kept_trans Kk4.out (kept_trans Kk10.out (kept_trans Kk16.out (kept_trans Kk19.out Kk42.out)))) h)) (by rfl) rfl (by rfl) (by rfl) hu1 (by cases du <;> first | rfl | exact hu2) size_term) ?_
        (try simp only [Act.put, List.setIfInBounds_toArray, List.set_cons_zero, List.set_cons_succ])
        refine take_at 15 41 lheavy2r6_15 (v := ?_) (Or.inl ⟨by rfl, ?_⟩) ?_
        rotate_left 1
        · ((intro w hSw; (try dsimp only at hSw); unfold lheavy2r6_15; go_simp) <;> with_reducible rfl)
        (try simp only [Act.put, List.setIfInBounds_toArray, List.set_cons_zero, List.set_cons_succ])
        refine take_at 16 42 lheavy2r6_16 (v := ?_) (Or.inl ⟨by rfl, ?_⟩) ?_
        rotate_left 1
        · ((intro w hSw; (try dsimp only at hSw); unfold lheavy2r6_16; go_simp) <;> with_reducible rfl)
        (try simp only [Act.put, List.setIfInBounds_toArray, List.set_cons_zero, List.set_cons_succ])
        refine take_at 17 43 lheavy2r6_17 (v := ?_) (Or.inl ⟨by rfl, ?_⟩) ?_
        rotate_left 1
        · ((intro w hSw; (try dsimp only at hSw); unfold lheavy2r6_17; go_simp) <;> with_reducible rfl)
        (try simp only [Act.put, List.setIfInBounds_toArray, List.set_cons_zero, List.set_cons_succ])
        refine take_at 18 44 lheavy2r6_18 (v := ?_) (Or.inl ⟨by rfl, ?_⟩) ?_
        rotate_left 1
        · ((intro w hSw; (try dsimp only at hSw); unfold lheavy2r6_18; go_simp) <;> with_reducible rfl)
        (try simp only [Act.put, List.setIfInBounds_toArray, List.set_cons_zero, List.set_cons_succ])
        refine take_at 19 45 lheavy2r6_19 (yields_part (b0) 42 32 (.tmp 44) #[.int .i64 s.y.k, .int .i64 s.y.i, .int .i64 s.y.j, .int .i64 s.y.n, (.slice asy s.y.kids.length csy)] du (fun _ h => seesN_blk HB0.out trivial (seesN_of (kept_trans Kk4.out (kept_trans Kk10.out (kept_trans Kk16.out (kept_trans Kk19.out Kk42.out)))) h)) (by rfl) rfl (by rfl) (by rfl) hu1 (by cases du <;> first | rfl | exact hu2) size_term) ?_
        (try simp only [Act.put, List.setIfInBounds_toArray, List.set_cons_zero, List.set_cons_succ])
        refine take_at 20 46 lheavy2r6_20 (v := ?_) (Or.inl ⟨by rfl, ?_⟩) ?_
        rotate_left 1
        · ((intro w hSw; (try dsimp only at hSw); unfold lheavy2r6_20; go_simp) <;> with_reducible rfl)
        (try simp only [Act.put, List.setIfInBounds_toArray, List.set_cons_zero, List.set_cons_succ])
        refine take_at 21 47 lheavy2r6_21 (v := ?_) (Or.inl ⟨by rfl, ?_⟩) ?_
        rotate_left 1
        · ((intro w hSw; (try dsimp only at hSw); unfold lheavy2r6_21; go_simp) <;> with_reducible rfl)
        (try simp only [Act.put, List.setIfInBounds_toArray, List.set_cons_zero, List.set_cons_succ])
        refine take_at 22 48 lheavy2r6_22 (v := ?_) (Or.inl ⟨by rfl, ?_⟩) ?_
        rotate_left 1
        · ((intro w hSw; (try dsimp only at hSw); unfold lheavy2r6_22; go_simp) <;> with_reducible rfl)
        (try simp only [Act.put, List.setIfInBounds_toArray, List.set_cons_zero, List.set_cons_succ])
        refine take_at 23 49 lheavy2r6_23 (v := ?_) (Or.inl ⟨by rfl, ?_⟩) ?_
        rotate_left 1
        · ((intro w hSw; (try dsimp only at hSw); unfold lheavy2r6_23; go_simp) <;> with_reducible rfl)
        (try simp only [Act.put, List.setIfInBounds_toArray, List.set_cons_zero, List.set_cons_succ])
        refine take_at 24 50 lheavy2r6_24 (yields_part (b0) 47 32 (.tmp 49) #[.int .i64 s.h.k, .int .i64 s.h.i, .int .i64 s.h.j, .int .i64 s.h.n, (.slice ash s.h.kids.length csh)] du (fun _ h => seesN_blk HB0.out trivial (seesN_of (kept_trans Kk4.out (kept_trans Kk10.out (kept_trans Kk16.out (kept_trans Kk19.out Kk42.out)))) h)) (by rfl) rfl (by rfl) (by rfl) hu1 (by cases du <;> first | rfl | exact hu2) size_term) ?_
        (try simp only [Act.put, List.setIfInBounds_toArray, List.set_cons_zero, List.set_cons_succ])
        refine wpAnyH_ready (rs := [25]) (by kernel_rfl) (by simp) ?_
        refine AllReadyH.cons (o := lheavy2r6_25) rfl (fun K hK => ?_) ?_
        · unfold lheavy2r6_25
          go_simp
          refine at_K (fun W44 hW44 => ?_)
          obtain ⟨g48, hg49, Kk46, Hx45, Hz47, KV50, HN51⟩ := alloc1v (kept_trans Kk10.out (kept_trans Kk16.out (kept_trans Kk19.out Kk42.out))) hW44
          rw [hg49]
          clear hW44
          have HR52 := Lib.hid (q_row5 Hx45.out Gs.out.2.1 (HLsa.out.later KV50.out) Gs.out.2.2.1 (HLsb.out.later KV50.out) Gs.out.2.2.2.1 (HLsx.out.later KV50.out) Gs.out.2.2.2.2.1 (HLsy.out.later KV50.out) Gs.out.2.2.2.2.2 (HLsh.out.later KV50.out) (par_newg HN51.out (fun h => nomatch h)))
          clear hg49
          clear hHeld
          refine hK.out _ _ (seesN_kept _ Kk46.out) (fun hHeld => ?_)
          clear hK K
          (try simp only [Act.put, List.setIfInBounds_toArray, List.set_cons_zero, List.set_cons_succ])
          refine wpAnyH_ready (rs := [26]) (by kernel_rfl) (by simp) ?_
          refine AllReadyH.cons (o := lheavy2r6_26) rfl (fun K hK => ?_) ?_
          · unfold lheavy2r6_26
            go_simp
            refine (greats9_any [s.a, s.b, s.x, s.y, s.h] 120 (by decide) _ _ HR52.out.lies).mono ?_
            rintro e w53 ⟨gb55, rfl, hg56, k54⟩
            have Hhg56 := Lib.hid hg56
            clear hg56
            have Kk57 := Lib.hid k54
            clear k54
            cases gb55 with
            | false =>
              have HIhg56 := Lib.hid (Hhg56.out rfl)
              clear hHeld
              refine hK.out _ _ (seesN_kept _ (kept_trans Kk46.out Kk57.out)) (fun hHeld => ?_)
              clear hK K
              (try simp only [Act.put, List.setIfInBounds_toArray, List.set_cons_zero, List.set_cons_succ])
              refine wpAnyH_done (by kernel_rfl) ?_ _
              clear hHeld
              have kvV0 : SeesN V0 V0.heap.size w53 := seesN_kept _ (kept_trans Kk10.out (kept_trans Kk16.out (kept_trans Kk19.out (kept_trans Kk42.out (kept_trans Kk46.out Kk57.out)))))
              go_wp2
              go_roundw
              case rel => exact ⟨2, by decide, by decide, by go_num, ⟨(fun _ => HVhv18.out.1 (by decide)), (fun _ => HIhg56.out.2)⟩, (kept_trans Kk19.out (kept_trans Kk42.out (kept_trans Kk46.out Kk57.out)))⟩
              case measure => simp [intOf]
            | true =>
              clear hHeld
              refine hK.out _ _ (seesN_kept _ (kept_trans Kk46.out Kk57.out)) (fun hHeld => ?_)
              clear hK K
              (try simp only [Act.put, List.setIfInBounds_toArray, List.set_cons_zero, List.set_cons_succ])
              refine wpAnyH_done (by kernel_rfl) ?_ _
              clear hHeld
              have kvV0 : SeesN V0 V0.heap.size w53 := seesN_kept _ (kept_trans Kk10.out (kept_trans Kk16.out (kept_trans Kk19.out (kept_trans Kk42.out (kept_trans Kk46.out Kk57.out)))))
              go_wp2
              go_ret
              exact ⟨true, rfl, (fun h => Bool.noConfusion h), (kept_trans Kk4.out (kept_trans Kk10.out (kept_trans Kk16.out (kept_trans Kk19.out (kept_trans Kk42.out (kept_trans Kk46.out Kk57.out))))))⟩
          exact AllReadyH.nil
        exact AllReadyH.nil
      · clear hi0 hi1
        have kvV0 : SeesN V0 V0.heap.size wr := seesN_kept _ (kept_trans Kk10.out (kept_trans Kk16.out Kk19.out))
        go_wp2
        go_ret
        exact ⟨false, rfl, (fun _ => ⟨HIhg15.out.2, HVhv18.out.1 (by decide), HVhv18.out.2 (by decide)⟩), (kept_trans Kk4.out (kept_trans Kk10.out (kept_trans Kk16.out Kk19.out)))⟩
  | true =>
    have kvV0 : SeesN V0 V0.heap.size w12 := seesN_kept _ (kept_trans Kk10.out Kk16.out)
    go_wp2
    go_ret
    exact ⟨true, rfl, (fun h => Bool.noConfusion h), (kept_trans Kk4.out (kept_trans Kk10.out Kk16.out))⟩

end Go.Proofs.Ytkdceahmknhojaa

namespace Go.Proofs.Ytkdceahmknhojaa
open Go.RowKit

set_option maxRecDepth 20000 in
set_option maxHeartbeats 4000000 in
theorem cPi_any (g : Fm) (P : Nat → Prop) (w : World) (sga : Value) (sgc : Value) (sgb : Value) (sgd : Value) (sge : Value) (sgf : Value) (hfg : g.fine) (hlg : FQ w P g sga sgc sgb sgd sge sgf) : Calls Try.prog 55 #[fv g sga sgc sgb sgd sge sgf] w (GivesP P (cgPi g) w) := by
  have Gg := Lib.hid hfg
  clear hfg
  obtain ⟨hlga, hlgc, hlgb, hlgd, hlge, hlgf⟩ := hlg
  obtain ⟨aga, cga, Sga, rfl, -⟩ := hlga.out
  obtain ⟨agc, cgc, Sgc, rfl, -⟩ := hlgc.out
  obtain ⟨agb, cgb, Sgb, rfl, -⟩ := hlgb.out
  obtain ⟨agd, cgd, Sgd, rfl, -⟩ := hlgd.out
  obtain ⟨age, cge, Sge, rfl, -⟩ := hlge.out
  obtain ⟨agf, cgf, Sgf, rfl, -⟩ := hlgf.out
  obtain ⟨du, hu1, hu2⟩ := under_term
  obtain ⟨dg, dg1, dg2⟩ := under_of 72 (by kernel_rfl)
  unfold fv
  go_enter Try.func55, Try.ntmps55
  go_upto_region 1 with fail
  refine at_code (fun V0 hV0 => ?_)
  obtain ⟨k3, x1, x2, z4⟩ := alloc2 hV0
  have Kk5 := Lib.hid k3
  clear k3
  have Hx1 := Lib.hid x1
  have Hx2 := Lib.hid x2
  have Z0 := Lib.hid z4
  clear z4 x1 x2 hV0
  have HLga : Hid (LiesQ V0 (Par w V0.heap.size [] P) g.a.kids _) := (par_in _ _ hlga).later Kk5.out
  clear hlga
  have HLgc : Hid (LiesQ V0 (Par w V0.heap.size [] P) g.c.kids _) := (par_in _ _ hlgc).later Kk5.out
  clear hlgc
  have HLgb : Hid (LiesQ V0 (Par w V0.heap.size [] P) g.b.kids _) := (par_in _ _ hlgb).later Kk5.out
  clear hlgb
  have HLgd : Hid (LiesQ V0 (Par w V0.heap.size [] P) g.d.kids _) := (par_in _ _ hlgd).later Kk5.out
  clear hlgd
  have HLge : Hid (LiesQ V0 (Par w V0.heap.size [] P) g.e.kids _) := (par_in _ _ hlge).later Kk5.out
  clear hlge
  have HLgf : Hid (LiesQ V0 (Par w V0.heap.size [] P) g.f.kids _) := (par_in _ _ hlgf).later Kk5.out
  clear hlgf
  have kvV0 : Sees V0 (w.heap.size + 1) V0 := sees_kept _ (kept_refl _)
  go_wp2_with (refine stop_load 72 (.tmp 1) rfl ?_)
  intro _
  refine wpList_load_part (w.heap.size) 0 72 (.tmp 1) #[.int .i64 g.i, .int .i64 g.j, .int .i64 g.a.k, .int .i64 g.a.i, .int .i64 g.a.j, .int .i64 g.a.n, (.slice aga g.a.kids.length cga), .int .i64 g.c.k, .int .i64 g.c.i, .int .i64 g.c.j, .int .i64 g.c.n, (.slice agc g.c.kids.length cgc), .int .i64 g.b.k, .int .i64 g.b.i, .int .i64 g.b.j, .int .i64 g.b.n, (.slice agb g.b.kids.length cgb), .int .i64 g.d.k, .int .i64 g.d.i, .int .i64 g.d.j, .int .i64 g.d.n, (.slice agd g.d.kids.length cgd), .int .i64 g.e.k, .int .i64 g.e.i, .int .i64 g.e.j, .int .i64 g.e.n, (.slice age g.e.kids.length cge), .int .i64 g.f.k, .int .i64 g.f.i, .int .i64 g.f.j, .int .i64 g.f.n, (.slice agf g.f.kids.length cgf)] dg Hx1.out (by rfl) rfl (by rfl) (by rfl) dg1 (by cases dg <;> first | rfl | exact dg2) (by kernel_rfl) ?_
  go_wp2_with fail
  clear kvV0
  refine (cright_any g (Par w V0.heap.size [] P) _ (.slice aga g.a.kids.length cga) (.slice agc g.c.kids.length cgc) (.slice agb g.b.kids.length cgb) (.slice agd g.d.kids.length cgd) (.slice age g.e.kids.length cge) (.slice agf g.f.kids.length cgf) (show Fm.fine g from ⟨Gg.out.1, Gg.out.2.1, Gg.out.2.2.1, Gg.out.2.2.2.1, Gg.out.2.2.2.2.1, Gg.out.2.2.2.2.2.1, Gg.out.2.2.2.2.2.2.1, Gg.out.2.2.2.2.2.2.2⟩) ⟨HLga.out, HLgc.out, HLgb.out, HLgd.out, HLge.out, HLgf.out⟩).mono ?_
  obtain ⟨rb9, hb8⟩ : ∃ qb, (fmR g) = qb := ⟨_, rfl⟩
  rw [hb8]
  have Hhb8 := Lib.hid hb8
  clear hb8
  rintro e w6 ⟨rfl, k7⟩
  have Kk10 := Lib.hid k7
  clear k7
  cases rb9 with
  | false =>
    have kvV0 : Sees V0 (w.heap.size + 1) w6 := sees_kept _ Kk10.out
    go_wp2_with (refine stop_store 32 (.tmp 2) (.tmp 6) rfl ?_)
    intro _
    refine wpList_store_part_n (by rfl) 32 (.tmp 2) (.tmp 6) rfl (w.heap.size + 1) 0 #[.int .i64 0, .int .i64 0, .int .i64 0, .int .i64 0, .slice none 0 0] (by rfl) (by rfl) 32 size_term (row_ok rfl) ?_
    intro W11 hW11
    clear kvV0
    subst hW11
    refine ⟨_, #[.int .i64 0, .int .i64 0, .int .i64 0, .int .i64 0, .slice none 0 0], (blk_at Hx2.out Kk10.out), rfl, Nat.le_of_ble_eq_true rfl, ?_⟩
    intro W12 hW12
    go_wp2_with fail
    refine bodyPost_ret (results_cell_row rfl _ _ (w.heap.size + 1) 32 _ _ du rfl (blk_same (blk_at Hx2.out Kk10.out) hW12) hu1 (by cases du <;> first | rfl | exact hu2) size_term) rfl ?_
    rw [show cgPi g = (Tm.mk 0 0 0 0 []) from by unfold cgPi; rw [Hhb8.out]; (try rfl)]
    exact ⟨_, rfl, par_end (par_row' (liesQ_nil w6 (Par w V0.heap.size [] P)) hW12 (by omega) (by have := Z0.out; omega)) (by have := Z0.out; omega), kept_set (kept_trans Kk5.out Kk10.out) hW12 (by omega)⟩
  | true =>
    have kvV0 : Sees V0 (w.heap.size + 1) w6 := sees_kept _ Kk10.out
    go_wp2_with (refine stop_load 72 (.tmp 1) rfl ?_)
    intro _
    refine wpList_load_part (w.heap.size) 0 72 (.tmp 1) #[.int .i64 g.i, .int .i64 g.j, .int .i64 g.a.k, .int .i64 g.a.i, .int .i64 g.a.j, .int .i64 g.a.n, (.slice aga g.a.kids.length cga), .int .i64 g.c.k, .int .i64 g.c.i, .int .i64 g.c.j, .int .i64 g.c.n, (.slice agc g.c.kids.length cgc), .int .i64 g.b.k, .int .i64 g.b.i, .int .i64 g.b.j, .int .i64 g.b.n, (.slice agb g.b.kids.length cgb), .int .i64 g.d.k, .int .i64 g.d.i, .int .i64 g.d.j, .int .i64 g.d.n, (.slice agd g.d.kids.length cgd), .int .i64 g.e.k, .int .i64 g.e.i, .int .i64 g.e.j, .int .i64 g.e.n, (.slice age g.e.kids.length cge), .int .i64 g.f.k, .int .i64 g.f.i, .int .i64 g.f.j, .int .i64 g.f.n, (.slice agf g.f.kids.length cgf)] dg (blk_at Hx1.out Kk10.out) (by rfl) rfl (by rfl) (by rfl) dg1 (by cases dg <;> first | rfl | exact dg2) (by kernel_rfl) ?_
    go_wp2_with fail
    clear kvV0
    refine (cfuse_any 13 g [] (Par w V0.heap.size [] P) _ (.slice aga g.a.kids.length cga) (.slice agc g.c.kids.length cgc) (.slice agb g.b.kids.length cgb) (.slice agd g.d.kids.length cgd) (.slice age g.e.kids.length cge) (.slice agf g.f.kids.length cgf) (.slice none 0 0) (show Fm.fine g from ⟨Gg.out.1, Gg.out.2.1, Gg.out.2.2.1, Gg.out.2.2.2.1, Gg.out.2.2.2.2.1, Gg.out.2.2.2.2.2.1, Gg.out.2.2.2.2.2.2.1, Gg.out.2.2.2.2.2.2.2⟩) ⟨(HLga.out.later Kk10.out), (HLgc.out.later Kk10.out), (HLgb.out.later Kk10.out), (HLgd.out.later Kk10.out), (HLge.out.later Kk10.out), (HLgf.out.later Kk10.out)⟩ (show I64 13 from by unfold I64; decide) (liesQ_nil w6 (Par w V0.heap.size [] P)) Hhb8.out (fun _ h => nomatch h) (Nat.le_of_ble_eq_true rfl)).mono ?_
    obtain ⟨U20, hU20⟩ : ∃ qu, sixT 13 g [] = qu := ⟨_, rfl⟩
    rw [hU20]
    have HU20 := Lib.hid hU20
    clear hU20
    rintro e w13 ⟨s15, rfl, hl16, k14⟩
    obtain ⟨a17, c18, S19, rfl, -⟩ := hl16.out
    have Kk21 := Lib.hid k14
    clear k14
    have Hhl16 : Hid (LiesQ w13 (Par w V0.heap.size [] P) U20.kids _) := par_give hl16 (Below.size Kk10.out) (xlt_nil _)
    clear hl16
    have kvV0 : Sees V0 (w.heap.size + 1) w13 := sees_kept _ (kept_trans Kk10.out Kk21.out)
    go_wp2_with (refine stop_store 32 (.tmp 2) (.tmp 8) rfl ?_)
    intro _
    refine wpList_store_part_n (by rfl) 32 (.tmp 2) (.tmp 8) rfl (w.heap.size + 1) 0 #[.int .i64 U20.k, .int .i64 U20.i, .int .i64 U20.j, .int .i64 U20.n, (.slice a17 U20.kids.length c18)] (by rfl) (by rfl) 32 size_term (row_ok rfl) ?_
    intro W22 hW22
    clear kvV0
    subst hW22
    refine ⟨_, #[.int .i64 U20.k, .int .i64 U20.i, .int .i64 U20.j, .int .i64 U20.n, (.slice a17 U20.kids.length c18)], (blk_at Hx2.out (kept_trans Kk10.out Kk21.out)), rfl, Nat.le_of_ble_eq_true rfl, ?_⟩
    intro W23 hW23
    go_wp2_with fail
    refine bodyPost_ret (results_cell_row rfl _ _ (w.heap.size + 1) 32 _ _ du rfl (blk_same (blk_at Hx2.out (kept_trans Kk10.out Kk21.out)) hW23) hu1 (by cases du <;> first | rfl | exact hu2) size_term) rfl ?_
    rw [show cgPi g = U20 from by unfold cgPi; rw [Hhb8.out]; rw [← HU20.out]; (try rfl)]
    exact ⟨_, rfl, par_end (par_row' Hhl16.out hW23 (by omega) (by have := Z0.out; omega)) (by have := Z0.out; omega), kept_set (kept_trans Kk5.out (kept_trans Kk10.out Kk21.out)) hW23 (by omega)⟩

end Go.Proofs.Ytkdceahmknhojaa

namespace Go.Proofs.Ytkdceahmknhojaa
open Go.RowKit

def cFstr3_0 : Oper := { dst := some 15, op := Go.Op.fieldAddr 72 (Go.Operand.tmp 2) 0, type := 0, pos := "cong.go:85", after := #[], guard := none }
def cFstr3_1 : Oper := { dst := some 16, op := Go.Op.load 3 (Go.Operand.tmp 15), type := 3, pos := "cong.go:85", after := #[{ on := 0, ground := Go.Ground.data }], guard := none }
def cFstr3_2 : Oper := { dst := some 17, op := Go.Op.fieldAddr 72 (Go.Operand.tmp 2) 2, type := 0, pos := "cong.go:85", after := #[], guard := none }
def cFstr3_3 : Oper := { dst := some 18, op := Go.Op.load 32 (Go.Operand.tmp 17), type := 32, pos := "cong.go:85", after := #[{ on := 2, ground := Go.Ground.data }], guard := none }
def cFstr3_4 : Oper := { dst := some 19, op := Go.Op.fieldAddr 72 (Go.Operand.tmp 2) 3, type := 0, pos := "cong.go:85", after := #[], guard := none }
def cFstr3_5 : Oper := { dst := some 20, op := Go.Op.load 32 (Go.Operand.tmp 19), type := 32, pos := "cong.go:85", after := #[{ on := 4, ground := Go.Ground.data }], guard := none }
def cFstr3_6 : Oper := { dst := some 21, op := Go.Op.fieldAddr 51 (Go.Operand.tmp 3) 3, type := 0, pos := "cong.go:85", after := #[], guard := none }
def cFstr3_7 : Oper := { dst := some 22, op := Go.Op.load 32 (Go.Operand.tmp 21), type := 32, pos := "cong.go:85", after := #[{ on := 6, ground := Go.Ground.data }], guard := none }
def cFstr3_8 : Oper := { dst := some 23, op := Go.Op.call { callee := Go.Callee.value (Go.Operand.func 128), args := #[Go.Operand.const (Go.Value.int Go.IntKind.i64 18), Go.Operand.tmp 22], argTypes := #[3, 32] }, type := 32, pos := "cong.go:85", after := #[{ on := 7, ground := Go.Ground.data }], guard := none }
def cFstr3_9 : Oper := { dst := some 24, op := Go.Op.fieldAddr 51 (Go.Operand.tmp 3) 4, type := 0, pos := "cong.go:85", after := #[], guard := none }
def cFstr3_10 : Oper := { dst := some 25, op := Go.Op.load 32 (Go.Operand.tmp 24), type := 32, pos := "cong.go:85", after := #[{ on := 9, ground := Go.Ground.data }], guard := none }
def cFstr3_11 : Oper := { dst := some 26, op := Go.Op.call { callee := Go.Callee.value (Go.Operand.func 128), args := #[Go.Operand.const (Go.Value.int Go.IntKind.i64 18), Go.Operand.tmp 25], argTypes := #[3, 32] }, type := 32, pos := "cong.go:85", after := #[{ on := 10, ground := Go.Ground.data }, { on := 8, ground := Go.Ground.chain }], guard := none }
def cFstr3_12 : Oper := { dst := some 27, op := Go.Op.load 72 (Go.Operand.tmp 2), type := 72, pos := "cong.go:85", after := #[], guard := none }
def cFstr3_13 : Oper := { dst := some 28, op := Go.Op.fieldAddr 51 (Go.Operand.tmp 3) 3, type := 0, pos := "cong.go:85", after := #[], guard := none }
def cFstr3_14 : Oper := { dst := some 29, op := Go.Op.load 32 (Go.Operand.tmp 28), type := 32, pos := "cong.go:85", after := #[{ on := 13, ground := Go.Ground.data }], guard := none }
def cFstr3_15 : Oper := { dst := some 30, op := Go.Op.fieldAddr 51 (Go.Operand.tmp 3) 4, type := 0, pos := "cong.go:85", after := #[], guard := none }
def cFstr3_16 : Oper := { dst := some 31, op := Go.Op.load 32 (Go.Operand.tmp 30), type := 32, pos := "cong.go:85", after := #[{ on := 15, ground := Go.Ground.data }], guard := none }
def cFstr3_17 : Oper := { dst := some 32, op := Go.Op.fieldAddr 51 (Go.Operand.tmp 3) 5, type := 0, pos := "cong.go:85", after := #[], guard := none }
def cFstr3_18 : Oper := { dst := some 33, op := Go.Op.load 32 (Go.Operand.tmp 32), type := 32, pos := "cong.go:85", after := #[{ on := 17, ground := Go.Ground.data }], guard := none }
def cFstr3_19 : Oper := { dst := some 34, op := Go.Op.buildSlice 30 3 #[(0, Go.Operand.tmp 29), (1, Go.Operand.tmp 31), (2, Go.Operand.tmp 33)], type := 30, pos := "cong.go:85", after := #[{ on := 14, ground := Go.Ground.data }, { on := 16, ground := Go.Ground.data }, { on := 18, ground := Go.Ground.data }], guard := none }
def cFstr3_20 : Oper := { dst := some 35, op := Go.Op.call { callee := Go.Callee.value (Go.Operand.func 115), args := #[Go.Operand.tmp 27, Go.Operand.const (Go.Value.int Go.IntKind.i64 18), Go.Operand.tmp 34], argTypes := #[72, 3, 30] }, type := 32, pos := "cong.go:85", after := #[{ on := 12, ground := Go.Ground.data }, { on := 19, ground := Go.Ground.data }, { on := 11, ground := Go.Ground.chain }], guard := none }
def cFstr3_21 : Oper := { dst := some 36, op := Go.Op.build 51 #[(0, Go.Operand.tmp 16), (1, Go.Operand.tmp 18), (2, Go.Operand.tmp 20), (3, Go.Operand.tmp 23), (4, Go.Operand.tmp 26), (5, Go.Operand.tmp 35)], type := 51, pos := "cong.go:85", after := #[{ on := 1, ground := Go.Ground.data }, { on := 3, ground := Go.Ground.data }, { on := 5, ground := Go.Ground.data }, { on := 8, ground := Go.Ground.data }, { on := 11, ground := Go.Ground.data }, { on := 20, ground := Go.Ground.data }], guard := none }
def cFstr3_22 : Oper := { dst := some 37, op := Go.Op.call { callee := Go.Callee.value (Go.Operand.func 120), args := #[Go.Operand.tmp 36], argTypes := #[51] }, type := 51, pos := "cong.go:85", after := #[{ on := 21, ground := Go.Ground.data }, { on := 20, ground := Go.Ground.chain }], guard := none }
def cFstr3_23 : Oper := { dst := none, op := Go.Op.store 51 (Go.Operand.tmp 4) (Go.Operand.tmp 37), type := 0, pos := "cong.go:85", after := #[{ on := 22, ground := Go.Ground.data }, { on := 22, ground := Go.Ground.chain }, { on := 0, ground := Go.Ground.phase }, { on := 1, ground := Go.Ground.phase }, { on := 2, ground := Go.Ground.phase }, { on := 3, ground := Go.Ground.phase }, { on := 4, ground := Go.Ground.phase }, { on := 5, ground := Go.Ground.phase }, { on := 6, ground := Go.Ground.phase }, { on := 7, ground := Go.Ground.phase }, { on := 8, ground := Go.Ground.phase }, { on := 9, ground := Go.Ground.phase }, { on := 10, ground := Go.Ground.phase }, { on := 11, ground := Go.Ground.phase }, { on := 12, ground := Go.Ground.phase }, { on := 13, ground := Go.Ground.phase }, { on := 14, ground := Go.Ground.phase }, { on := 15, ground := Go.Ground.phase }, { on := 16, ground := Go.Ground.phase }, { on := 17, ground := Go.Ground.phase }, { on := 18, ground := Go.Ground.phase }, { on := 19, ground := Go.Ground.phase }, { on := 20, ground := Go.Ground.phase }, { on := 21, ground := Go.Ground.phase }, { on := 22, ground := Go.Ground.phase }], guard := none }
set_option maxRecDepth 20000 in
set_option maxHeartbeats 4000000 in
theorem cFst_any (s : He) (g : Fm) (P : Nat → Prop) (w : World) (sga : Value) (sgc : Value) (sgb : Value) (sgd : Value) (sge : Value) (sgf : Value) (ssa : Value) (ssb : Value) (ssx : Value) (ssy : Value) (ssh : Value) (hfg : g.fine) (hlg : FQ w P g sga sgc sgb sgd sge sgf) (hfs : s.fine) (hls : HQ w P s ssa ssb ssx ssy ssh) : Calls Try.prog 68 #[fv g sga sgc sgb sgd sge sgf, hv s ssa ssb ssx ssy ssh] w (GivesHP P (cgFst g s) w) := by
  have Gg := Lib.hid hfg
  clear hfg
  obtain ⟨hlga, hlgc, hlgb, hlgd, hlge, hlgf⟩ := hlg
  obtain ⟨aga, cga, Sga, rfl, -⟩ := hlga.out
  obtain ⟨agc, cgc, Sgc, rfl, -⟩ := hlgc.out
  obtain ⟨agb, cgb, Sgb, rfl, -⟩ := hlgb.out
  obtain ⟨agd, cgd, Sgd, rfl, -⟩ := hlgd.out
  obtain ⟨age, cge, Sge, rfl, -⟩ := hlge.out
  obtain ⟨agf, cgf, Sgf, rfl, -⟩ := hlgf.out
  have Gs := Lib.hid hfs
  clear hfs
  obtain ⟨hlsa, hlsb, hlsx, hlsy, hlsh⟩ := hls
  obtain ⟨asa, csa, Ssa, rfl, -⟩ := hlsa.out
  obtain ⟨asb, csb, Ssb, rfl, -⟩ := hlsb.out
  obtain ⟨asx, csx, Ssx, rfl, -⟩ := hlsx.out
  obtain ⟨asy, csy, Ssy, rfl, -⟩ := hlsy.out
  obtain ⟨ash, csh, Ssh, rfl, -⟩ := hlsh.out
  obtain ⟨du, hu1, hu2⟩ := under_term
  obtain ⟨dg, dg1, dg2⟩ := under_of 72 (by kernel_rfl)
  obtain ⟨dh, dh1, dh2⟩ := under_of 51 (by kernel_rfl)
  unfold hv
  unfold fv
  go_enter Try.func68, Try.ntmps68
  go_upto_region 1 with fail
  refine at_code (fun V0 hV0 => ?_)
  obtain ⟨k4, x1, x2, x3, z5⟩ := alloc3 hV0
  have Kk6 := Lib.hid k4
  clear k4
  have Hx1 := Lib.hid x1
  have Hx2 := Lib.hid x2
  have Hx3 := Lib.hid x3
  have Z0 := Lib.hid z5
  clear z5 x1 x2 x3 hV0
  have HLga : Hid (LiesQ V0 (Par w V0.heap.size [] P) g.a.kids _) := (par_in _ _ hlga).later Kk6.out
  clear hlga
  have HLgc : Hid (LiesQ V0 (Par w V0.heap.size [] P) g.c.kids _) := (par_in _ _ hlgc).later Kk6.out
  clear hlgc
  have HLgb : Hid (LiesQ V0 (Par w V0.heap.size [] P) g.b.kids _) := (par_in _ _ hlgb).later Kk6.out
  clear hlgb
  have HLgd : Hid (LiesQ V0 (Par w V0.heap.size [] P) g.d.kids _) := (par_in _ _ hlgd).later Kk6.out
  clear hlgd
  have HLge : Hid (LiesQ V0 (Par w V0.heap.size [] P) g.e.kids _) := (par_in _ _ hlge).later Kk6.out
  clear hlge
  have HLgf : Hid (LiesQ V0 (Par w V0.heap.size [] P) g.f.kids _) := (par_in _ _ hlgf).later Kk6.out
  clear hlgf
  have HLsa : Hid (LiesQ V0 (Par w V0.heap.size [] P) s.a.kids _) := (par_in _ _ hlsa).later Kk6.out
  clear hlsa
  have HLsb : Hid (LiesQ V0 (Par w V0.heap.size [] P) s.b.kids _) := (par_in _ _ hlsb).later Kk6.out
  clear hlsb
  have HLsx : Hid (LiesQ V0 (Par w V0.heap.size [] P) s.x.kids _) := (par_in _ _ hlsx).later Kk6.out
  clear hlsx
  have HLsy : Hid (LiesQ V0 (Par w V0.heap.size [] P) s.y.kids _) := (par_in _ _ hlsy).later Kk6.out
  clear hlsy
  have HLsh : Hid (LiesQ V0 (Par w V0.heap.size [] P) s.h.kids _) := (par_in _ _ hlsh).later Kk6.out
  clear hlsh
  have ld7 := part_cell (r := (w.heap.size + 2)) Hx1.out (by have := Z0.out; omega) 0 (.int .i64 g.i) rfl
  have kvV0 : Sees V0 (w.heap.size + 2) V0 := sees_kept _ (kept_refl _)
  go_wp2_with (refine stop_load 72 (.tmp 2) rfl ?_)
  intro _
  refine wpList_load_part (w.heap.size) 0 72 (.tmp 2) #[.int .i64 g.i, .int .i64 g.j, .int .i64 g.a.k, .int .i64 g.a.i, .int .i64 g.a.j, .int .i64 g.a.n, (.slice aga g.a.kids.length cga), .int .i64 g.c.k, .int .i64 g.c.i, .int .i64 g.c.j, .int .i64 g.c.n, (.slice agc g.c.kids.length cgc), .int .i64 g.b.k, .int .i64 g.b.i, .int .i64 g.b.j, .int .i64 g.b.n, (.slice agb g.b.kids.length cgb), .int .i64 g.d.k, .int .i64 g.d.i, .int .i64 g.d.j, .int .i64 g.d.n, (.slice agd g.d.kids.length cgd), .int .i64 g.e.k, .int .i64 g.e.i, .int .i64 g.e.j, .int .i64 g.e.n, (.slice age g.e.kids.length cge), .int .i64 g.f.k, .int .i64 g.f.i, .int .i64 g.f.j, .int .i64 g.f.n, (.slice agf g.f.kids.length cgf)] dg Hx1.out (by rfl) rfl (by rfl) (by rfl) dg1 (by cases dg <;> first | rfl | exact dg2) (by kernel_rfl) ?_
  go_wp2_with fail
  clear kvV0
  refine (cright_any g (Par w V0.heap.size [] P) _ (.slice aga g.a.kids.length cga) (.slice agc g.c.kids.length cgc) (.slice agb g.b.kids.length cgb) (.slice agd g.d.kids.length cgd) (.slice age g.e.kids.length cge) (.slice agf g.f.kids.length cgf) (show Fm.fine g from ⟨Gg.out.1, Gg.out.2.1, Gg.out.2.2.1, Gg.out.2.2.2.1, Gg.out.2.2.2.2.1, Gg.out.2.2.2.2.2.1, Gg.out.2.2.2.2.2.2.1, Gg.out.2.2.2.2.2.2.2⟩) ⟨HLga.out, HLgc.out, HLgb.out, HLgd.out, HLge.out, HLgf.out⟩).mono ?_
  obtain ⟨rb11, hb10⟩ : ∃ qb, (fmR g) = qb := ⟨_, rfl⟩
  rw [hb10]
  have Hhb10 := Lib.hid hb10
  clear hb10
  rintro e w8 ⟨rfl, k9⟩
  have Kk12 := Lib.hid k9
  clear k9
  cases rb11 with
  | false =>
    have kvV0 : Sees V0 (w.heap.size + 2) w8 := sees_kept _ Kk12.out
    go_wp2_with (refine stop_store 51 (.tmp 4) (.tmp 14) rfl ?_)
    intro _
    refine wpList_store_part_n (by rfl) 51 (.tmp 4) (.tmp 14) rfl (w.heap.size + 2) 0 #[.int .i64 0, .int .i64 0, .int .i64 0, .int .i64 0, .int .i64 0, .slice none 0 0, .int .i64 0, .int .i64 0, .int .i64 0, .int .i64 0, .slice none 0 0, .int .i64 0, .int .i64 0, .int .i64 0, .int .i64 0, .slice none 0 0, .int .i64 0, .int .i64 0, .int .i64 0, .int .i64 0, .slice none 0 0, .int .i64 0, .int .i64 0, .int .i64 0, .int .i64 0, .slice none 0 0] (by rfl) (by rfl) 51 (by kernel_rfl) (row_ok rfl) ?_
    intro W13 hW13
    clear kvV0
    subst hW13
    refine ⟨_, #[.int .i64 0, .int .i64 0, .int .i64 0, .int .i64 0, .int .i64 0, .slice none 0 0, .int .i64 0, .int .i64 0, .int .i64 0, .int .i64 0, .slice none 0 0, .int .i64 0, .int .i64 0, .int .i64 0, .int .i64 0, .slice none 0 0, .int .i64 0, .int .i64 0, .int .i64 0, .int .i64 0, .slice none 0 0, .int .i64 0, .int .i64 0, .int .i64 0, .int .i64 0, .slice none 0 0], (blk_at Hx3.out Kk12.out), rfl, Nat.le_of_ble_eq_true rfl, ?_⟩
    intro W14 hW14
    go_wp2_with fail
    refine bodyPost_ret (results_cell_row rfl _ _ (w.heap.size + 2) 51 _ _ dh rfl (blk_same (blk_at Hx3.out Kk12.out) hW14) dh1 (by cases dh <;> first | rfl | exact dh2) (by kernel_rfl)) rfl ?_
    rw [show cgFst g s = (⟨0, (.mk 0 0 0 0 []), (.mk 0 0 0 0 []), (.mk 0 0 0 0 []), (.mk 0 0 0 0 []), (.mk 0 0 0 0 [])⟩ : He) from by unfold cgFst; rw [Hhb10.out]; (try rfl)]
    exact ⟨_, _, _, _, _, rfl, ⟨par_end (par_row' (liesQ_nil w8 (Par w V0.heap.size [] P)) hW14 (by omega) (by have := Z0.out; omega)) (by have := Z0.out; omega), par_end (par_row' (liesQ_nil w8 (Par w V0.heap.size [] P)) hW14 (by omega) (by have := Z0.out; omega)) (by have := Z0.out; omega), par_end (par_row' (liesQ_nil w8 (Par w V0.heap.size [] P)) hW14 (by omega) (by have := Z0.out; omega)) (by have := Z0.out; omega), par_end (par_row' (liesQ_nil w8 (Par w V0.heap.size [] P)) hW14 (by omega) (by have := Z0.out; omega)) (by have := Z0.out; omega), par_end (par_row' (liesQ_nil w8 (Par w V0.heap.size [] P)) hW14 (by omega) (by have := Z0.out; omega)) (by have := Z0.out; omega)⟩, kept_set (kept_trans Kk6.out Kk12.out) hW14 (by omega)⟩
  | true =>
    have kvV0 : Sees V0 (w.heap.size + 2) w8 := sees_kept _ Kk12.out
    go_wp2_with (refine stop_load 51 (.tmp 3) rfl ?_)
    intro _
    refine wpList_load_part (w.heap.size + 1) 0 51 (.tmp 3) #[.int .i64 s.i, .int .i64 s.a.k, .int .i64 s.a.i, .int .i64 s.a.j, .int .i64 s.a.n, (.slice asa s.a.kids.length csa), .int .i64 s.b.k, .int .i64 s.b.i, .int .i64 s.b.j, .int .i64 s.b.n, (.slice asb s.b.kids.length csb), .int .i64 s.x.k, .int .i64 s.x.i, .int .i64 s.x.j, .int .i64 s.x.n, (.slice asx s.x.kids.length csx), .int .i64 s.y.k, .int .i64 s.y.i, .int .i64 s.y.j, .int .i64 s.y.n, (.slice asy s.y.kids.length csy), .int .i64 s.h.k, .int .i64 s.h.i, .int .i64 s.h.j, .int .i64 s.h.n, (.slice ash s.h.kids.length csh)] dh (blk_at Hx2.out Kk12.out) (by rfl) rfl (by rfl) (by rfl) dh1 (by cases dh <;> first | rfl | exact dh2) (by kernel_rfl) ?_
    go_wp2_with fail
    refine at_world (fun W16 hW16 => ?_)
    clear kvV0
    obtain ⟨k18, x17, z19⟩ := alloc1 hW16
    have Kk20 := Lib.hid k18
    clear k18
    have Hx17 := Lib.hid x17
    have Hz19 := Lib.hid z19
    clear x17 z19 hW16
    refine (csides1_any s (Par w V0.heap.size [] P) _ (w8.heap.size) (.slice asa s.a.kids.length csa) (.slice asb s.b.kids.length csb) (.slice asx s.x.kids.length csx) (.slice asy s.y.kids.length csy) (.slice ash s.h.kids.length csh) (show He.fine s from ⟨Gs.out.1, Gs.out.2.1, Gs.out.2.2.1, Gs.out.2.2.2.1, Gs.out.2.2.2.2.1, Gs.out.2.2.2.2.2⟩) ⟨(HLsa.out.later (kept_trans Kk12.out Kk20.out)), (HLsb.out.later (kept_trans Kk12.out Kk20.out)), (HLsx.out.later (kept_trans Kk12.out Kk20.out)), (HLsy.out.later (kept_trans Kk12.out Kk20.out)), (HLsh.out.later (kept_trans Kk12.out Kk20.out))⟩ Hx17.out).mono ?_
    obtain ⟨rb24, hb23⟩ : ∃ qb, (toldB s) = qb := ⟨_, rfl⟩
    rw [hb23]
    have Hhb23 := Lib.hid hb23
    clear hb23
    rintro e w21 ⟨rfl, k22⟩
    have Kk25 := Lib.hid k22
    clear k22
    cases rb24 with
    | false =>
      have kvV0 : Sees V0 (w.heap.size + 2) w21 := sees_kept _ (kept_trans Kk12.out (kept_trans Kk20.out Kk25.out))
      go_wp2_with (refine stop_store 51 (.tmp 4) (.tmp 14) rfl ?_)
      intro _
      refine wpList_store_part_n (by rfl) 51 (.tmp 4) (.tmp 14) rfl (w.heap.size + 2) 0 #[.int .i64 0, .int .i64 0, .int .i64 0, .int .i64 0, .int .i64 0, .slice none 0 0, .int .i64 0, .int .i64 0, .int .i64 0, .int .i64 0, .slice none 0 0, .int .i64 0, .int .i64 0, .int .i64 0, .int .i64 0, .slice none 0 0, .int .i64 0, .int .i64 0, .int .i64 0, .int .i64 0, .slice none 0 0, .int .i64 0, .int .i64 0, .int .i64 0, .int .i64 0, .slice none 0 0] (by rfl) (by rfl) 51 (by kernel_rfl) (row_ok rfl) ?_
      intro W26 hW26
      clear kvV0
      subst hW26
      refine ⟨_, #[.int .i64 0, .int .i64 0, .int .i64 0, .int .i64 0, .int .i64 0, .slice none 0 0, .int .i64 0, .int .i64 0, .int .i64 0, .int .i64 0, .slice none 0 0, .int .i64 0, .int .i64 0, .int .i64 0, .int .i64 0, .slice none 0 0, .int .i64 0, .int .i64 0, .int .i64 0, .int .i64 0, .slice none 0 0, .int .i64 0, .int .i64 0, .int .i64 0, .int .i64 0, .slice none 0 0], (blk_at Hx3.out (kept_trans Kk12.out (kept_trans Kk20.out Kk25.out))), rfl, Nat.le_of_ble_eq_true rfl, ?_⟩
      intro W27 hW27
      go_wp2_with fail
      refine bodyPost_ret (results_cell_row rfl _ _ (w.heap.size + 2) 51 _ _ dh rfl (blk_same (blk_at Hx3.out (kept_trans Kk12.out (kept_trans Kk20.out Kk25.out))) hW27) dh1 (by cases dh <;> first | rfl | exact dh2) (by kernel_rfl)) rfl ?_
      rw [show cgFst g s = (⟨0, (.mk 0 0 0 0 []), (.mk 0 0 0 0 []), (.mk 0 0 0 0 []), (.mk 0 0 0 0 []), (.mk 0 0 0 0 [])⟩ : He) from by unfold cgFst; rw [Hhb10.out, Hhb23.out]; (try rfl)]
      exact ⟨_, _, _, _, _, rfl, ⟨par_end (par_row' (liesQ_nil w21 (Par w V0.heap.size [] P)) hW27 (by omega) (by have := Z0.out; omega)) (by have := Z0.out; omega), par_end (par_row' (liesQ_nil w21 (Par w V0.heap.size [] P)) hW27 (by omega) (by have := Z0.out; omega)) (by have := Z0.out; omega), par_end (par_row' (liesQ_nil w21 (Par w V0.heap.size [] P)) hW27 (by omega) (by have := Z0.out; omega)) (by have := Z0.out; omega), par_end (par_row' (liesQ_nil w21 (Par w V0.heap.size [] P)) hW27 (by omega) (by have := Z0.out; omega)) (by have := Z0.out; omega), par_end (par_row' (liesQ_nil w21 (Par w V0.heap.size [] P)) hW27 (by omega) (by have := Z0.out; omega)) (by have := Z0.out; omega)⟩, kept_set (kept_trans Kk6.out (kept_trans Kk12.out (kept_trans Kk20.out Kk25.out))) hW27 (by omega)⟩
    | true =>
      have kvV0 : Sees V0 (w.heap.size + 2) w21 := sees_kept _ (kept_trans Kk12.out (kept_trans Kk20.out Kk25.out))
      go_wp2_with fail
      clear kvV0
      obtain ⟨W28, h29⟩ : ∃ x, World.drew w21 = x := ⟨_, rfl⟩
      have k30 : Kept w21 W28 := by rw [← h29]; exact kept_drew (kept_refl _)
      have Kk31 := Lib.hid k30
      clear k30
      refine wp_region_held_drew (S := Sees W28 (w.heap.size + 2)) (by kernel_rfl) ?_ (fun hHeld => ?_)
      · (try dsimp only)
        rw [h29]
        exact sees_kept _ (kept_refl _)
      rw [h29] at hHeld ⊢
      clear h29
      refine take_at 0 15 cFstr3_0 (v := ?_) (Or.inl ⟨by rfl, ?_⟩) ?_
      rotate_left 1
      · ((intro w hSw; (try dsimp only at hSw); unfold cFstr3_0; go_simp) <;> with_reducible rfl)
      (try simp only [Act.put, List.setIfInBounds_toArray, List.set_cons_zero, List.set_cons_succ])
      refine take_at 1 16 cFstr3_1 (v := ?_) (Or.inl ⟨by rfl, ?_⟩) ?_
      rotate_left 1
      · ((intro w hSw; (try dsimp only at hSw); have qV0 := sees_of (kept_trans Kk12.out (kept_trans Kk20.out (kept_trans Kk25.out Kk31.out))) hSw; unfold cFstr3_1; go_simp) <;> with_reducible rfl)
      (try simp only [Act.put, List.setIfInBounds_toArray, List.set_cons_zero, List.set_cons_succ])
      refine take_at 2 17 cFstr3_2 (v := ?_) (Or.inl ⟨by rfl, ?_⟩) ?_
      rotate_left 1
      · ((intro w hSw; (try dsimp only at hSw); unfold cFstr3_2; go_simp) <;> with_reducible rfl)
      (try simp only [Act.put, List.setIfInBounds_toArray, List.set_cons_zero, List.set_cons_succ])
      refine take_at 3 18 cFstr3_3 (yields_part (w.heap.size) 2 32 (.tmp 17) #[.int .i64 g.a.k, .int .i64 g.a.i, .int .i64 g.a.j, .int .i64 g.a.n, (.slice aga g.a.kids.length cga)] du (fun _ h => sees_blk Hx1.out (by have := Z0.out; omega) (sees_of (kept_trans Kk12.out (kept_trans Kk20.out (kept_trans Kk25.out Kk31.out))) h)) (by rfl) rfl (by rfl) (by rfl) hu1 (by cases du <;> first | rfl | exact hu2) size_term) ?_
      (try simp only [Act.put, List.setIfInBounds_toArray, List.set_cons_zero, List.set_cons_succ])
      refine take_at 4 19 cFstr3_4 (v := ?_) (Or.inl ⟨by rfl, ?_⟩) ?_
      rotate_left 1
      · ((intro w hSw; (try dsimp only at hSw); unfold cFstr3_4; go_simp) <;> with_reducible rfl)
      (try simp only [Act.put, List.setIfInBounds_toArray, List.set_cons_zero, List.set_cons_succ])
      refine take_at 5 20 cFstr3_5 (yields_part (w.heap.size) 7 32 (.tmp 19) #[.int .i64 g.c.k, .int .i64 g.c.i, .int .i64 g.c.j, .int .i64 g.c.n, (.slice agc g.c.kids.length cgc)] du (fun _ h => sees_blk Hx1.out (by have := Z0.out; omega) (sees_of (kept_trans Kk12.out (kept_trans Kk20.out (kept_trans Kk25.out Kk31.out))) h)) (by rfl) rfl (by rfl) (by rfl) hu1 (by cases du <;> first | rfl | exact hu2) size_term) ?_
      (try simp only [Act.put, List.setIfInBounds_toArray, List.set_cons_zero, List.set_cons_succ])
      refine take_at 6 21 cFstr3_6 (v := ?_) (Or.inl ⟨by rfl, ?_⟩) ?_
      rotate_left 1
      · ((intro w hSw; (try dsimp only at hSw); unfold cFstr3_6; go_simp) <;> with_reducible rfl)
      (try simp only [Act.put, List.setIfInBounds_toArray, List.set_cons_zero, List.set_cons_succ])
      refine take_at 7 22 cFstr3_7 (yields_part (w.heap.size + 1) 11 32 (.tmp 21) #[.int .i64 s.x.k, .int .i64 s.x.i, .int .i64 s.x.j, .int .i64 s.x.n, (.slice asx s.x.kids.length csx)] du (fun _ h => sees_blk Hx2.out (by have := Z0.out; omega) (sees_of (kept_trans Kk12.out (kept_trans Kk20.out (kept_trans Kk25.out Kk31.out))) h)) (by rfl) rfl (by rfl) (by rfl) hu1 (by cases du <;> first | rfl | exact hu2) size_term) ?_
      (try simp only [Act.put, List.setIfInBounds_toArray, List.set_cons_zero, List.set_cons_succ])
      refine take_at 9 24 cFstr3_9 (v := ?_) (Or.inl ⟨by rfl, ?_⟩) ?_
      rotate_left 1
      · ((intro w hSw; (try dsimp only at hSw); unfold cFstr3_9; go_simp) <;> with_reducible rfl)
      (try simp only [Act.put, List.setIfInBounds_toArray, List.set_cons_zero, List.set_cons_succ])
      refine take_at 10 25 cFstr3_10 (yields_part (w.heap.size + 1) 16 32 (.tmp 24) #[.int .i64 s.y.k, .int .i64 s.y.i, .int .i64 s.y.j, .int .i64 s.y.n, (.slice asy s.y.kids.length csy)] du (fun _ h => sees_blk Hx2.out (by have := Z0.out; omega) (sees_of (kept_trans Kk12.out (kept_trans Kk20.out (kept_trans Kk25.out Kk31.out))) h)) (by rfl) rfl (by rfl) (by rfl) hu1 (by cases du <;> first | rfl | exact hu2) size_term) ?_
      (try simp only [Act.put, List.setIfInBounds_toArray, List.set_cons_zero, List.set_cons_succ])
      refine take_at 12 27 cFstr3_12 (yields_part (w.heap.size) 0 72 (.tmp 2) #[.int .i64 g.i, .int .i64 g.j, .int .i64 g.a.k, .int .i64 g.a.i, .int .i64 g.a.j, .int .i64 g.a.n, (.slice aga g.a.kids.length cga), .int .i64 g.c.k, .int .i64 g.c.i, .int .i64 g.c.j, .int .i64 g.c.n, (.slice agc g.c.kids.length cgc), .int .i64 g.b.k, .int .i64 g.b.i, .int .i64 g.b.j, .int .i64 g.b.n, (.slice agb g.b.kids.length cgb), .int .i64 g.d.k, .int .i64 g.d.i, .int .i64 g.d.j, .int .i64 g.d.n, (.slice agd g.d.kids.length cgd), .int .i64 g.e.k, .int .i64 g.e.i, .int .i64 g.e.j, .int .i64 g.e.n, (.slice age g.e.kids.length cge), .int .i64 g.f.k, .int .i64 g.f.i, .int .i64 g.f.j, .int .i64 g.f.n, (.slice agf g.f.kids.length cgf)] dg (fun _ h => sees_blk Hx1.out (by have := Z0.out; omega) (sees_of (kept_trans Kk12.out (kept_trans Kk20.out (kept_trans Kk25.out Kk31.out))) h)) (by rfl) rfl (by rfl) (by rfl) dg1 (by cases dg <;> first | rfl | exact dg2) (by kernel_rfl)) ?_
      (try simp only [Act.put, List.setIfInBounds_toArray, List.set_cons_zero, List.set_cons_succ])
      refine take_at 13 28 cFstr3_13 (v := ?_) (Or.inl ⟨by rfl, ?_⟩) ?_
      rotate_left 1
      · ((intro w hSw; (try dsimp only at hSw); unfold cFstr3_13; go_simp) <;> with_reducible rfl)
      (try simp only [Act.put, List.setIfInBounds_toArray, List.set_cons_zero, List.set_cons_succ])
      refine take_at 14 29 cFstr3_14 (yields_part (w.heap.size + 1) 11 32 (.tmp 28) #[.int .i64 s.x.k, .int .i64 s.x.i, .int .i64 s.x.j, .int .i64 s.x.n, (.slice asx s.x.kids.length csx)] du (fun _ h => sees_blk Hx2.out (by have := Z0.out; omega) (sees_of (kept_trans Kk12.out (kept_trans Kk20.out (kept_trans Kk25.out Kk31.out))) h)) (by rfl) rfl (by rfl) (by rfl) hu1 (by cases du <;> first | rfl | exact hu2) size_term) ?_
      (try simp only [Act.put, List.setIfInBounds_toArray, List.set_cons_zero, List.set_cons_succ])
      refine take_at 15 30 cFstr3_15 (v := ?_) (Or.inl ⟨by rfl, ?_⟩) ?_
      rotate_left 1
      · ((intro w hSw; (try dsimp only at hSw); unfold cFstr3_15; go_simp) <;> with_reducible rfl)
      (try simp only [Act.put, List.setIfInBounds_toArray, List.set_cons_zero, List.set_cons_succ])
      refine take_at 16 31 cFstr3_16 (yields_part (w.heap.size + 1) 16 32 (.tmp 30) #[.int .i64 s.y.k, .int .i64 s.y.i, .int .i64 s.y.j, .int .i64 s.y.n, (.slice asy s.y.kids.length csy)] du (fun _ h => sees_blk Hx2.out (by have := Z0.out; omega) (sees_of (kept_trans Kk12.out (kept_trans Kk20.out (kept_trans Kk25.out Kk31.out))) h)) (by rfl) rfl (by rfl) (by rfl) hu1 (by cases du <;> first | rfl | exact hu2) size_term) ?_
      (try simp only [Act.put, List.setIfInBounds_toArray, List.set_cons_zero, List.set_cons_succ])
      refine take_at 17 32 cFstr3_17 (v := ?_) (Or.inl ⟨by rfl, ?_⟩) ?_
      rotate_left 1
      · ((intro w hSw; (try dsimp only at hSw); unfold cFstr3_17; go_simp) <;> with_reducible rfl)
      (try simp only [Act.put, List.setIfInBounds_toArray, List.set_cons_zero, List.set_cons_succ])
      refine take_at 18 33 cFstr3_18 (yields_part (w.heap.size + 1) 21 32 (.tmp 32) #[.int .i64 s.h.k, .int .i64 s.h.i, .int .i64 s.h.j, .int .i64 s.h.n, (.slice ash s.h.kids.length csh)] du (fun _ h => sees_blk Hx2.out (by have := Z0.out; omega) (sees_of (kept_trans Kk12.out (kept_trans Kk20.out (kept_trans Kk25.out Kk31.out))) h)) (by rfl) rfl (by rfl) (by rfl) hu1 (by cases du <;> first | rfl | exact hu2) size_term) ?_
      (try simp only [Act.put, List.setIfInBounds_toArray, List.set_cons_zero, List.set_cons_succ])
      apply (via_joinTACTACC (K := fun W53 U41 a38 c39 U50 a47 c48 g57 => (Kept W28 W53) ∧ (nodeT 18 [s.x] = U41) ∧ (nodeT 18 [s.y] = U50) ∧ (LiesQ W53 (Par w V0.heap.size [] P) U41.kids (.slice a38 U41.kids.length c39)) ∧ (LiesQ W53 (Par w V0.heap.size [] P) U50.kids (.slice a47 U50.kids.length c48)) ∧ (LiesQ W53 (Par w V0.heap.size [] P) ([s.x, s.y, s.h]) (.slice (some ⟨g57, 0, none⟩) 3 3))))
      intro HJj33
      apply (via_joinTACC (K := fun W63 U41 a38 c39 g67 => (Kept W28 W63) ∧ (nodeT 18 [s.x] = U41) ∧ (LiesQ W63 (Par w V0.heap.size [] P) U41.kids (.slice a38 U41.kids.length c39)) ∧ (LiesQ W63 (Par w V0.heap.size [] P) ([s.x, s.y, s.h]) (.slice (some ⟨g67, 0, none⟩) 3 3))))
      intro HJj32
      · refine wpAnyH_ready (rs := [8, 19]) (by kernel_rfl) (by simp) ?_
        refine AllReadyH.cons (o := cFstr3_8) rfl (fun K hK => ?_) ?_
        · unfold cFstr3_8
          go_simp
          refine (cmake1_any 18 s.x (Par w V0.heap.size [] P) _ (.slice asx s.x.kids.length csx) (show I64 18 from by unfold I64; decide) Gs.out.2.2.2.1 (HLsx.out.later (kept_trans Kk12.out (kept_trans Kk20.out (kept_trans Kk25.out Kk31.out))))).mono ?_
          obtain ⟨U41, hU41⟩ : ∃ qu, nodeT 18 [s.x] = qu := ⟨_, rfl⟩
          rw [hU41]
          have HU41 := Lib.hid hU41
          clear hU41
          rintro e w34 ⟨s36, rfl, hl37, k35⟩
          obtain ⟨a38, c39, S40, rfl, -⟩ := hl37.out
          have Kk42 := Lib.hid k35
          clear k35
          have Hhl37 : Hid (LiesQ w34 (Par w V0.heap.size [] P) U41.kids _) := par_give hl37 (Below.size (kept_trans Kk12.out (kept_trans Kk20.out (kept_trans Kk25.out Kk31.out)))) (xlt_nil _)
          clear hl37
          (try clear hHeld)
          refine hK.out _ _ (sees_kept _ Kk42.out) (fun hHeld => ?_)
          clear hK K
          (try simp only [Act.put, List.setIfInBounds_toArray, List.set_cons_zero, List.set_cons_succ])
          refine wpAnyH_ready (rs := [11, 19]) (by kernel_rfl) (by simp) ?_
          refine AllReadyH.cons (o := cFstr3_11) rfl (fun K hK => ?_) ?_
          · unfold cFstr3_11
            go_simp
            refine (cmake1_any 18 s.y (Par w V0.heap.size [] P) _ (.slice asy s.y.kids.length csy) (show I64 18 from by unfold I64; decide) Gs.out.2.2.2.2.1 (HLsy.out.later (kept_trans Kk12.out (kept_trans Kk20.out (kept_trans Kk25.out (kept_trans Kk31.out Kk42.out)))))).mono ?_
            obtain ⟨U50, hU50⟩ : ∃ qu, nodeT 18 [s.y] = qu := ⟨_, rfl⟩
            rw [hU50]
            have HU50 := Lib.hid hU50
            clear hU50
            rintro e w43 ⟨s45, rfl, hl46, k44⟩
            obtain ⟨a47, c48, S49, rfl, -⟩ := hl46.out
            have Kk51 := Lib.hid k44
            clear k44
            have Hhl46 : Hid (LiesQ w43 (Par w V0.heap.size [] P) U50.kids _) := par_give hl46 (Below.size (kept_trans Kk12.out (kept_trans Kk20.out (kept_trans Kk25.out (kept_trans Kk31.out Kk42.out))))) (xlt_nil _)
            clear hl46
            (try clear hHeld)
            refine hK.out _ _ (sees_kept _ (kept_trans Kk42.out Kk51.out)) (fun hHeld => ?_)
            clear hK K
            (try simp only [Act.put, List.setIfInBounds_toArray, List.set_cons_zero, List.set_cons_succ])
            refine wpAnyH_ready (rs := [19]) (by kernel_rfl) (by simp) ?_
            refine AllReadyH.cons (o := cFstr3_19) rfl (fun K hK => ?_) ?_
            · unfold cFstr3_19
              go_simp
              refine at_K (fun W53 hW53 => ?_)
              obtain ⟨g57, hg58, Kk55, Hx54, Hz56, KV59, HN60⟩ := alloc1v (kept_trans Kk12.out (kept_trans Kk20.out (kept_trans Kk25.out (kept_trans Kk31.out (kept_trans Kk42.out Kk51.out))))) hW53
              rw [hg58]
              clear hW53
              have HR61 := Lib.hid (q_row3 Hx54.out Gs.out.2.2.2.1 (HLsx.out.later KV59.out) Gs.out.2.2.2.2.1 (HLsy.out.later KV59.out) Gs.out.2.2.2.2.2 (HLsh.out.later KV59.out) (par_newg HN60.out (fun h => nomatch h)))
              clear hg58
              (try clear hHeld)
              refine hK.out _ _ (sees_kept _ (kept_trans Kk42.out (kept_trans Kk51.out Kk55.out))) (fun hHeld => ?_)
              clear hK K
              (try simp only [Act.put, List.setIfInBounds_toArray, List.set_cons_zero, List.set_cons_succ])
              exact HJj33 W53 U41 a38 c39 U50 a47 c48 g57 ⟨(kept_trans Kk42.out (kept_trans Kk51.out Kk55.out)), HU41.out, HU50.out, (Hhl37.out.later (kept_trans Kk51.out Kk55.out)), (Hhl46.out.later Kk55.out), HR61.out⟩
            exact AllReadyH.nil
          refine AllReadyH.cons (o := cFstr3_19) rfl (fun K hK => ?_) ?_
          · unfold cFstr3_19
            go_simp
            refine at_K (fun W63 hW63 => ?_)
            obtain ⟨g67, hg68, Kk65, Hx64, Hz66, KV69, HN70⟩ := alloc1v (kept_trans Kk12.out (kept_trans Kk20.out (kept_trans Kk25.out (kept_trans Kk31.out Kk42.out)))) hW63
            rw [hg68]
            clear hW63
            have HR71 := Lib.hid (q_row3 Hx64.out Gs.out.2.2.2.1 (HLsx.out.later KV69.out) Gs.out.2.2.2.2.1 (HLsy.out.later KV69.out) Gs.out.2.2.2.2.2 (HLsh.out.later KV69.out) (par_newg HN70.out (fun h => nomatch h)))
            clear hg68
            (try clear hHeld)
            refine hK.out _ _ (sees_kept _ (kept_trans Kk42.out Kk65.out)) (fun hHeld => ?_)
            clear hK K
            (try simp only [Act.put, List.setIfInBounds_toArray, List.set_cons_zero, List.set_cons_succ])
            exact HJj32 W63 U41 a38 c39 g67 ⟨(kept_trans Kk42.out Kk65.out), HU41.out, (Hhl37.out.later Kk65.out), HR71.out⟩
          exact AllReadyH.nil
        refine AllReadyH.cons (o := cFstr3_19) rfl (fun K hK => ?_) ?_
        · unfold cFstr3_19
          go_simp
          refine at_K (fun W73 hW73 => ?_)
          obtain ⟨g77, hg78, Kk75, Hx74, Hz76, KV79, HN80⟩ := alloc1v (kept_trans Kk12.out (kept_trans Kk20.out (kept_trans Kk25.out Kk31.out))) hW73
          rw [hg78]
          clear hW73
          have HR81 := Lib.hid (q_row3 Hx74.out Gs.out.2.2.2.1 (HLsx.out.later KV79.out) Gs.out.2.2.2.2.1 (HLsy.out.later KV79.out) Gs.out.2.2.2.2.2 (HLsh.out.later KV79.out) (par_newg HN80.out (fun h => nomatch h)))
          clear hg78
          (try clear hHeld)
          refine hK.out _ _ (sees_kept _ Kk75.out) (fun hHeld => ?_)
          clear hK K
          (try simp only [Act.put, List.setIfInBounds_toArray, List.set_cons_zero, List.set_cons_succ])
          refine wpAnyH_ready (rs := [8]) (by kernel_rfl) (by simp) ?_
          refine AllReadyH.cons (o := cFstr3_8) rfl (fun K hK => ?_) ?_
          · unfold cFstr3_8
            go_simp
            refine (cmake1_any 18 s.x (Par w V0.heap.size [] P) _ (.slice asx s.x.kids.length csx) (show I64 18 from by unfold I64; decide) Gs.out.2.2.2.1 (HLsx.out.later KV79.out)).mono ?_
            obtain ⟨U89, hU89⟩ : ∃ qu, nodeT 18 [s.x] = qu := ⟨_, rfl⟩
            rw [hU89]
            have HU89 := Lib.hid hU89
            clear hU89
            rintro e w82 ⟨s84, rfl, hl85, k83⟩
            obtain ⟨a86, c87, S88, rfl, -⟩ := hl85.out
            have Kk90 := Lib.hid k83
            clear k83
            have Hhl85 : Hid (LiesQ w82 (Par w V0.heap.size [] P) U89.kids _) := par_give hl85 (Below.size KV79.out) (xlt_nil _)
            clear hl85
            (try clear hHeld)
            refine hK.out _ _ (sees_kept _ (kept_trans Kk75.out Kk90.out)) (fun hHeld => ?_)
            clear hK K
            (try simp only [Act.put, List.setIfInBounds_toArray, List.set_cons_zero, List.set_cons_succ])
            exact HJj32 w82 U89 a86 c87 g77 ⟨(kept_trans Kk75.out Kk90.out), HU89.out, Hhl85.out, (HR81.out.later Kk90.out)⟩
          exact AllReadyH.nil
        exact AllReadyH.nil
      · intro W63 U41 a38 c39 g67 k91
        obtain ⟨q92, q93, q94, q95⟩ := k91
        have Kk96 := Lib.hid q92
        have KV97 := Lib.hid (kept_trans (kept_trans Kk12.out (kept_trans Kk20.out (kept_trans Kk25.out Kk31.out))) Kk96.out)
        have HU41 := Lib.hid q93
        have HL98 := Lib.hid q94
        have HL99 := Lib.hid q95
        clear q92 q93 q94 q95
        have hHeld : Sees W28 (w.heap.size + 2) W63 := sees_kept _ Kk96.out
        refine wpAnyH_ready (rs := [11]) (by kernel_rfl) (by simp) ?_
        refine AllReadyH.cons (o := cFstr3_11) rfl (fun K hK => ?_) ?_
        · unfold cFstr3_11
          go_simp
          refine (cmake1_any 18 s.y (Par w V0.heap.size [] P) _ (.slice asy s.y.kids.length csy) (show I64 18 from by unfold I64; decide) Gs.out.2.2.2.2.1 (HLsy.out.later KV97.out)).mono ?_
          obtain ⟨U107, hU107⟩ : ∃ qu, nodeT 18 [s.y] = qu := ⟨_, rfl⟩
          rw [hU107]
          have HU107 := Lib.hid hU107
          clear hU107
          rintro e w100 ⟨s102, rfl, hl103, k101⟩
          obtain ⟨a104, c105, S106, rfl, -⟩ := hl103.out
          have Kk108 := Lib.hid k101
          clear k101
          have Hhl103 : Hid (LiesQ w100 (Par w V0.heap.size [] P) U107.kids _) := par_give hl103 (Below.size KV97.out) (xlt_nil _)
          clear hl103
          (try clear hHeld)
          refine hK.out _ _ (sees_kept _ (kept_trans Kk96.out Kk108.out)) (fun hHeld => ?_)
          clear hK K
          (try simp only [Act.put, List.setIfInBounds_toArray, List.set_cons_zero, List.set_cons_succ])
          exact HJj33 w100 U41 a38 c39 U107 a104 c105 g67 ⟨(kept_trans Kk96.out Kk108.out), HU41.out, HU107.out, (HL98.out.later Kk108.out), Hhl103.out, (HL99.out.later Kk108.out)⟩
        exact AllReadyH.nil
      · intro W53 U41 a38 c39 U50 a47 c48 g57 k109
        obtain ⟨q110, q111, q112, q113, q114, q115⟩ := k109
        have Kk116 := Lib.hid q110
        have KV117 := Lib.hid (kept_trans (kept_trans Kk12.out (kept_trans Kk20.out (kept_trans Kk25.out Kk31.out))) Kk116.out)
        have HU41 := Lib.hid q111
        have HU50 := Lib.hid q112
        have HL118 := Lib.hid q113
        have HL119 := Lib.hid q114
        have HL120 := Lib.hid q115
        clear q110 q111 q112 q113 q114 q115
        have hHeld : Sees W28 (w.heap.size + 2) W53 := sees_kept _ Kk116.out
        refine wpAnyH_ready (rs := [20]) (by kernel_rfl) (by simp) ?_
        refine AllReadyH.cons (o := cFstr3_20) rfl (fun K hK => ?_) ?_
        · unfold cFstr3_20
          go_simp
          refine (cfuse_any 18 g [s.x, s.y, s.h] (Par w V0.heap.size [] P) _ (.slice aga g.a.kids.length cga) (.slice agc g.c.kids.length cgc) (.slice agb g.b.kids.length cgb) (.slice agd g.d.kids.length cgd) (.slice age g.e.kids.length cge) (.slice agf g.f.kids.length cgf) ((.slice (some ⟨g57, 0, none⟩) 3 3)) (show Fm.fine g from ⟨Gg.out.1, Gg.out.2.1, Gg.out.2.2.1, Gg.out.2.2.2.1, Gg.out.2.2.2.2.1, Gg.out.2.2.2.2.2.1, Gg.out.2.2.2.2.2.2.1, Gg.out.2.2.2.2.2.2.2⟩) ⟨(HLga.out.later KV117.out), (HLgc.out.later KV117.out), (HLgb.out.later KV117.out), (HLgd.out.later KV117.out), (HLge.out.later KV117.out), (HLgf.out.later KV117.out)⟩ (show I64 18 from by unfold I64; decide) HL120.out Hhb10.out (fun x hx => by
            simp only [List.mem_cons, List.not_mem_nil, or_false] at hx
            rcases hx with rfl | rfl | rfl
            · exact (toldB_pl Hhb23.out _ (by simp))
            · exact (toldB_pl Hhb23.out _ (by simp))
            · exact (toldB_pl Hhb23.out _ (by simp))) (Nat.le_of_ble_eq_true rfl)).mono ?_
          obtain ⟨U128, hU128⟩ : ∃ qu, sixT 18 g [s.x, s.y, s.h] = qu := ⟨_, rfl⟩
          rw [hU128]
          have HU128 := Lib.hid hU128
          clear hU128
          rintro e w121 ⟨s123, rfl, hl124, k122⟩
          obtain ⟨a125, c126, S127, rfl, -⟩ := hl124.out
          have Kk129 := Lib.hid k122
          clear k122
          have Hhl124 : Hid (LiesQ w121 (Par w V0.heap.size [] P) U128.kids _) := par_give hl124 (Below.size KV117.out) (xlt_nil _)
          clear hl124
          clear hHeld
          refine hK.out _ _ (sees_kept _ (kept_trans Kk116.out Kk129.out)) (fun hHeld => ?_)
          clear hK K
          (try simp only [Act.put, List.setIfInBounds_toArray, List.set_cons_zero, List.set_cons_succ])
          refine take_at 21 36 cFstr3_21 (v := ?_) (Or.inl ⟨by rfl, ?_⟩) ?_
          rotate_left 1
          · ((intro w hSw; (try dsimp only at hSw); unfold cFstr3_21; go_simp) <;> with_reducible rfl)
          (try simp only [Act.put, List.setIfInBounds_toArray, List.set_cons_zero, List.set_cons_succ])
          refine wpAnyH_ready (rs := [22]) (by kernel_rfl) (by simp) ?_
          refine AllReadyH.cons (o := cFstr3_22) rfl (fun K hK => ?_) ?_
          · unfold cFstr3_22
            go_simp
            refine (cfresh_any (⟨g.i, g.a, g.c, U41, U50, U128⟩ : He) (Par w V0.heap.size [] P) _ (.slice aga g.a.kids.length cga) (.slice agc g.c.kids.length cgc) (.slice a38 U41.kids.length c39) (.slice a47 U50.kids.length c48) (.slice a125 U128.kids.length c126) (show He.fine (⟨g.i, g.a, g.c, U41, U50, U128⟩ : He) from ⟨Gg.out.1, Gg.out.2.2.1, Gg.out.2.2.2.1, (by rw [← HU41.out]; exact (node_fine (show I64 18 from by unfold I64; decide))), (by rw [← HU50.out]; exact (node_fine (show I64 18 from by unfold I64; decide))), (by rw [← HU128.out]; exact (six_fine (show I64 18 from by unfold I64; decide) (show Fm.fine g from ⟨Gg.out.1, Gg.out.2.1, Gg.out.2.2.1, Gg.out.2.2.2.1, Gg.out.2.2.2.2.1, Gg.out.2.2.2.2.2.1, Gg.out.2.2.2.2.2.2.1, Gg.out.2.2.2.2.2.2.2⟩)))⟩) ⟨(HLga.out.later (kept_trans Kk12.out (kept_trans Kk20.out (kept_trans Kk25.out (kept_trans Kk31.out (kept_trans Kk116.out Kk129.out)))))), (HLgc.out.later (kept_trans Kk12.out (kept_trans Kk20.out (kept_trans Kk25.out (kept_trans Kk31.out (kept_trans Kk116.out Kk129.out)))))), (HL118.out.later Kk129.out), (HL119.out.later Kk129.out), Hhl124.out⟩ (Or.inl (fmR_pl Hhb10.out _ (by simp))) (Or.inl (fmR_pl Hhb10.out _ (by simp))) (Or.inl (by rw [← HU41.out]; exact (node_plain (by rfl) (by rfl) (by rfl) (fun x hx => by
              simp only [List.mem_cons, List.not_mem_nil, or_false] at hx
              subst hx
              exact (toldB_pl Hhb23.out _ (by simp)))))) (Or.inl (by rw [← HU50.out]; exact (node_plain (by rfl) (by rfl) (by rfl) (fun x hx => by
              simp only [List.mem_cons, List.not_mem_nil, or_false] at hx
              subst hx
              exact (toldB_pl Hhb23.out _ (by simp))))))).mono ?_
            obtain ⟨U132, hU132⟩ : ∃ qu, (⟨g.i, g.a, g.c, U41, U50, U128⟩ : He) = qu := ⟨_, rfl⟩
            rw [hU132]
            have HU132 := Lib.hid hU132
            clear hU132
            rintro e w130 ⟨s133, s134, s135, s136, s137, rfl, ⟨hl138, hl139, hl140, hl141, hl142⟩, k131⟩
            obtain ⟨a143, c144, S145, rfl, -⟩ := hl138.out
            obtain ⟨a146, c147, S148, rfl, -⟩ := hl139.out
            obtain ⟨a149, c150, S151, rfl, -⟩ := hl140.out
            obtain ⟨a152, c153, S154, rfl, -⟩ := hl141.out
            obtain ⟨a155, c156, S157, rfl, -⟩ := hl142.out
            have Kk158 := Lib.hid k131
            clear k131
            have Hhl138 : Hid (LiesQ w130 (Par w V0.heap.size [] P) U132.a.kids _) := par_give hl138 (Below.size (kept_trans Kk12.out (kept_trans Kk20.out (kept_trans Kk25.out (kept_trans Kk31.out (kept_trans Kk116.out Kk129.out)))))) (xlt_nil _)
            have Hhl139 : Hid (LiesQ w130 (Par w V0.heap.size [] P) U132.b.kids _) := par_give hl139 (Below.size (kept_trans Kk12.out (kept_trans Kk20.out (kept_trans Kk25.out (kept_trans Kk31.out (kept_trans Kk116.out Kk129.out)))))) (xlt_nil _)
            have Hhl140 : Hid (LiesQ w130 (Par w V0.heap.size [] P) U132.x.kids _) := par_give hl140 (Below.size (kept_trans Kk12.out (kept_trans Kk20.out (kept_trans Kk25.out (kept_trans Kk31.out (kept_trans Kk116.out Kk129.out)))))) (xlt_nil _)
            have Hhl141 : Hid (LiesQ w130 (Par w V0.heap.size [] P) U132.y.kids _) := par_give hl141 (Below.size (kept_trans Kk12.out (kept_trans Kk20.out (kept_trans Kk25.out (kept_trans Kk31.out (kept_trans Kk116.out Kk129.out)))))) (xlt_nil _)
            have Hhl142 : Hid (LiesQ w130 (Par w V0.heap.size [] P) U132.h.kids _) := par_give hl142 (Below.size (kept_trans Kk12.out (kept_trans Kk20.out (kept_trans Kk25.out (kept_trans Kk31.out (kept_trans Kk116.out Kk129.out)))))) (xlt_nil _)
            clear hl138 hl139 hl140 hl141 hl142
            clear hHeld
            refine hK.out _ _ (sees_kept _ (kept_trans Kk116.out (kept_trans Kk129.out Kk158.out))) (fun hHeld => ?_)
            clear hK K
            (try simp only [Act.put, List.setIfInBounds_toArray, List.set_cons_zero, List.set_cons_succ])
            refine wpAnyH_ready (rs := [23]) (by kernel_rfl) (by simp) ?_
            refine AllReadyH.cons (o := cFstr3_23) rfl (fun K hK => ?_) ?_
            · unfold cFstr3_23
              refine step_store_part rfl 51 (.tmp 4) (.tmp 37) rfl (w.heap.size + 2) 0 #[.int .i64 U132.i, .int .i64 U132.a.k, .int .i64 U132.a.i, .int .i64 U132.a.j, .int .i64 U132.a.n, (.slice a143 U132.a.kids.length c144), .int .i64 U132.b.k, .int .i64 U132.b.i, .int .i64 U132.b.j, .int .i64 U132.b.n, (.slice a146 U132.b.kids.length c147), .int .i64 U132.x.k, .int .i64 U132.x.i, .int .i64 U132.x.j, .int .i64 U132.x.n, (.slice a149 U132.x.kids.length c150), .int .i64 U132.y.k, .int .i64 U132.y.i, .int .i64 U132.y.j, .int .i64 U132.y.n, (.slice a152 U132.y.kids.length c153), .int .i64 U132.h.k, .int .i64 U132.h.i, .int .i64 U132.h.j, .int .i64 U132.h.n, (.slice a155 U132.h.kids.length c156)] rfl rfl 51 (by kernel_rfl) (row_ok rfl) _ #[.int .i64 U132.i, .int .i64 U132.a.k, .int .i64 U132.a.i, .int .i64 U132.a.j, .int .i64 U132.a.n, (.slice a143 U132.a.kids.length c144), .int .i64 U132.b.k, .int .i64 U132.b.i, .int .i64 U132.b.j, .int .i64 U132.b.n, (.slice a146 U132.b.kids.length c147), .int .i64 U132.x.k, .int .i64 U132.x.i, .int .i64 U132.x.j, .int .i64 U132.x.n, (.slice a149 U132.x.kids.length c150), .int .i64 U132.y.k, .int .i64 U132.y.i, .int .i64 U132.y.j, .int .i64 U132.y.n, (.slice a152 U132.y.kids.length c153), .int .i64 U132.h.k, .int .i64 U132.h.i, .int .i64 U132.h.j, .int .i64 U132.h.n, (.slice a155 U132.h.kids.length c156)] (blk_at Hx3.out (kept_trans Kk12.out (kept_trans Kk20.out (kept_trans Kk25.out (kept_trans Kk31.out (kept_trans Kk116.out (kept_trans Kk129.out Kk158.out))))))) rfl (Nat.le_of_ble_eq_true rfl) ?_
              intro W159 hW159
              clear hHeld
              refine hK.out _ _ (sees_set (kept_trans Kk116.out (kept_trans Kk129.out Kk158.out)) hW159) (fun hHeld => ?_)
              clear hK K
              (try simp only [Act.put])
              refine wpAnyH_done (by kernel_rfl) ?_ _
              clear hHeld
              go_wp2_with fail
              refine bodyPost_ret (results_cell_row rfl _ _ (w.heap.size + 2) 51 _ _ dh rfl (blk_same (blk_at Hx3.out (kept_trans Kk12.out (kept_trans Kk20.out (kept_trans Kk25.out (kept_trans Kk31.out (kept_trans Kk116.out (kept_trans Kk129.out Kk158.out))))))) hW159) dh1 (by cases dh <;> first | rfl | exact dh2) (by kernel_rfl)) rfl ?_
              rw [show cgFst g s = U132 from by unfold cgFst; rw [Hhb10.out, Hhb23.out]; rw [← HU132.out]; rw [← HU128.out]; rw [← HU50.out]; rw [← HU41.out]; (try rfl)]
              exact ⟨_, _, _, _, _, rfl, ⟨par_end (par_row' Hhl138.out hW159 (by omega) (by have := Z0.out; omega)) (by have := Z0.out; omega), par_end (par_row' Hhl139.out hW159 (by omega) (by have := Z0.out; omega)) (by have := Z0.out; omega), par_end (par_row' Hhl140.out hW159 (by omega) (by have := Z0.out; omega)) (by have := Z0.out; omega), par_end (par_row' Hhl141.out hW159 (by omega) (by have := Z0.out; omega)) (by have := Z0.out; omega), par_end (par_row' Hhl142.out hW159 (by omega) (by have := Z0.out; omega)) (by have := Z0.out; omega)⟩, kept_set (kept_trans Kk6.out (kept_trans Kk12.out (kept_trans Kk20.out (kept_trans Kk25.out (kept_trans Kk31.out (kept_trans Kk116.out (kept_trans Kk129.out Kk158.out))))))) hW159 (by omega)⟩
            exact AllReadyH.nil
          exact AllReadyH.nil
        exact AllReadyH.nil

end Go.Proofs.Ytkdceahmknhojaa
