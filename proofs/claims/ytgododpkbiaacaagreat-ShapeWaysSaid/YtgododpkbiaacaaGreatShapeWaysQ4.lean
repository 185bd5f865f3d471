/-
  Facts and contracts that the proof of ShapeWays uses.
-/
import Derived.Test.YtgododpkbiaacaaGreatRows
import Derived.WalkKit
import Derived.Lib.Hide
import Derived.KernelRfl
import Derived.Deep.RegionWith
import Derived.Deep.RegionHeld3
import Derived.Deep.AppendLies
import Derived.Laws.Rows
import Derived.Laws.IdiomCopy
import Derived.Deep.Slices
import Derived.Lib.QuietBelow
import Derived.StillTailTactics
import Derived.BigQuiet
import Derived.IntWalk
import Derived.OwnWalk
import Derived.Deep.RegionLaw
import Derived.Deep.QuietTactic
import Derived.Deep.LoopGhost
import Derived.Deep.DeepCutAuto
import Derived.OrdersHeld
import Derived.Deep.MidRow
import Derived.Laws.Tables
import Derived.Laws.CopyOwn
import Derived.Laws.CopyRow
import Derived.Deep.RegionHeld
import Derived.Lib.MinMax
import Derived.ProofKit
import Derived.OpenShut
import Derived.Carry
import Derived.ChangeSlices
import Derived.JoinedOf
import Derived.Test.YtgododpkbiaacaaGreatShapeWaysQ3
namespace Go.Proofs.YtgododpkbiaacaaGreat
open Go.RowKit

set_option maxRecDepth 20000 in
set_option maxHeartbeats 4000000 in
theorem hpoints_any (i : Int) (P : Nat → Prop) (w : World) (hri : I64 i) : Calls Tryz.prog 41 #[.int .i64 i] w (GivesP P (pointsT i) w) := by
  have Ri := Lib.hid hri
  clear hri
  obtain ⟨du, hu1, hu2⟩ := under_term
  go_enter Tryz.func41, Tryz.ntmps41
  go_upto_region 1 with fail
  refine at_code (fun V0 hV0 => ?_)
  obtain ⟨k2, x1, z3⟩ := alloc1 hV0
  have Kk4 := Lib.hid k2
  clear k2
  have Hx1 := Lib.hid x1
  have Z0 := Lib.hid z3
  clear z3 x1 hV0
  have kvV0 : Sees V0 (w.heap.size) V0 := sees_kept _ (kept_refl _)
  go_wp2_with (refine stop_store 25 (.tmp 2) (.tmp 7) rfl ?_)
  intro _
  refine wpList_store_part_n (by rfl) 25 (.tmp 2) (.tmp 7) rfl (w.heap.size) 0 #[.int .i64 16, .int .i64 0, .int .i64 0, .int .i64 0, (.slice (some ⟨V0.heap.size, 0, none⟩) 2 2)] (by rfl) (by rfl) 25 size_term (row_ok rfl) ?_
  intro W6 hW6
  clear kvV0
  obtain ⟨k9, x8, z10⟩ := alloc1 hW6
  have Kk11 := Lib.hid k9
  clear k9
  have Hx8 := Lib.hid x8
  have Hz10 := Lib.hid z10
  clear x8 z10 hW6
  have HR12 : Hid (LiesQ W6 (Par w V0.heap.size [] P) [(.mk 1 i 0 0 []), (.mk 2 0 0 0 [])] (.slice (some ⟨V0.heap.size, 0, none⟩) 2 2)) := q_row [((.mk 1 i 0 0 []), .slice none 0 0), ((.mk 2 0 0 0 []), .slice none 0 0)] _ rfl Hx8.out (par_new (Nat.le_refl _) (xlt_nil _) (Nat.le_refl _)) (fun p hp => by
    simp only [List.mem_cons, List.not_mem_nil, or_false] at hp
    rcases hp with rfl | rfl
    · exact ⟨(mk_fine (show I64 1 from by unfold I64; decide) Ri.out (show I64 0 from by unfold I64; decide) (show I64 0 from by unfold I64; decide)), (liesQ_nil W6 (Par w V0.heap.size [] P))⟩
    · exact ⟨(mk_fine (show I64 2 from by unfold I64; decide) (show I64 0 from by unfold I64; decide) (show I64 0 from by unfold I64; decide) (show I64 0 from by unfold I64; decide)), (liesQ_nil W6 (Par w V0.heap.size [] P))⟩) (Nat.le_of_ble_eq_true rfl)
  refine ⟨_, #[.int .i64 16, .int .i64 0, .int .i64 0, .int .i64 0, (.slice (some ⟨V0.heap.size, 0, none⟩) 2 2)], (blk_at Hx1.out Kk11.out), rfl, Nat.le_of_ble_eq_true rfl, ?_⟩
  intro W7 hW7
  go_wp2_with fail
  refine bodyPost_ret (results_cell_row rfl _ _ (w.heap.size) 25 _ _ du rfl (blk_same (blk_at Hx1.out Kk11.out) hW7) hu1 (by cases du <;> first | rfl | exact hu2) size_term) rfl ?_
  exact ⟨_, rfl, par_end (par_row' HR12.out hW7 (by omega) (by have := Z0.out; omega)) (by have := Z0.out; omega), kept_set (kept_trans Kk4.out Kk11.out) hW7 (by omega)⟩

set_option maxRecDepth 20000 in
set_option maxHeartbeats 4000000 in
theorem hright_any (i : Int) (l : List Tm) (w : World) (s : Value) (hl : Lies w l s) : Calls Tryz.prog 40 #[.int .i64 i, s] w fun e w' => e = .returned (.bool (heR2 i l)) ∧ Kept w w' := by
  obtain ⟨a, cap, S, rfl, hc, hmx, -, hn, hk⟩ := hl.out
  unfold maxLen at hmx
  have HN := Lib.hid hn
  have HK := Lib.hid hk
  clear hn hk hl
  by_cases h0 : i < 0
  · have e1 : decide (i < 0) = true := decide_eq_true h0
    have HS : Hid (heR2 i l = false) := by show _ = _; unfold heR2 levN; rw [show decide (0 ≤ i) = false from decide_eq_false (by omega)]; rfl
    go_enter Tryz.func40, Tryz.ntmps40
    go_wp2
    go_ret
    exact ⟨ret_bool HS.out.symm, kept_refl _⟩
  have e1 : decide (i < 0) = false := decide_eq_false h0
  by_cases h1 : 998 < i
  · have e2 : decide (998 < i) = true := decide_eq_true h1
    have HS : Hid (heR2 i l = false) := by show _ = _; unfold heR2 levN; rw [show decide (i ≤ 1000 - 2) = false from decide_eq_false (by omega), Bool.and_false]; rfl
    go_enter Tryz.func40, Tryz.ntmps40
    go_wp2
    go_ret
    exact ⟨ret_bool HS.out.symm, kept_refl _⟩
  have e2 : decide (998 < i) = false := decide_eq_false h1
  have HS : Hid (heR2 i l = plainL l) := by show _ = _; unfold heR2 levN; rw [show decide (0 ≤ i) = true from decide_eq_true (by omega), show decide (i ≤ 1000 - 2) = true from decide_eq_true (by omega)]; rfl
  clear h0 h1
  go_enter Tryz.func40, Tryz.ntmps40
  go_wp2
  go_loopw [15] (fun iv wr => ∃ k : Nat, k ≤ l.length ∧ iv = .int .i64 k ∧ Hid (∀ j (h : j < l.length), j < k → (l[j]).plainB = true) ∧ Kept w wr) (fun iv _ => l.length - (intOf iv).toNat)
  case atStart => exact ⟨0, Nat.zero_le _, rfl, fun j _ h => absurd h (by omega), kept_refl _⟩
  case round =>
    obtain ⟨k, hkl, rfl, hrel, hb⟩ := hrel
    by_cases hlt : k < l.length
    · obtain ⟨b, o, rfl, hx⟩ := HN.out k hlt
      obtain ⟨c0, c1, c2, c3, c4⟩ := hx.below hb hx.lt
      have hq := HK.out k hlt
      obtain ⟨a', cap', S', hS, -⟩ := hq.out
      rw [hS] at c4 hq
      have HQ := Lib.hid (hq.keep hb)
      have HB := Lib.hid hb
      clear hS hq hb
      go_wp2_with fail
      refine at_world (fun W hW => ?_)
      obtain ⟨k1, -, -⟩ := alloc1 hW
      have HB1 := Lib.hid (kept_trans HB.out k1)
      have HQ1 := Lib.hid (HQ.out.keep k1)
      clear c0 c1 c2 c3 c4 k1 hW
      refine (plain_any l[k] _ _ HQ1.out).mono ?_
      cases hp : (l[k]).plainB with
      | false =>
        have HF : Hid (plainL l = false) := by
          show _ = _
          cases hh : plainL l with
          | false => rfl
          | true => rw [plainL_iff.1 hh _ (List.getElem_mem hlt)] at hp; cases hp
        rintro e w' ⟨rfl, hb'⟩
        have HB2 := Lib.hid (kept_trans HB1.out hb')
        clear hb' hp
        go_wp2
        go_ret
        exact ⟨ret_bool (by rw [HS.out, HF.out]), HB2.out⟩
      | true =>
        have HP := Lib.hid hp
        rintro e w' ⟨rfl, hb'⟩
        have HB2 := Lib.hid (kept_trans HB1.out hb')
        clear hb' hp
        go_wp2
        go_roundw
        case rel =>
          refine ⟨k + 1, hlt, by go_num, fun j hj hjk => ?_, HB2.out⟩
          by_cases e : j = k
          · subst e; exact HP.out
          · exact hrel.out j hj (by omega)
        case measure => simp [intOf]; omega
    · obtain rfl : k = l.length := by omega
      have HF : Hid (plainL l = true) := by
        show _ = _
        exact plainL_iff.2 (fun x hx => by obtain ⟨j, hj, rfl⟩ := List.getElem_of_mem hx; exact hrel.out j hj hj)
      have HB := Lib.hid hb
      clear hb
      go_wp2
      go_ret
      exact ⟨ret_bool (by rw [HS.out, HF.out]), HB.out⟩

def hpointr1_0 : Oper := { dst := some 7, op := Go.Op.move (Go.Operand.tmp 0), type := 3, pos := "het.go:141", after := #[], guard := none }
def hpointr1_1 : Oper := { dst := some 8, op := Go.Op.build 25 #[(0, Go.Operand.const (Go.Value.int Go.IntKind.i64 1)), (1, Go.Operand.tmp 7)], type := 25, pos := "het.go:141", after := #[{ on := 0, ground := Go.Ground.data }], guard := none }
def hpointr1_2 : Oper := { dst := some 9, op := Go.Op.build 25 #[(0, Go.Operand.const (Go.Value.int Go.IntKind.i64 2))], type := 25, pos := "het.go:141", after := #[], guard := none }
def hpointr1_3 : Oper := { dst := some 10, op := Go.Op.load 25 (Go.Operand.tmp 4), type := 25, pos := "het.go:141", after := #[], guard := none }
def hpointr1_4 : Oper := { dst := some 11, op := Go.Op.call { callee := Go.Callee.value (Go.Operand.func 29), args := #[Go.Operand.tmp 10], argTypes := #[25] }, type := 25, pos := "het.go:141", after := #[{ on := 3, ground := Go.Ground.data }], guard := none }
def hpointr1_5 : Oper := { dst := some 12, op := Go.Op.load 25 (Go.Operand.tmp 5), type := 25, pos := "het.go:141", after := #[], guard := none }
def hpointr1_6 : Oper := { dst := some 13, op := Go.Op.call { callee := Go.Callee.value (Go.Operand.func 29), args := #[Go.Operand.tmp 12], argTypes := #[25] }, type := 25, pos := "het.go:141", after := #[{ on := 5, ground := Go.Ground.data }, { on := 4, ground := Go.Ground.chain }], guard := none }
def hpointr1_7 : Oper := { dst := some 14, op := Go.Op.buildSlice 23 4 #[(0, Go.Operand.tmp 8), (1, Go.Operand.tmp 9), (2, Go.Operand.tmp 11), (3, Go.Operand.tmp 13)], type := 23, pos := "het.go:141", after := #[{ on := 1, ground := Go.Ground.data }, { on := 2, ground := Go.Ground.data }, { on := 4, ground := Go.Ground.data }, { on := 6, ground := Go.Ground.data }], guard := none }
def hpointr1_8 : Oper := { dst := some 15, op := Go.Op.build 25 #[(0, Go.Operand.const (Go.Value.int Go.IntKind.i64 17)), (4, Go.Operand.tmp 14)], type := 25, pos := "het.go:141", after := #[{ on := 7, ground := Go.Ground.data }], guard := none }
def hpointr1_9 : Oper := { dst := none, op := Go.Op.store 25 (Go.Operand.tmp 6) (Go.Operand.tmp 15), type := 0, pos := "het.go:141", after := #[{ on := 8, ground := Go.Ground.data }, { on := 6, ground := Go.Ground.chain }, { on := 0, ground := Go.Ground.phase }, { on := 1, ground := Go.Ground.phase }, { on := 2, ground := Go.Ground.phase }, { on := 3, ground := Go.Ground.phase }, { on := 4, ground := Go.Ground.phase }, { on := 5, ground := Go.Ground.phase }, { on := 6, ground := Go.Ground.phase }, { on := 7, ground := Go.Ground.phase }, { on := 8, ground := Go.Ground.phase }], guard := none }
set_option maxRecDepth 20000 in
set_option maxHeartbeats 4000000 in
theorem hpoint_any (i : Int) (a : Tm) (x : Tm) (P : Nat → Prop) (w : World) (sa : Value) (sx : Value) (hri : I64 i) (hfa : a.fine) (hla : LiesQ w P a.kids sa) (hfx : x.fine) (hlx : LiesQ w P x.kids sx) (hpa : a.plainB = true) (hpx : x.plainB = true) : Calls Tryz.prog 42 #[.int .i64 i, tv a sa, tv x sx] w (GivesP P (pointT i a x) w) := by
  have Ri := Lib.hid hri
  clear hri
  have Ga := Lib.hid hfa
  clear hfa
  obtain ⟨aa, ca, Sa, rfl, -⟩ := hla.out
  have Gx := Lib.hid hfx
  clear hfx
  obtain ⟨ax, cx, Sx, rfl, -⟩ := hlx.out
  have Qa := Lib.hid hpa
  clear hpa
  have Qx := Lib.hid hpx
  clear hpx
  obtain ⟨du, hu1, hu2⟩ := under_term
  unfold tv
  go_enter Tryz.func42, Tryz.ntmps42
  go_upto_region 1 with fail
  refine at_code (fun V0 hV0 => ?_)
  obtain ⟨k4, x1, x2, x3, z5⟩ := alloc3 hV0
  have Kk6 := Lib.hid k4
  clear k4
  have Hx1 := Lib.hid x1
  have Hx2 := Lib.hid x2
  have Hx3 := Lib.hid x3
  have Z0 := Lib.hid z5
  clear z5 x1 x2 x3 hV0
  have HLa : Hid (LiesQ V0 (Par w V0.heap.size [] P) a.kids _) := (par_in _ _ hla).later Kk6.out
  clear hla
  have HLx : Hid (LiesQ V0 (Par w V0.heap.size [] P) x.kids _) := (par_in _ _ hlx).later Kk6.out
  clear hlx
  have kvV0 : Sees V0 (w.heap.size + 2) V0 := sees_kept _ (kept_refl _)
  go_wp2_with fail
  clear kvV0
  obtain ⟨W7, h8⟩ : ∃ x, World.drew V0 = x := ⟨_, rfl⟩
  have k9 : Kept V0 W7 := by rw [← h8]; exact kept_drew (kept_refl _)
  have Kk10 := Lib.hid k9
  clear k9
  refine wp_region_held_drew (S := Sees W7 (w.heap.size + 2)) (by kernel_rfl) ?_ (fun hHeld => ?_)
  · (try dsimp only)
    rw [h8]
    exact sees_kept _ (kept_refl _)
  rw [h8] at hHeld ⊢
  clear h8
  refine take_at 0 7 hpointr1_0 (v := ?_) (Or.inl ⟨by rfl, ?_⟩) ?_
  rotate_left 1
  · ((intro w hSw; (try dsimp only at hSw); unfold hpointr1_0; go_simp) <;> with_reducible rfl)
  (try simp only [Act.put, List.setIfInBounds_toArray, List.set_cons_zero, List.set_cons_succ])
  refine take_at 1 8 hpointr1_1 (v := ?_) (Or.inl ⟨by rfl, ?_⟩) ?_
  rotate_left 1
  · ((intro w hSw; (try dsimp only at hSw); unfold hpointr1_1; go_simp) <;> with_reducible rfl)
  (try simp only [Act.put, List.setIfInBounds_toArray, List.set_cons_zero, List.set_cons_succ])
  refine take_at 2 9 hpointr1_2 (v := ?_) (Or.inl ⟨by rfl, ?_⟩) ?_
  rotate_left 1
  · ((intro w hSw; (try dsimp only at hSw); unfold hpointr1_2; go_simp) <;> with_reducible rfl)
  (try simp only [Act.put, List.setIfInBounds_toArray, List.set_cons_zero, List.set_cons_succ])
  refine take_at 3 10 hpointr1_3 (yields_part (w.heap.size) 0 25 (.tmp 4) #[.int .i64 a.k, .int .i64 a.i, .int .i64 a.j, .int .i64 a.n, (.slice aa a.kids.length ca)] du (fun _ h => sees_blk Hx1.out (by have := Z0.out; omega) (sees_of Kk10.out h)) (by rfl) rfl (by rfl) (by rfl) hu1 (by cases du <;> first | rfl | exact hu2) size_term) ?_
  (try simp only [Act.put, List.setIfInBounds_toArray, List.set_cons_zero, List.set_cons_succ])
  refine take_at 5 12 hpointr1_5 (yields_part (w.heap.size + 1) 0 25 (.tmp 5) #[.int .i64 x.k, .int .i64 x.i, .int .i64 x.j, .int .i64 x.n, (.slice ax x.kids.length cx)] du (fun _ h => sees_blk Hx2.out (by have := Z0.out; omega) (sees_of Kk10.out h)) (by rfl) rfl (by rfl) (by rfl) hu1 (by cases du <;> first | rfl | exact hu2) size_term) ?_
  (try simp only [Act.put, List.setIfInBounds_toArray, List.set_cons_zero, List.set_cons_succ])
  refine wpAnyH_ready (rs := [4]) (by kernel_rfl) (by simp) ?_
  refine AllReadyH.cons (o := hpointr1_4) rfl (fun K hK => ?_) ?_
  · unfold hpointr1_4
    go_simp
    refine ((copyR_any a _ (.slice aa a.kids.length ca) (HLa.out.later Kk10.out).lies (plain_right Qa.out)).mono (fun _ _ h => h.givesP (P := (Par w V0.heap.size [] P)))).mono ?_
    rintro e w11 ⟨s13, rfl, hl14, k12⟩
    obtain ⟨a15, c16, S17, rfl, -⟩ := hl14.out
    have Kk18 := Lib.hid k12
    clear k12
    have Hhl14 : Hid (LiesQ w11 (Par w V0.heap.size [] P) a.kids _) := par_give hl14 (Below.size Kk10.out) (xlt_nil _)
    clear hl14
    clear hHeld
    refine hK.out _ _ ?_ (fun hHeld => ?_)
    · (try dsimp only)
      exact sees_kept _ Kk18.out
    clear hK K
    (try simp only [Act.put, List.setIfInBounds_toArray, List.set_cons_zero, List.set_cons_succ])
    refine wpAnyH_ready (rs := [6]) (by kernel_rfl) (by simp) ?_
    refine AllReadyH.cons (o := hpointr1_6) rfl (fun K hK => ?_) ?_
    · unfold hpointr1_6
      go_simp
      refine ((copyR_any x _ (.slice ax x.kids.length cx) (HLx.out.later (kept_trans Kk10.out Kk18.out)).lies (plain_right Qx.out)).mono (fun _ _ h => h.givesP (P := (Par w V0.heap.size [] P)))).mono ?_
      rintro e w19 ⟨s21, rfl, hl22, k20⟩
      obtain ⟨a23, c24, S25, rfl, -⟩ := hl22.out
      have Kk26 := Lib.hid k20
      clear k20
      have Hhl22 : Hid (LiesQ w19 (Par w V0.heap.size [] P) x.kids _) := par_give hl22 (Below.size (kept_trans Kk10.out Kk18.out)) (xlt_nil _)
      clear hl22
      clear hHeld
      refine hK.out _ _ ?_ (fun hHeld => ?_)
      · (try dsimp only)
        exact sees_kept _ (kept_trans Kk18.out Kk26.out)
      clear hK K
      (try simp only [Act.put, List.setIfInBounds_toArray, List.set_cons_zero, List.set_cons_succ])
      refine wpAnyH_ready (rs := [7]) (by kernel_rfl) (by simp) ?_
      refine AllReadyH.cons (o := hpointr1_7) rfl (fun K hK => ?_) ?_
      · unfold hpointr1_7
        go_simp
        refine at_K (fun W28 hW28 => ?_)
        obtain ⟨k30, x29, z31⟩ := alloc1 hW28
        have Kk32 := Lib.hid k30
        clear k30
        have Hx29 := Lib.hid x29
        have Hz31 := Lib.hid z31
        clear x29 z31 hW28
        have HR33 : Hid (LiesQ W28 (Par w V0.heap.size [] P) [(.mk 1 i 0 0 []), (.mk 2 0 0 0 []), a, x] (.slice (some ⟨w19.heap.size, 0, none⟩) 4 4)) := q_row [((.mk 1 i 0 0 []), .slice none 0 0), ((.mk 2 0 0 0 []), .slice none 0 0), (a, (.slice a15 a.kids.length c16)), (x, (.slice a23 x.kids.length c24))] _ rfl Hx29.out (par_new (Below.size (kept_trans Kk10.out (kept_trans Kk18.out Kk26.out))) (xlt_nil _) (Nat.le_refl _)) (fun p hp => by
          simp only [List.mem_cons, List.not_mem_nil, or_false] at hp
          rcases hp with rfl | rfl | rfl | rfl
          · exact ⟨(mk_fine (show I64 1 from by unfold I64; decide) Ri.out (show I64 0 from by unfold I64; decide) (show I64 0 from by unfold I64; decide)), (liesQ_nil W28 (Par w V0.heap.size [] P))⟩
          · exact ⟨(mk_fine (show I64 2 from by unfold I64; decide) (show I64 0 from by unfold I64; decide) (show I64 0 from by unfold I64; decide) (show I64 0 from by unfold I64; decide)), (liesQ_nil W28 (Par w V0.heap.size [] P))⟩
          · exact ⟨Ga.out, (Hhl14.out.later (kept_trans Kk26.out Kk32.out))⟩
          · exact ⟨Gx.out, (Hhl22.out.later Kk32.out)⟩) (Nat.le_of_ble_eq_true rfl)
        clear hHeld
        refine hK.out _ _ ?_ (fun hHeld => ?_)
        · (try dsimp only)
          exact sees_kept _ (kept_trans Kk18.out (kept_trans Kk26.out Kk32.out))
        clear hK K
        (try simp only [Act.put, List.setIfInBounds_toArray, List.set_cons_zero, List.set_cons_succ])
        refine take_at 8 15 hpointr1_8 (v := ?_) (Or.inl ⟨by rfl, ?_⟩) ?_
        rotate_left 1
        · ((intro w hSw; (try dsimp only at hSw); unfold hpointr1_8; go_simp) <;> with_reducible rfl)
        (try simp only [Act.put, List.setIfInBounds_toArray, List.set_cons_zero, List.set_cons_succ])
        refine wpAnyH_ready (rs := [9]) (by kernel_rfl) (by simp) ?_
        refine AllReadyH.cons (o := hpointr1_9) rfl (fun K hK => ?_) ?_
        · unfold hpointr1_9
          refine step_store_part rfl 25 (.tmp 6) (.tmp 15) rfl (w.heap.size + 2) 0 #[.int .i64 17, .int .i64 0, .int .i64 0, .int .i64 0, (.slice (some ⟨w19.heap.size, 0, none⟩) 4 4)] rfl rfl 25 size_term (row_ok rfl) _ #[.int .i64 17, .int .i64 0, .int .i64 0, .int .i64 0, (.slice (some ⟨w19.heap.size, 0, none⟩) 4 4)] (blk_at Hx3.out (kept_trans Kk10.out (kept_trans Kk18.out (kept_trans Kk26.out Kk32.out)))) rfl (Nat.le_of_ble_eq_true rfl) ?_
          intro W34 hW34
          clear hHeld
          refine hK.out _ _ ?_ (fun hHeld => ?_)
          · (try dsimp only)
            exact sees_set (kept_trans Kk18.out (kept_trans Kk26.out Kk32.out)) hW34
          clear hK K
          (try simp only [Act.put])
          refine wpAnyH_done (by kernel_rfl) ?_ _
          clear hHeld
          go_wp2_with fail
          refine bodyPost_ret (results_cell_row rfl _ _ (w.heap.size + 2) 25 _ _ du rfl (blk_same (blk_at Hx3.out (kept_trans Kk10.out (kept_trans Kk18.out (kept_trans Kk26.out Kk32.out)))) hW34) hu1 (by cases du <;> first | rfl | exact hu2) size_term) rfl ?_
          exact ⟨_, rfl, par_end (par_row' HR33.out hW34 (by omega) (by have := Z0.out; omega)) (by have := Z0.out; omega), kept_set (kept_trans Kk6.out (kept_trans Kk10.out (kept_trans Kk18.out (kept_trans Kk26.out Kk32.out)))) hW34 (by omega)⟩
        exact AllReadyH.nil
      exact AllReadyH.nil
    exact AllReadyH.nil
  exact AllReadyH.nil

def hfreshr1_0 : Oper := { dst := some 3, op := Go.Op.fieldAddr 34 (Go.Operand.tmp 1) 1, type := 0, pos := "het.go:150", after := #[], guard := none }
def hfreshr1_1 : Oper := { dst := some 4, op := Go.Op.load 25 (Go.Operand.tmp 3), type := 25, pos := "het.go:150", after := #[{ on := 0, ground := Go.Ground.data }], guard := none }
def hfreshr1_2 : Oper := { dst := some 5, op := Go.Op.call { callee := Go.Callee.value (Go.Operand.func 29), args := #[Go.Operand.tmp 4], argTypes := #[25] }, type := 25, pos := "het.go:150", after := #[{ on := 1, ground := Go.Ground.data }], guard := none }
def hfreshr1_3 : Oper := { dst := some 6, op := Go.Op.fieldAddr 34 (Go.Operand.tmp 1) 2, type := 0, pos := "het.go:150", after := #[], guard := none }
def hfreshr1_4 : Oper := { dst := some 7, op := Go.Op.load 25 (Go.Operand.tmp 6), type := 25, pos := "het.go:150", after := #[{ on := 3, ground := Go.Ground.data }], guard := none }
def hfreshr1_5 : Oper := { dst := some 8, op := Go.Op.call { callee := Go.Callee.value (Go.Operand.func 29), args := #[Go.Operand.tmp 7], argTypes := #[25] }, type := 25, pos := "het.go:150", after := #[{ on := 4, ground := Go.Ground.data }, { on := 2, ground := Go.Ground.chain }], guard := none }
def hfreshr1_6 : Oper := { dst := some 9, op := Go.Op.fieldAddr 34 (Go.Operand.tmp 1) 3, type := 0, pos := "het.go:150", after := #[], guard := none }
def hfreshr1_7 : Oper := { dst := some 10, op := Go.Op.load 25 (Go.Operand.tmp 9), type := 25, pos := "het.go:150", after := #[{ on := 6, ground := Go.Ground.data }], guard := none }
def hfreshr1_8 : Oper := { dst := some 11, op := Go.Op.call { callee := Go.Callee.value (Go.Operand.func 29), args := #[Go.Operand.tmp 10], argTypes := #[25] }, type := 25, pos := "het.go:150", after := #[{ on := 7, ground := Go.Ground.data }, { on := 5, ground := Go.Ground.chain }], guard := none }
def hfreshr1_9 : Oper := { dst := some 12, op := Go.Op.fieldAddr 34 (Go.Operand.tmp 1) 4, type := 0, pos := "het.go:150", after := #[], guard := none }
def hfreshr1_10 : Oper := { dst := some 13, op := Go.Op.load 25 (Go.Operand.tmp 12), type := 25, pos := "het.go:150", after := #[{ on := 9, ground := Go.Ground.data }], guard := none }
def hfreshr1_11 : Oper := { dst := some 14, op := Go.Op.call { callee := Go.Callee.value (Go.Operand.func 29), args := #[Go.Operand.tmp 13], argTypes := #[25] }, type := 25, pos := "het.go:150", after := #[{ on := 10, ground := Go.Ground.data }, { on := 8, ground := Go.Ground.chain }], guard := none }
def hfreshr1_12 : Oper := { dst := some 15, op := Go.Op.fieldAddr 34 (Go.Operand.tmp 1) 1, type := 0, pos := "het.go:150", after := #[{ on := 0, ground := Go.Ground.phase }, { on := 1, ground := Go.Ground.phase }, { on := 2, ground := Go.Ground.phase }, { on := 3, ground := Go.Ground.phase }, { on := 4, ground := Go.Ground.phase }, { on := 5, ground := Go.Ground.textOnly Go.Departure.lateStoresUnsure }, { on := 6, ground := Go.Ground.phase }, { on := 7, ground := Go.Ground.phase }, { on := 8, ground := Go.Ground.textOnly Go.Departure.lateStoresUnsure }, { on := 9, ground := Go.Ground.phase }, { on := 10, ground := Go.Ground.phase }, { on := 11, ground := Go.Ground.textOnly Go.Departure.lateStoresUnsure }], guard := none }
def hfreshr1_13 : Oper := { dst := none, op := Go.Op.store 25 (Go.Operand.tmp 15) (Go.Operand.tmp 5), type := 0, pos := "het.go:150", after := #[{ on := 12, ground := Go.Ground.data }, { on := 2, ground := Go.Ground.data }, { on := 11, ground := Go.Ground.chain }, { on := 0, ground := Go.Ground.phase }, { on := 1, ground := Go.Ground.phase }, { on := 2, ground := Go.Ground.phase }, { on := 3, ground := Go.Ground.phase }, { on := 4, ground := Go.Ground.phase }, { on := 5, ground := Go.Ground.textOnly Go.Departure.lateStoresUnsure }, { on := 6, ground := Go.Ground.phase }, { on := 7, ground := Go.Ground.phase }, { on := 8, ground := Go.Ground.textOnly Go.Departure.lateStoresUnsure }, { on := 9, ground := Go.Ground.phase }, { on := 10, ground := Go.Ground.phase }, { on := 11, ground := Go.Ground.textOnly Go.Departure.lateStoresUnsure }], guard := none }
def hfreshr1_14 : Oper := { dst := some 16, op := Go.Op.fieldAddr 34 (Go.Operand.tmp 1) 2, type := 0, pos := "het.go:150", after := #[{ on := 0, ground := Go.Ground.phase }, { on := 1, ground := Go.Ground.phase }, { on := 2, ground := Go.Ground.phase }, { on := 3, ground := Go.Ground.phase }, { on := 4, ground := Go.Ground.phase }, { on := 5, ground := Go.Ground.phase }, { on := 6, ground := Go.Ground.phase }, { on := 7, ground := Go.Ground.phase }, { on := 8, ground := Go.Ground.textOnly Go.Departure.lateStoresUnsure }, { on := 9, ground := Go.Ground.phase }, { on := 10, ground := Go.Ground.phase }, { on := 11, ground := Go.Ground.textOnly Go.Departure.lateStoresUnsure }, { on := 12, ground := Go.Ground.phase }, { on := 13, ground := Go.Ground.phase }], guard := none }
def hfreshr1_15 : Oper := { dst := none, op := Go.Op.store 25 (Go.Operand.tmp 16) (Go.Operand.tmp 8), type := 0, pos := "het.go:150", after := #[{ on := 14, ground := Go.Ground.data }, { on := 5, ground := Go.Ground.data }, { on := 13, ground := Go.Ground.chain }, { on := 0, ground := Go.Ground.phase }, { on := 1, ground := Go.Ground.phase }, { on := 2, ground := Go.Ground.phase }, { on := 3, ground := Go.Ground.phase }, { on := 4, ground := Go.Ground.phase }, { on := 5, ground := Go.Ground.phase }, { on := 6, ground := Go.Ground.phase }, { on := 7, ground := Go.Ground.phase }, { on := 8, ground := Go.Ground.textOnly Go.Departure.lateStoresUnsure }, { on := 9, ground := Go.Ground.phase }, { on := 10, ground := Go.Ground.phase }, { on := 11, ground := Go.Ground.textOnly Go.Departure.lateStoresUnsure }, { on := 12, ground := Go.Ground.phase }, { on := 13, ground := Go.Ground.phase }], guard := none }
def hfreshr1_16 : Oper := { dst := some 17, op := Go.Op.fieldAddr 34 (Go.Operand.tmp 1) 3, type := 0, pos := "het.go:150", after := #[{ on := 0, ground := Go.Ground.phase }, { on := 1, ground := Go.Ground.phase }, { on := 2, ground := Go.Ground.phase }, { on := 3, ground := Go.Ground.phase }, { on := 4, ground := Go.Ground.phase }, { on := 5, ground := Go.Ground.phase }, { on := 6, ground := Go.Ground.phase }, { on := 7, ground := Go.Ground.phase }, { on := 8, ground := Go.Ground.phase }, { on := 9, ground := Go.Ground.phase }, { on := 10, ground := Go.Ground.phase }, { on := 11, ground := Go.Ground.textOnly Go.Departure.lateStoresUnsure }, { on := 12, ground := Go.Ground.phase }, { on := 13, ground := Go.Ground.phase }, { on := 14, ground := Go.Ground.phase }, { on := 15, ground := Go.Ground.phase }], guard := none }
def hfreshr1_17 : Oper := { dst := none, op := Go.Op.store 25 (Go.Operand.tmp 17) (Go.Operand.tmp 11), type := 0, pos := "het.go:150", after := #[{ on := 16, ground := Go.Ground.data }, { on := 8, ground := Go.Ground.data }, { on := 15, ground := Go.Ground.chain }, { on := 0, ground := Go.Ground.phase }, { on := 1, ground := Go.Ground.phase }, { on := 2, ground := Go.Ground.phase }, { on := 3, ground := Go.Ground.phase }, { on := 4, ground := Go.Ground.phase }, { on := 5, ground := Go.Ground.phase }, { on := 6, ground := Go.Ground.phase }, { on := 7, ground := Go.Ground.phase }, { on := 8, ground := Go.Ground.phase }, { on := 9, ground := Go.Ground.phase }, { on := 10, ground := Go.Ground.phase }, { on := 11, ground := Go.Ground.textOnly Go.Departure.lateStoresUnsure }, { on := 12, ground := Go.Ground.phase }, { on := 13, ground := Go.Ground.phase }, { on := 14, ground := Go.Ground.phase }, { on := 15, ground := Go.Ground.phase }], guard := none }
def hfreshr1_18 : Oper := { dst := some 18, op := Go.Op.fieldAddr 34 (Go.Operand.tmp 1) 4, type := 0, pos := "het.go:150", after := #[{ on := 0, ground := Go.Ground.phase }, { on := 1, ground := Go.Ground.phase }, { on := 2, ground := Go.Ground.phase }, { on := 3, ground := Go.Ground.phase }, { on := 4, ground := Go.Ground.phase }, { on := 5, ground := Go.Ground.phase }, { on := 6, ground := Go.Ground.phase }, { on := 7, ground := Go.Ground.phase }, { on := 8, ground := Go.Ground.phase }, { on := 9, ground := Go.Ground.phase }, { on := 10, ground := Go.Ground.phase }, { on := 11, ground := Go.Ground.phase }, { on := 12, ground := Go.Ground.phase }, { on := 13, ground := Go.Ground.phase }, { on := 14, ground := Go.Ground.phase }, { on := 15, ground := Go.Ground.phase }, { on := 16, ground := Go.Ground.phase }, { on := 17, ground := Go.Ground.phase }], guard := none }
def hfreshr1_19 : Oper := { dst := none, op := Go.Op.store 25 (Go.Operand.tmp 18) (Go.Operand.tmp 14), type := 0, pos := "het.go:150", after := #[{ on := 18, ground := Go.Ground.data }, { on := 11, ground := Go.Ground.data }, { on := 17, ground := Go.Ground.chain }, { on := 0, ground := Go.Ground.phase }, { on := 1, ground := Go.Ground.phase }, { on := 2, ground := Go.Ground.phase }, { on := 3, ground := Go.Ground.phase }, { on := 4, ground := Go.Ground.phase }, { on := 5, ground := Go.Ground.phase }, { on := 6, ground := Go.Ground.phase }, { on := 7, ground := Go.Ground.phase }, { on := 8, ground := Go.Ground.phase }, { on := 9, ground := Go.Ground.phase }, { on := 10, ground := Go.Ground.phase }, { on := 11, ground := Go.Ground.phase }, { on := 12, ground := Go.Ground.phase }, { on := 13, ground := Go.Ground.phase }, { on := 14, ground := Go.Ground.phase }, { on := 15, ground := Go.Ground.phase }, { on := 16, ground := Go.Ground.phase }, { on := 17, ground := Go.Ground.phase }], guard := none }
set_option maxRecDepth 20000 in
set_option maxHeartbeats 4000000 in
theorem hfresh_any (h : He) (P : Nat → Prop) (w : World) (sha : Value) (shb : Value) (shx : Value) (shy : Value) (shh : Value) (hfh : h.fine) (hlh : HQ w P h sha shb shx shy shh) (hpha : h.a.plainB = true) (hphb : h.b.plainB = true) (hphx : h.x.plainB = true) (hphy : h.y.plainB = true) : Calls Tryz.prog 43 #[hv h sha shb shx shy shh] w (GivesHP P h w) := by
  have Gh := Lib.hid hfh
  clear hfh
  obtain ⟨hlha, hlhb, hlhx, hlhy, hlhh⟩ := hlh
  obtain ⟨aha, cha, Sha, rfl, -⟩ := hlha.out
  obtain ⟨ahb, chb, Shb, rfl, -⟩ := hlhb.out
  obtain ⟨ahx, chx, Shx, rfl, -⟩ := hlhx.out
  obtain ⟨ahy, chy, Shy, rfl, -⟩ := hlhy.out
  obtain ⟨ahh, chh, Shh, rfl, -⟩ := hlhh.out
  have Qha := Lib.hid hpha
  clear hpha
  have Qhb := Lib.hid hphb
  clear hphb
  have Qhx := Lib.hid hphx
  clear hphx
  have Qhy := Lib.hid hphy
  clear hphy
  obtain ⟨du, hu1, hu2⟩ := under_term
  obtain ⟨dh, dh1, dh2⟩ := under_of 34 (by kernel_rfl)
  unfold hv
  go_enter Tryz.func43, Tryz.ntmps43
  go_upto_region 1 with fail
  refine at_code (fun V0 hV0 => ?_)
  obtain ⟨k3, x1, x2, z4⟩ := alloc2 hV0
  have Kk5 := Lib.hid k3
  clear k3
  have Hx1 := Lib.hid x1
  have Hx2 := Lib.hid x2
  have Z0 := Lib.hid z4
  clear z4 x1 x2 hV0
  have HLha : Hid (LiesQ V0 (Par w V0.heap.size [] P) h.a.kids _) := (par_in _ _ hlha).later Kk5.out
  clear hlha
  have HLhb : Hid (LiesQ V0 (Par w V0.heap.size [] P) h.b.kids _) := (par_in _ _ hlhb).later Kk5.out
  clear hlhb
  have HLhx : Hid (LiesQ V0 (Par w V0.heap.size [] P) h.x.kids _) := (par_in _ _ hlhx).later Kk5.out
  clear hlhx
  have HLhy : Hid (LiesQ V0 (Par w V0.heap.size [] P) h.y.kids _) := (par_in _ _ hlhy).later Kk5.out
  clear hlhy
  have HLhh : Hid (LiesQ V0 (Par w V0.heap.size [] P) h.h.kids _) := (par_in _ _ hlhh).later Kk5.out
  clear hlhh
  have kvV0 : Sees V0 (w.heap.size + 1) V0 := sees_kept _ (kept_refl _)
  go_wp2_with fail
  clear kvV0
  obtain ⟨W6, h7⟩ : ∃ x, World.drew V0 = x := ⟨_, rfl⟩
  have k8 : Kept V0 W6 := by rw [← h7]; exact kept_drew (kept_refl _)
  have Kk9 := Lib.hid k8
  clear k8
  refine wp_region_X (S := Sees W6 (w.heap.size + 1)) 13 (by kernel_rfl) ?_ (fun hHeld => ?_)
  · (try dsimp only)
    rw [h7]
    exact sees_kept _ (kept_refl _)
  rw [h7] at hHeld ⊢
  clear h7
  refine takeX_any 0 3 hfreshr1_0 (v := ?_) (Or.inl ⟨by rfl, ?_⟩) ?_ (fun _ => hHeld)
  rotate_left 1
  · ((intro w hSw; (try dsimp only at hSw); unfold hfreshr1_0; go_simp) <;> with_reducible rfl)
  (try simp only [Act.put, List.setIfInBounds_toArray, List.set_cons_zero, List.set_cons_succ])
  refine takeX_at 1 4 hfreshr1_1 (yields_part (w.heap.size) 1 25 (.tmp 3) #[.int .i64 h.a.k, .int .i64 h.a.i, .int .i64 h.a.j, .int .i64 h.a.n, (.slice aha h.a.kids.length cha)] du (fun _ h => sees_blk Hx1.out (by have := Z0.out; omega) (sees_of Kk9.out h)) (by rfl) rfl (by rfl) (by rfl) hu1 (by cases du <;> first | rfl | exact hu2) size_term) ?_
  (try simp only [Act.put, List.setIfInBounds_toArray, List.set_cons_zero, List.set_cons_succ])
  refine takeX_any 3 6 hfreshr1_3 (v := ?_) (Or.inl ⟨by rfl, ?_⟩) ?_ (fun _ => hHeld)
  rotate_left 1
  · ((intro w hSw; (try dsimp only at hSw); unfold hfreshr1_3; go_simp) <;> with_reducible rfl)
  (try simp only [Act.put, List.setIfInBounds_toArray, List.set_cons_zero, List.set_cons_succ])
  refine takeX_at 4 7 hfreshr1_4 (yields_part (w.heap.size) 6 25 (.tmp 6) #[.int .i64 h.b.k, .int .i64 h.b.i, .int .i64 h.b.j, .int .i64 h.b.n, (.slice ahb h.b.kids.length chb)] du (fun _ h => sees_blk Hx1.out (by have := Z0.out; omega) (sees_of Kk9.out h)) (by rfl) rfl (by rfl) (by rfl) hu1 (by cases du <;> first | rfl | exact hu2) size_term) ?_
  (try simp only [Act.put, List.setIfInBounds_toArray, List.set_cons_zero, List.set_cons_succ])
  refine takeX_any 6 9 hfreshr1_6 (v := ?_) (Or.inl ⟨by rfl, ?_⟩) ?_ (fun _ => hHeld)
  rotate_left 1
  · ((intro w hSw; (try dsimp only at hSw); unfold hfreshr1_6; go_simp) <;> with_reducible rfl)
  (try simp only [Act.put, List.setIfInBounds_toArray, List.set_cons_zero, List.set_cons_succ])
  refine takeX_at 7 10 hfreshr1_7 (yields_part (w.heap.size) 11 25 (.tmp 9) #[.int .i64 h.x.k, .int .i64 h.x.i, .int .i64 h.x.j, .int .i64 h.x.n, (.slice ahx h.x.kids.length chx)] du (fun _ h => sees_blk Hx1.out (by have := Z0.out; omega) (sees_of Kk9.out h)) (by rfl) rfl (by rfl) (by rfl) hu1 (by cases du <;> first | rfl | exact hu2) size_term) ?_
  (try simp only [Act.put, List.setIfInBounds_toArray, List.set_cons_zero, List.set_cons_succ])
  refine takeX_any 9 12 hfreshr1_9 (v := ?_) (Or.inl ⟨by rfl, ?_⟩) ?_ (fun _ => hHeld)
  rotate_left 1
  · ((intro w hSw; (try dsimp only at hSw); unfold hfreshr1_9; go_simp) <;> with_reducible rfl)
  (try simp only [Act.put, List.setIfInBounds_toArray, List.set_cons_zero, List.set_cons_succ])
  refine takeX_at 10 13 hfreshr1_10 (yields_part (w.heap.size) 16 25 (.tmp 12) #[.int .i64 h.y.k, .int .i64 h.y.i, .int .i64 h.y.j, .int .i64 h.y.n, (.slice ahy h.y.kids.length chy)] du (fun _ h => sees_blk Hx1.out (by have := Z0.out; omega) (sees_of Kk9.out h)) (by rfl) rfl (by rfl) (by rfl) hu1 (by cases du <;> first | rfl | exact hu2) size_term) ?_
  (try simp only [Act.put, List.setIfInBounds_toArray, List.set_cons_zero, List.set_cons_succ])
  refine wpAnyX_ready (rs := [2]) (by kernel_rfl) (by simp) ?_
  refine AllReadyX.cons (o := hfreshr1_2) rfl (fun K hK => ?_) ?_
  · unfold hfreshr1_2
    go_simp
    refine ((copyR_any h.a _ (.slice aha h.a.kids.length cha) (HLha.out.later Kk9.out).lies (plain_right Qha.out)).mono (fun _ _ h => h.givesP (P := (Par w V0.heap.size [] P)))).mono ?_
    rintro e w10 ⟨s12, rfl, hl13, k11⟩
    obtain ⟨a14, c15, S16, rfl, -⟩ := hl13.out
    have Kk17 := Lib.hid k11
    clear k11
    have Hhl13 : Hid (LiesQ w10 (Par w V0.heap.size [] P) h.a.kids _) := par_give hl13 (Below.size Kk9.out) (xlt_nil _)
    clear hl13
    clear hHeld
    refine hK.out _ _ (fun _ => sees_kept _ Kk17.out) (fun hHeld => ?_)
    replace hHeld := hHeld (by kernel_rfl)
    clear hK K
    (try simp only [Act.put, List.setIfInBounds_toArray, List.set_cons_zero, List.set_cons_succ])
    refine takeX_any 12 15 hfreshr1_12 (v := ?_) (Or.inl ⟨by rfl, ?_⟩) ?_ (fun _ => hHeld)
    rotate_left 1
    · ((intro w hSw; (try dsimp only at hSw); unfold hfreshr1_12; go_simp) <;> with_reducible rfl)
    (try simp only [Act.put, List.setIfInBounds_toArray, List.set_cons_zero, List.set_cons_succ])
    refine wpAnyX_ready (rs := [5]) (by kernel_rfl) (by simp) ?_
    refine AllReadyX.cons (o := hfreshr1_5) rfl (fun K hK => ?_) ?_
    · unfold hfreshr1_5
      go_simp
      refine ((copyR_any h.b _ (.slice ahb h.b.kids.length chb) (HLhb.out.later (kept_trans Kk9.out Kk17.out)).lies (plain_right Qhb.out)).mono (fun _ _ h => h.givesP (P := (Par w V0.heap.size [] P)))).mono ?_
      rintro e w18 ⟨s20, rfl, hl21, k19⟩
      obtain ⟨a22, c23, S24, rfl, -⟩ := hl21.out
      have Kk25 := Lib.hid k19
      clear k19
      have Hhl21 : Hid (LiesQ w18 (Par w V0.heap.size [] P) h.b.kids _) := par_give hl21 (Below.size (kept_trans Kk9.out Kk17.out)) (xlt_nil _)
      clear hl21
      clear hHeld
      refine hK.out _ _ (fun _ => sees_kept _ (kept_trans Kk17.out Kk25.out)) (fun hHeld => ?_)
      replace hHeld := hHeld (by kernel_rfl)
      clear hK K
      (try simp only [Act.put, List.setIfInBounds_toArray, List.set_cons_zero, List.set_cons_succ])
      refine wpAnyX_ready (rs := [8]) (by kernel_rfl) (by simp) ?_
      refine AllReadyX.cons (o := hfreshr1_8) rfl (fun K hK => ?_) ?_
      · unfold hfreshr1_8
        go_simp
        refine ((copyR_any h.x _ (.slice ahx h.x.kids.length chx) (HLhx.out.later (kept_trans Kk9.out (kept_trans Kk17.out Kk25.out))).lies (plain_right Qhx.out)).mono (fun _ _ h => h.givesP (P := (Par w V0.heap.size [] P)))).mono ?_
        rintro e w26 ⟨s28, rfl, hl29, k27⟩
        obtain ⟨a30, c31, S32, rfl, -⟩ := hl29.out
        have Kk33 := Lib.hid k27
        clear k27
        have Hhl29 : Hid (LiesQ w26 (Par w V0.heap.size [] P) h.x.kids _) := par_give hl29 (Below.size (kept_trans Kk9.out (kept_trans Kk17.out Kk25.out))) (xlt_nil _)
        clear hl29
        clear hHeld
        refine hK.out _ _ (fun _ => sees_kept _ (kept_trans Kk17.out (kept_trans Kk25.out Kk33.out))) (fun hHeld => ?_)
        replace hHeld := hHeld (by kernel_rfl)
        clear hK K
        (try simp only [Act.put, List.setIfInBounds_toArray, List.set_cons_zero, List.set_cons_succ])
        refine wpAnyX_ready (rs := [11]) (by kernel_rfl) (by simp) ?_
        refine AllReadyX.cons (o := hfreshr1_11) rfl (fun K hK => ?_) ?_
        · unfold hfreshr1_11
          go_simp
          refine ((copyR_any h.y _ (.slice ahy h.y.kids.length chy) (HLhy.out.later (kept_trans Kk9.out (kept_trans Kk17.out (kept_trans Kk25.out Kk33.out)))).lies (plain_right Qhy.out)).mono (fun _ _ h => h.givesP (P := (Par w V0.heap.size [] P)))).mono ?_
          rintro e w34 ⟨s36, rfl, hl37, k35⟩
          obtain ⟨a38, c39, S40, rfl, -⟩ := hl37.out
          have Kk41 := Lib.hid k35
          clear k35
          have Hhl37 : Hid (LiesQ w34 (Par w V0.heap.size [] P) h.y.kids _) := par_give hl37 (Below.size (kept_trans Kk9.out (kept_trans Kk17.out (kept_trans Kk25.out Kk33.out)))) (xlt_nil _)
          clear hl37
          clear hHeld
          refine hK.out _ _ (fun _ => sees_kept _ (kept_trans Kk17.out (kept_trans Kk25.out (kept_trans Kk33.out Kk41.out)))) (fun hHeld => ?_)
          replace hHeld := hHeld (by kernel_rfl)
          clear hK K
          (try simp only [Act.put, List.setIfInBounds_toArray, List.set_cons_zero, List.set_cons_succ])
          refine wpAnyX_ready (rs := [13]) (by kernel_rfl) (by simp) ?_
          refine AllReadyX.cons (o := hfreshr1_13) rfl (fun K hK => ?_) ?_
          · unfold hfreshr1_13
            refine step_store_part rfl 25 (.tmp 15) (.tmp 5) rfl (w.heap.size) 1 #[.int .i64 h.a.k, .int .i64 h.a.i, .int .i64 h.a.j, .int .i64 h.a.n, (.slice a14 h.a.kids.length c15)] rfl rfl 34 size_term (row_ok rfl) _ #[.int .i64 h.i, .int .i64 h.a.k, .int .i64 h.a.i, .int .i64 h.a.j, .int .i64 h.a.n, (.slice a14 h.a.kids.length c15), .int .i64 h.b.k, .int .i64 h.b.i, .int .i64 h.b.j, .int .i64 h.b.n, (.slice ahb h.b.kids.length chb), .int .i64 h.x.k, .int .i64 h.x.i, .int .i64 h.x.j, .int .i64 h.x.n, (.slice ahx h.x.kids.length chx), .int .i64 h.y.k, .int .i64 h.y.i, .int .i64 h.y.j, .int .i64 h.y.n, (.slice ahy h.y.kids.length chy), .int .i64 h.h.k, .int .i64 h.h.i, .int .i64 h.h.j, .int .i64 h.h.n, (.slice ahh h.h.kids.length chh)] (blk_at Hx1.out (kept_trans Kk9.out (kept_trans Kk17.out (kept_trans Kk25.out (kept_trans Kk33.out Kk41.out))))) rfl (Nat.le_of_ble_eq_true rfl) ?_
            intro W42 hW42
            have KB43 := Lib.hid (kept_set (kept_trans Kk5.out (kept_trans Kk9.out (kept_trans Kk17.out (kept_trans Kk25.out (kept_trans Kk33.out Kk41.out))))) hW42 (by have := Z0.out; omega))
            have HN44 : Hid (V0.heap.size ≤ W42.heap.size) := by show _ ≤ _; rw [← hW42, setRow_size]; exact (Below.size (kept_trans Kk9.out (kept_trans Kk17.out (kept_trans Kk25.out (kept_trans Kk33.out Kk41.out)))))
            have HL45 : Hid (LiesQ W42 (Par w V0.heap.size [] P) h.a.kids _) := par_row' (HLha.out.later (kept_trans Kk9.out (kept_trans Kk17.out (kept_trans Kk25.out (kept_trans Kk33.out Kk41.out))))) hW42 (by have := Z0.out; omega) (by have := Z0.out; omega)
            have HL46 : Hid (LiesQ W42 (Par w V0.heap.size [] P) h.b.kids _) := par_row' (HLhb.out.later (kept_trans Kk9.out (kept_trans Kk17.out (kept_trans Kk25.out (kept_trans Kk33.out Kk41.out))))) hW42 (by have := Z0.out; omega) (by have := Z0.out; omega)
            have HL47 : Hid (LiesQ W42 (Par w V0.heap.size [] P) h.x.kids _) := par_row' (HLhx.out.later (kept_trans Kk9.out (kept_trans Kk17.out (kept_trans Kk25.out (kept_trans Kk33.out Kk41.out))))) hW42 (by have := Z0.out; omega) (by have := Z0.out; omega)
            have HL48 : Hid (LiesQ W42 (Par w V0.heap.size [] P) h.y.kids _) := par_row' (HLhy.out.later (kept_trans Kk9.out (kept_trans Kk17.out (kept_trans Kk25.out (kept_trans Kk33.out Kk41.out))))) hW42 (by have := Z0.out; omega) (by have := Z0.out; omega)
            have HL49 : Hid (LiesQ W42 (Par w V0.heap.size [] P) h.h.kids _) := par_row' (HLhh.out.later (kept_trans Kk9.out (kept_trans Kk17.out (kept_trans Kk25.out (kept_trans Kk33.out Kk41.out))))) hW42 (by have := Z0.out; omega) (by have := Z0.out; omega)
            have HL50 : Hid (LiesQ W42 (Par w V0.heap.size [] P) h.a.kids _) := par_row' (Hhl13.out.later (kept_trans Kk25.out (kept_trans Kk33.out Kk41.out))) hW42 (by have := Z0.out; omega) (by have := Z0.out; omega)
            have HL51 : Hid (LiesQ W42 (Par w V0.heap.size [] P) h.b.kids _) := par_row' (Hhl21.out.later (kept_trans Kk33.out Kk41.out)) hW42 (by have := Z0.out; omega) (by have := Z0.out; omega)
            have HL52 : Hid (LiesQ W42 (Par w V0.heap.size [] P) h.x.kids _) := par_row' (Hhl29.out.later Kk41.out) hW42 (by have := Z0.out; omega) (by have := Z0.out; omega)
            have HL53 : Hid (LiesQ W42 (Par w V0.heap.size [] P) h.y.kids _) := par_row' Hhl37.out hW42 (by have := Z0.out; omega) (by have := Z0.out; omega)
            have XL54 := Lib.hid (xlt_set (xlt_nil _) hW42)
            have HX55 := Lib.hid (blk_same (blk_at Hx1.out (kept_trans Kk9.out (kept_trans Kk17.out (kept_trans Kk25.out (kept_trans Kk33.out Kk41.out))))) hW42)
            have HX56 := Lib.hid (blk_other (blk_at Hx2.out (kept_trans Kk9.out (kept_trans Kk17.out (kept_trans Kk25.out (kept_trans Kk33.out Kk41.out))))) hW42 (by have := Z0.out; omega))
            clear hW42
            clear hHeld
            refine hK.out _ _ (fun h => Bool.noConfusion (show true = false from h)) (fun _ => ?_)
            clear hK K
            (try simp only [Act.put])
            refine takeX_any 14 16 hfreshr1_14 (v := ?_) (Or.inl ⟨by rfl, ?_⟩) ?_ (fun h => Bool.noConfusion (show true = false from h))
            rotate_left 1
            · ((intro w hSw; (try dsimp only at hSw); unfold hfreshr1_14; go_simp) <;> with_reducible rfl)
            (try simp only [Act.put, List.setIfInBounds_toArray, List.set_cons_zero, List.set_cons_succ])
            refine wpAnyX_ready (rs := [15]) (by kernel_rfl) (by simp) ?_
            refine AllReadyX.cons (o := hfreshr1_15) rfl (fun K hK => ?_) ?_
            · unfold hfreshr1_15
              refine step_store_part rfl 25 (.tmp 16) (.tmp 8) rfl (w.heap.size) 6 #[.int .i64 h.b.k, .int .i64 h.b.i, .int .i64 h.b.j, .int .i64 h.b.n, (.slice a22 h.b.kids.length c23)] rfl rfl 34 size_term (row_ok rfl) _ #[.int .i64 h.i, .int .i64 h.a.k, .int .i64 h.a.i, .int .i64 h.a.j, .int .i64 h.a.n, (.slice a14 h.a.kids.length c15), .int .i64 h.b.k, .int .i64 h.b.i, .int .i64 h.b.j, .int .i64 h.b.n, (.slice a22 h.b.kids.length c23), .int .i64 h.x.k, .int .i64 h.x.i, .int .i64 h.x.j, .int .i64 h.x.n, (.slice ahx h.x.kids.length chx), .int .i64 h.y.k, .int .i64 h.y.i, .int .i64 h.y.j, .int .i64 h.y.n, (.slice ahy h.y.kids.length chy), .int .i64 h.h.k, .int .i64 h.h.i, .int .i64 h.h.j, .int .i64 h.h.n, (.slice ahh h.h.kids.length chh)] HX55.out rfl (Nat.le_of_ble_eq_true rfl) ?_
              intro W57 hW57
              have KB58 := Lib.hid (kept_set KB43.out hW57 (by have := Z0.out; omega))
              have HN59 : Hid (V0.heap.size ≤ W57.heap.size) := by show _ ≤ _; rw [← hW57, setRow_size]; exact HN44.out
              have HL60 : Hid (LiesQ W57 (Par w V0.heap.size [] P) h.a.kids _) := par_row' HL45.out hW57 (by have := Z0.out; omega) (by have := Z0.out; omega)
              have HL61 : Hid (LiesQ W57 (Par w V0.heap.size [] P) h.b.kids _) := par_row' HL46.out hW57 (by have := Z0.out; omega) (by have := Z0.out; omega)
              have HL62 : Hid (LiesQ W57 (Par w V0.heap.size [] P) h.x.kids _) := par_row' HL47.out hW57 (by have := Z0.out; omega) (by have := Z0.out; omega)
              have HL63 : Hid (LiesQ W57 (Par w V0.heap.size [] P) h.y.kids _) := par_row' HL48.out hW57 (by have := Z0.out; omega) (by have := Z0.out; omega)
              have HL64 : Hid (LiesQ W57 (Par w V0.heap.size [] P) h.h.kids _) := par_row' HL49.out hW57 (by have := Z0.out; omega) (by have := Z0.out; omega)
              have HL65 : Hid (LiesQ W57 (Par w V0.heap.size [] P) h.a.kids _) := par_row' HL50.out hW57 (by have := Z0.out; omega) (by have := Z0.out; omega)
              have HL66 : Hid (LiesQ W57 (Par w V0.heap.size [] P) h.b.kids _) := par_row' HL51.out hW57 (by have := Z0.out; omega) (by have := Z0.out; omega)
              have HL67 : Hid (LiesQ W57 (Par w V0.heap.size [] P) h.x.kids _) := par_row' HL52.out hW57 (by have := Z0.out; omega) (by have := Z0.out; omega)
              have HL68 : Hid (LiesQ W57 (Par w V0.heap.size [] P) h.y.kids _) := par_row' HL53.out hW57 (by have := Z0.out; omega) (by have := Z0.out; omega)
              have XL69 := Lib.hid (xlt_set XL54.out hW57)
              have HX70 := Lib.hid (blk_same HX55.out hW57)
              have HX71 := Lib.hid (blk_other HX56.out hW57 (by have := Z0.out; omega))
              clear hW57
              refine hK.out _ _ (fun h => Bool.noConfusion (show true = false from h)) (fun _ => ?_)
              clear hK K
              (try simp only [Act.put])
              refine takeX_any 16 17 hfreshr1_16 (v := ?_) (Or.inl ⟨by rfl, ?_⟩) ?_ (fun h => Bool.noConfusion (show true = false from h))
              rotate_left 1
              · ((intro w hSw; (try dsimp only at hSw); unfold hfreshr1_16; go_simp) <;> with_reducible rfl)
              (try simp only [Act.put, List.setIfInBounds_toArray, List.set_cons_zero, List.set_cons_succ])
              refine wpAnyX_ready (rs := [17]) (by kernel_rfl) (by simp) ?_
              refine AllReadyX.cons (o := hfreshr1_17) rfl (fun K hK => ?_) ?_
              · unfold hfreshr1_17
                refine step_store_part rfl 25 (.tmp 17) (.tmp 11) rfl (w.heap.size) 11 #[.int .i64 h.x.k, .int .i64 h.x.i, .int .i64 h.x.j, .int .i64 h.x.n, (.slice a30 h.x.kids.length c31)] rfl rfl 34 size_term (row_ok rfl) _ #[.int .i64 h.i, .int .i64 h.a.k, .int .i64 h.a.i, .int .i64 h.a.j, .int .i64 h.a.n, (.slice a14 h.a.kids.length c15), .int .i64 h.b.k, .int .i64 h.b.i, .int .i64 h.b.j, .int .i64 h.b.n, (.slice a22 h.b.kids.length c23), .int .i64 h.x.k, .int .i64 h.x.i, .int .i64 h.x.j, .int .i64 h.x.n, (.slice a30 h.x.kids.length c31), .int .i64 h.y.k, .int .i64 h.y.i, .int .i64 h.y.j, .int .i64 h.y.n, (.slice ahy h.y.kids.length chy), .int .i64 h.h.k, .int .i64 h.h.i, .int .i64 h.h.j, .int .i64 h.h.n, (.slice ahh h.h.kids.length chh)] HX70.out rfl (Nat.le_of_ble_eq_true rfl) ?_
                intro W72 hW72
                have KB73 := Lib.hid (kept_set KB58.out hW72 (by have := Z0.out; omega))
                have HN74 : Hid (V0.heap.size ≤ W72.heap.size) := by show _ ≤ _; rw [← hW72, setRow_size]; exact HN59.out
                have HL75 : Hid (LiesQ W72 (Par w V0.heap.size [] P) h.a.kids _) := par_row' HL60.out hW72 (by have := Z0.out; omega) (by have := Z0.out; omega)
                have HL76 : Hid (LiesQ W72 (Par w V0.heap.size [] P) h.b.kids _) := par_row' HL61.out hW72 (by have := Z0.out; omega) (by have := Z0.out; omega)
                have HL77 : Hid (LiesQ W72 (Par w V0.heap.size [] P) h.x.kids _) := par_row' HL62.out hW72 (by have := Z0.out; omega) (by have := Z0.out; omega)
                have HL78 : Hid (LiesQ W72 (Par w V0.heap.size [] P) h.y.kids _) := par_row' HL63.out hW72 (by have := Z0.out; omega) (by have := Z0.out; omega)
                have HL79 : Hid (LiesQ W72 (Par w V0.heap.size [] P) h.h.kids _) := par_row' HL64.out hW72 (by have := Z0.out; omega) (by have := Z0.out; omega)
                have HL80 : Hid (LiesQ W72 (Par w V0.heap.size [] P) h.a.kids _) := par_row' HL65.out hW72 (by have := Z0.out; omega) (by have := Z0.out; omega)
                have HL81 : Hid (LiesQ W72 (Par w V0.heap.size [] P) h.b.kids _) := par_row' HL66.out hW72 (by have := Z0.out; omega) (by have := Z0.out; omega)
                have HL82 : Hid (LiesQ W72 (Par w V0.heap.size [] P) h.x.kids _) := par_row' HL67.out hW72 (by have := Z0.out; omega) (by have := Z0.out; omega)
                have HL83 : Hid (LiesQ W72 (Par w V0.heap.size [] P) h.y.kids _) := par_row' HL68.out hW72 (by have := Z0.out; omega) (by have := Z0.out; omega)
                have XL84 := Lib.hid (xlt_set XL69.out hW72)
                have HX85 := Lib.hid (blk_same HX70.out hW72)
                have HX86 := Lib.hid (blk_other HX71.out hW72 (by have := Z0.out; omega))
                clear hW72
                refine hK.out _ _ (fun h => Bool.noConfusion (show true = false from h)) (fun _ => ?_)
                clear hK K
                (try simp only [Act.put])
                refine takeX_any 18 18 hfreshr1_18 (v := ?_) (Or.inl ⟨by rfl, ?_⟩) ?_ (fun h => Bool.noConfusion (show true = false from h))
                rotate_left 1
                · ((intro w hSw; (try dsimp only at hSw); unfold hfreshr1_18; go_simp) <;> with_reducible rfl)
                (try simp only [Act.put, List.setIfInBounds_toArray, List.set_cons_zero, List.set_cons_succ])
                refine wpAnyX_ready (rs := [19]) (by kernel_rfl) (by simp) ?_
                refine AllReadyX.cons (o := hfreshr1_19) rfl (fun K hK => ?_) ?_
                · unfold hfreshr1_19
                  refine step_store_part rfl 25 (.tmp 18) (.tmp 14) rfl (w.heap.size) 16 #[.int .i64 h.y.k, .int .i64 h.y.i, .int .i64 h.y.j, .int .i64 h.y.n, (.slice a38 h.y.kids.length c39)] rfl rfl 34 size_term (row_ok rfl) _ #[.int .i64 h.i, .int .i64 h.a.k, .int .i64 h.a.i, .int .i64 h.a.j, .int .i64 h.a.n, (.slice a14 h.a.kids.length c15), .int .i64 h.b.k, .int .i64 h.b.i, .int .i64 h.b.j, .int .i64 h.b.n, (.slice a22 h.b.kids.length c23), .int .i64 h.x.k, .int .i64 h.x.i, .int .i64 h.x.j, .int .i64 h.x.n, (.slice a30 h.x.kids.length c31), .int .i64 h.y.k, .int .i64 h.y.i, .int .i64 h.y.j, .int .i64 h.y.n, (.slice a38 h.y.kids.length c39), .int .i64 h.h.k, .int .i64 h.h.i, .int .i64 h.h.j, .int .i64 h.h.n, (.slice ahh h.h.kids.length chh)] HX85.out rfl (Nat.le_of_ble_eq_true rfl) ?_
                  intro W87 hW87
                  have KB88 := Lib.hid (kept_set KB73.out hW87 (by have := Z0.out; omega))
                  have HN89 : Hid (V0.heap.size ≤ W87.heap.size) := by show _ ≤ _; rw [← hW87, setRow_size]; exact HN74.out
                  have HL90 : Hid (LiesQ W87 (Par w V0.heap.size [] P) h.a.kids _) := par_row' HL75.out hW87 (by have := Z0.out; omega) (by have := Z0.out; omega)
                  have HL91 : Hid (LiesQ W87 (Par w V0.heap.size [] P) h.b.kids _) := par_row' HL76.out hW87 (by have := Z0.out; omega) (by have := Z0.out; omega)
                  have HL92 : Hid (LiesQ W87 (Par w V0.heap.size [] P) h.x.kids _) := par_row' HL77.out hW87 (by have := Z0.out; omega) (by have := Z0.out; omega)
                  have HL93 : Hid (LiesQ W87 (Par w V0.heap.size [] P) h.y.kids _) := par_row' HL78.out hW87 (by have := Z0.out; omega) (by have := Z0.out; omega)
                  have HL94 : Hid (LiesQ W87 (Par w V0.heap.size [] P) h.h.kids _) := par_row' HL79.out hW87 (by have := Z0.out; omega) (by have := Z0.out; omega)
                  have HL95 : Hid (LiesQ W87 (Par w V0.heap.size [] P) h.a.kids _) := par_row' HL80.out hW87 (by have := Z0.out; omega) (by have := Z0.out; omega)
                  have HL96 : Hid (LiesQ W87 (Par w V0.heap.size [] P) h.b.kids _) := par_row' HL81.out hW87 (by have := Z0.out; omega) (by have := Z0.out; omega)
                  have HL97 : Hid (LiesQ W87 (Par w V0.heap.size [] P) h.x.kids _) := par_row' HL82.out hW87 (by have := Z0.out; omega) (by have := Z0.out; omega)
                  have HL98 : Hid (LiesQ W87 (Par w V0.heap.size [] P) h.y.kids _) := par_row' HL83.out hW87 (by have := Z0.out; omega) (by have := Z0.out; omega)
                  have XL99 := Lib.hid (xlt_set XL84.out hW87)
                  have HX100 := Lib.hid (blk_same HX85.out hW87)
                  have HX101 := Lib.hid (blk_other HX86.out hW87 (by have := Z0.out; omega))
                  clear hW87
                  refine hK.out _ _ (fun h => Bool.noConfusion (show true = false from h)) (fun _ => ?_)
                  clear hK K
                  (try simp only [Act.put])
                  refine wpAnyX_done (by kernel_rfl) ?_ _
                  have kvW87 : Sees W87 (w.heap.size + 1) W87 := sees_kept _ (kept_refl _)
                  go_wp2_with (refine stop_load 34 (.tmp 1) rfl ?_)
                  intro _
                  refine wpList_load_part (w.heap.size) 0 34 (.tmp 1) #[.int .i64 h.i, .int .i64 h.a.k, .int .i64 h.a.i, .int .i64 h.a.j, .int .i64 h.a.n, (.slice a14 h.a.kids.length c15), .int .i64 h.b.k, .int .i64 h.b.i, .int .i64 h.b.j, .int .i64 h.b.n, (.slice a22 h.b.kids.length c23), .int .i64 h.x.k, .int .i64 h.x.i, .int .i64 h.x.j, .int .i64 h.x.n, (.slice a30 h.x.kids.length c31), .int .i64 h.y.k, .int .i64 h.y.i, .int .i64 h.y.j, .int .i64 h.y.n, (.slice a38 h.y.kids.length c39), .int .i64 h.h.k, .int .i64 h.h.i, .int .i64 h.h.j, .int .i64 h.h.n, (.slice ahh h.h.kids.length chh)] dh HX100.out (by rfl) rfl (by rfl) (by rfl) dh1 (by cases dh <;> first | rfl | exact dh2) (by kernel_rfl) ?_
                  go_wp2_with (refine stop_store 34 (.tmp 2) (.tmp 19) rfl ?_)
                  intro _
                  refine wpList_store_part_n (by rfl) 34 (.tmp 2) (.tmp 19) rfl (w.heap.size + 1) 0 #[.int .i64 h.i, .int .i64 h.a.k, .int .i64 h.a.i, .int .i64 h.a.j, .int .i64 h.a.n, (.slice a14 h.a.kids.length c15), .int .i64 h.b.k, .int .i64 h.b.i, .int .i64 h.b.j, .int .i64 h.b.n, (.slice a22 h.b.kids.length c23), .int .i64 h.x.k, .int .i64 h.x.i, .int .i64 h.x.j, .int .i64 h.x.n, (.slice a30 h.x.kids.length c31), .int .i64 h.y.k, .int .i64 h.y.i, .int .i64 h.y.j, .int .i64 h.y.n, (.slice a38 h.y.kids.length c39), .int .i64 h.h.k, .int .i64 h.h.i, .int .i64 h.h.j, .int .i64 h.h.n, (.slice ahh h.h.kids.length chh)] (by rfl) (by rfl) 34 (by kernel_rfl) (row_ok rfl) ?_
                  intro W102 hW102
                  clear kvW87
                  subst hW102
                  refine ⟨_, #[.int .i64 h.i, .int .i64 h.a.k, .int .i64 h.a.i, .int .i64 h.a.j, .int .i64 h.a.n, (.slice a14 h.a.kids.length c15), .int .i64 h.b.k, .int .i64 h.b.i, .int .i64 h.b.j, .int .i64 h.b.n, (.slice a22 h.b.kids.length c23), .int .i64 h.x.k, .int .i64 h.x.i, .int .i64 h.x.j, .int .i64 h.x.n, (.slice a30 h.x.kids.length c31), .int .i64 h.y.k, .int .i64 h.y.i, .int .i64 h.y.j, .int .i64 h.y.n, (.slice a38 h.y.kids.length c39), .int .i64 h.h.k, .int .i64 h.h.i, .int .i64 h.h.j, .int .i64 h.h.n, (.slice ahh h.h.kids.length chh)], HX101.out, rfl, Nat.le_of_ble_eq_true rfl, ?_⟩
                  intro W103 hW103
                  go_wp2_with fail
                  refine bodyPost_ret (results_cell_row rfl _ _ (w.heap.size + 1) 34 _ _ dh rfl (blk_same HX101.out hW103) dh1 (by cases dh <;> first | rfl | exact dh2) (by kernel_rfl)) rfl ?_
                  exact ⟨_, _, _, _, _, rfl, ⟨par_end (par_row' HL95.out hW103 (by omega) (by have := Z0.out; omega)) (by have := Z0.out; omega), par_end (par_row' HL96.out hW103 (by omega) (by have := Z0.out; omega)) (by have := Z0.out; omega), par_end (par_row' HL97.out hW103 (by omega) (by have := Z0.out; omega)) (by have := Z0.out; omega), par_end (par_row' HL98.out hW103 (by omega) (by have := Z0.out; omega)) (by have := Z0.out; omega), par_end (par_row' HL94.out hW103 (by omega) (by have := Z0.out; omega)) (by have := Z0.out; omega)⟩, kept_set KB88.out hW103 (by omega)⟩
                exact AllReadyX.nil
              exact AllReadyX.nil
            exact AllReadyX.nil
          exact AllReadyX.nil
        exact AllReadyX.nil
      exact AllReadyX.nil
    exact AllReadyX.nil
  exact AllReadyX.nil

end Go.Proofs.YtgododpkbiaacaaGreat

namespace Go.Proofs.YtgododpkbiaacaaGreat
open Go.RowKit

def SeesN (V : World) (_ : Nat) (w' : World) : Prop := ∀ k, k < V.heap.size → w'.heap[k]? = V.heap[k]?
theorem seesN_kept {V W : World} (g : Nat) (h : Kept V W) : SeesN V g W := fun k hk => Below.block h k hk
theorem seesN_of {V W w' : World} {g : Nat} (h : Kept V W) (hs : SeesN W g w') : SeesN V g w' := fun k hk => (hs k (Nat.lt_of_lt_of_le hk (Below.size h))).trans (Below.block h k hk)
theorem partN_cell {V : World} {r g : Nat} {C : Array Value} {T : TypeId} {fr : Nat × Nat} (h : V.heap[g]? = some (.cells C T fr)) (_ : True) (o : Nat) (v : Value) (hv : C[o]? = some v) : ∀ w', SeesN V r w' → w'.cell? ⟨g, o, none⟩ = some v := fun w' hk => by
  have hb : w'.heap[g]? = some (.cells C T fr) := (hk g (block_lt h)).trans h
  rw [cell_of_row w' g o C T fr hb]; exact hv
theorem seesN_blk {V w' : World} {r g : Nat} {o : Obj} (h : V.heap[g]? = some o) (_ : True) (hs : SeesN V r w') : w'.heap[g]? = some o := (hs g (block_lt h)).trans h
theorem field_term0 (a b c d e : Value) (w : World) : (Instr.field 25 (.agg #[a, b, c, d, e]) 0).run Tryz.prog w = .ok a w := by kernel_rfl
theorem par_grow {w V W : World} {n : Nat} {X X' : List Nat} {P : Nat → Prop} {l : List Tm} {s : Value} (h : LiesQ V (Par w n X P) l s) (hk : Kept V W) (hx : ∀ x, x ∈ X' → x ∈ X ∨ V.heap.size ≤ x) : LiesQ W (Par w n X' P) l s :=
  h.keep (fun b _ hlt => Below.block hk b hlt) (fun b hb hlt => hb.imp id (fun hb => ⟨hb.1, fun hm => (hx b hm).elim hb.2 (fun h => absurd hlt (Nat.not_lt.2 h))⟩))
theorem alloc1v {V0 w V : World} {o0 : Obj} (hk : Kept V0 w) (h : w.alloc o0 = V) : ∃ g, w.heap.size = g ∧ Hid (Kept w V) ∧ Hid (V.heap[g]? = some o0) ∧ Hid (V.heap.size = w.heap.size + 1) ∧ Hid (Kept V0 V) ∧ Hid (V0.heap.size ≤ g) := by
  obtain ⟨a, b, c⟩ := alloc1 h
  exact ⟨_, rfl, a, b, c, kept_trans hk a, Below.size hk⟩
theorem par_newg {w : World} {n : Nat} {X : List Nat} {P : Nat → Prop} {g : Nat} (hn : n ≤ g) (hX : g ∉ X) : Par w n X P g := Or.inr ⟨hn, hX⟩
theorem q_row1 {V : World} {Q : Nat → Prop} {g : Nat} {T : TypeId} {fr : Nat × Nat} {t0 : Tm} {s0 : Value} (h : V.heap[g]? = some (.cells #[.int .i64 t0.k, .int .i64 t0.i, .int .i64 t0.j, .int .i64 t0.n, s0] T fr)) (f0 : t0.fine) (l0 : LiesQ V Q t0.kids s0) (hQ : Q g) : LiesQ V Q [t0] (.slice (some ⟨g, 0, none⟩) 1 1) :=
  q_row [(t0, s0)] _ rfl h hQ (List.forall_mem_cons.2 ⟨⟨f0, l0⟩, (fun _ h => nomatch h)⟩) (Nat.le_of_ble_eq_true rfl)
theorem q_row4 {V : World} {Q : Nat → Prop} {g : Nat} {T : TypeId} {fr : Nat × Nat} {t0 t1 t2 t3 : Tm} {s0 s1 s2 s3 : Value} (h : V.heap[g]? = some (.cells #[.int .i64 t0.k, .int .i64 t0.i, .int .i64 t0.j, .int .i64 t0.n, s0, .int .i64 t1.k, .int .i64 t1.i, .int .i64 t1.j, .int .i64 t1.n, s1, .int .i64 t2.k, .int .i64 t2.i, .int .i64 t2.j, .int .i64 t2.n, s2, .int .i64 t3.k, .int .i64 t3.i, .int .i64 t3.j, .int .i64 t3.n, s3] T fr)) (f0 : t0.fine) (l0 : LiesQ V Q t0.kids s0) (f1 : t1.fine) (l1 : LiesQ V Q t1.kids s1) (f2 : t2.fine) (l2 : LiesQ V Q t2.kids s2) (f3 : t3.fine) (l3 : LiesQ V Q t3.kids s3) (hQ : Q g) : LiesQ V Q [t0, t1, t2, t3] (.slice (some ⟨g, 0, none⟩) 4 4) :=
  q_row [(t0, s0), (t1, s1), (t2, s2), (t3, s3)] _ rfl h hQ (List.forall_mem_cons.2 ⟨⟨f0, l0⟩, (List.forall_mem_cons.2 ⟨⟨f1, l1⟩, (List.forall_mem_cons.2 ⟨⟨f2, l2⟩, (List.forall_mem_cons.2 ⟨⟨f3, l3⟩, (fun _ h => nomatch h)⟩)⟩)⟩)⟩) (Nat.le_of_ble_eq_true rfl)
theorem q_row5 {V : World} {Q : Nat → Prop} {g : Nat} {T : TypeId} {fr : Nat × Nat} {t0 t1 t2 t3 t4 : Tm} {s0 s1 s2 s3 s4 : Value} (h : V.heap[g]? = some (.cells #[.int .i64 t0.k, .int .i64 t0.i, .int .i64 t0.j, .int .i64 t0.n, s0, .int .i64 t1.k, .int .i64 t1.i, .int .i64 t1.j, .int .i64 t1.n, s1, .int .i64 t2.k, .int .i64 t2.i, .int .i64 t2.j, .int .i64 t2.n, s2, .int .i64 t3.k, .int .i64 t3.i, .int .i64 t3.j, .int .i64 t3.n, s3, .int .i64 t4.k, .int .i64 t4.i, .int .i64 t4.j, .int .i64 t4.n, s4] T fr)) (f0 : t0.fine) (l0 : LiesQ V Q t0.kids s0) (f1 : t1.fine) (l1 : LiesQ V Q t1.kids s1) (f2 : t2.fine) (l2 : LiesQ V Q t2.kids s2) (f3 : t3.fine) (l3 : LiesQ V Q t3.kids s3) (f4 : t4.fine) (l4 : LiesQ V Q t4.kids s4) (hQ : Q g) : LiesQ V Q [t0, t1, t2, t3, t4] (.slice (some ⟨g, 0, none⟩) 5 5) :=
  q_row [(t0, s0), (t1, s1), (t2, s2), (t3, s3), (t4, s4)] _ rfl h hQ (List.forall_mem_cons.2 ⟨⟨f0, l0⟩, (List.forall_mem_cons.2 ⟨⟨f1, l1⟩, (List.forall_mem_cons.2 ⟨⟨f2, l2⟩, (List.forall_mem_cons.2 ⟨⟨f3, l3⟩, (List.forall_mem_cons.2 ⟨⟨f4, l4⟩, (fun _ h => nomatch h)⟩)⟩)⟩)⟩)⟩) (Nat.le_of_ble_eq_true rfl)
end Go.Proofs.YtgododpkbiaacaaGreat

namespace Go.Proofs.YtgododpkbiaacaaGreat
open Go.RowKit
theorem via_joinCC {J K : World → Nat → Nat → Prop} {A : Prop} (h1 : (∀ x0 x1 x2, K x0 x1 x2 → J x0 x1 x2) → A) (h2 : ∀ x0 x1 x2, K x0 x1 x2 → J x0 x1 x2) : A := h1 h2
end Go.Proofs.YtgododpkbiaacaaGreat

namespace Go.Proofs.YtgododpkbiaacaaGreat
open Go.RowKit

/-- A term and a bool are handed back. -/
def GivesTB (P : Nat → Prop) (u : Tm) (b : Bool) (w : World) (e : Ending) (w' : World) : Prop := ∃ s' : Value, e = .returned (.tuple #[tv u s', .bool b]) ∧ LiesQ w' (fun b => P b ∨ w.heap.size ≤ b) u.kids s' ∧ Kept w w'

set_option maxRecDepth 20000 in
set_option maxHeartbeats 4000000 in
theorem as_no (i : Int) (x : Tm) (y : Tm) (z : Tm) (P : Nat → Prop) (w : World) (sx : Value) (sy : Value) (sz : Value) (hri : I64 i) (hfx : x.fine) (hlx : LiesQ w P x.kids sx) (hfy : y.fine) (hly : LiesQ w P y.kids sy) (hfz : z.fine) (hlz : LiesQ w P z.kids sz) (hm : x.markedB = true) (hrr : relatedB y z = false) : Calls Tryz.prog 32 #[.slice none 0 0, .int .i64 i, tv x sx, tv y sy, tv z sz] w (GivesTB P .zero false w) := by
  have Ri := Lib.hid hri
  clear hri
  have Gx := Lib.hid hfx
  clear hfx
  obtain ⟨ax, cx, Sx, rfl, -⟩ := hlx.out
  have Gy := Lib.hid hfy
  clear hfy
  obtain ⟨ay, cy, Sy, rfl, -⟩ := hly.out
  have Gz := Lib.hid hfz
  clear hfz
  obtain ⟨az, cz, Sz, rfl, -⟩ := hlz.out
  have HM := Lib.hid hm
  have HR := Lib.hid hrr
  clear hm hrr
  obtain ⟨du, hu1, hu2⟩ := under_term
  unfold tv
  go_enter Tryz.func32, Tryz.ntmps32
  go_upto_region 1 with fail
  refine at_code (fun V0 hV0 => ?_)
  obtain ⟨k5, x1, x2, x3, x4, z6⟩ := alloc4 hV0
  have Kk7 := Lib.hid k5
  clear k5
  have Hx1 := Lib.hid x1
  have Hx2 := Lib.hid x2
  have Hx3 := Lib.hid x3
  have Hx4 := Lib.hid x4
  have Z0 := Lib.hid z6
  clear z6 x1 x2 x3 x4 hV0
  have HLx : Hid (LiesQ V0 (Par w V0.heap.size [] P) x.kids _) := (par_in _ _ hlx).later Kk7.out
  clear hlx
  have HLy : Hid (LiesQ V0 (Par w V0.heap.size [] P) y.kids _) := (par_in _ _ hly).later Kk7.out
  clear hly
  have HLz : Hid (LiesQ V0 (Par w V0.heap.size [] P) z.kids _) := (par_in _ _ hlz).later Kk7.out
  clear hlz
  have kvV0 : Sees V0 (w.heap.size + 3) V0 := sees_kept _ (kept_refl _)
  go_wp2_with (refine stop_load 25 (.tmp 7) rfl ?_)
  intro _
  refine wpList_load_part (w.heap.size) 0 25 (.tmp 7) #[.int .i64 x.k, .int .i64 x.i, .int .i64 x.j, .int .i64 x.n, (.slice ax x.kids.length cx)] du Hx1.out (by rfl) rfl (by rfl) (by rfl) hu1 (by cases du <;> first | rfl | exact hu2) size_term ?_
  go_wp2_with fail
  clear kvV0
  have hq10 := marked_any x _ ((.slice ax x.kids.length cx)) HLx.out.lies
  rw [HM.out] at hq10
  refine hq10.mono ?_
  clear hq10
  rintro e w8 ⟨rfl, k9⟩
  have Kk11 := Lib.hid k9
  clear k9
  have kvV0 : Sees V0 (w.heap.size + 3) w8 := sees_kept _ Kk11.out
  go_wp2_with (refine stop_load 25 (.tmp 8) rfl ?_)
  intro _
  refine wpList_load_part (w.heap.size + 1) 0 25 (.tmp 8) #[.int .i64 y.k, .int .i64 y.i, .int .i64 y.j, .int .i64 y.n, (.slice ay y.kids.length cy)] du (blk_at Hx2.out Kk11.out) (by rfl) rfl (by rfl) (by rfl) hu1 (by cases du <;> first | rfl | exact hu2) size_term ?_
  go_wp2_with (refine stop_load 25 (.tmp 9) rfl ?_)
  intro _
  refine wpList_load_part (w.heap.size + 2) 0 25 (.tmp 9) #[.int .i64 z.k, .int .i64 z.i, .int .i64 z.j, .int .i64 z.n, (.slice az z.kids.length cz)] du (blk_at Hx3.out Kk11.out) (by rfl) rfl (by rfl) (by rfl) hu1 (by cases du <;> first | rfl | exact hu2) size_term ?_
  go_wp2_with fail
  clear kvV0
  have hq14 := related_any y z _ ((.slice ay y.kids.length cy)) ((.slice az z.kids.length cz)) (HLy.out.later Kk11.out).lies (HLz.out.later Kk11.out).lies
  rw [HR.out] at hq14
  refine hq14.mono ?_
  clear hq14
  rintro e w12 ⟨rfl, k13⟩
  have Kk15 := Lib.hid k13
  clear k13
  have kvV0 : Sees V0 (w.heap.size + 3) w12 := sees_kept _ (kept_trans Kk11.out Kk15.out)
  go_wp2_with (refine stop_store 25 (.tmp 10) (.tmp 23) rfl ?_)
  intro _
  refine wpList_store_part_n (by rfl) 25 (.tmp 10) (.tmp 23) rfl (w.heap.size + 3) 0 #[.int .i64 0, .int .i64 0, .int .i64 0, .int .i64 0, .slice none 0 0] (by rfl) (by rfl) 25 size_term (row_ok rfl) ?_
  intro W16 hW16
  clear kvV0
  subst hW16
  refine ⟨_, #[.int .i64 0, .int .i64 0, .int .i64 0, .int .i64 0, .slice none 0 0], (blk_at Hx4.out (kept_trans Kk11.out Kk15.out)), rfl, Nat.le_of_ble_eq_true rfl, ?_⟩
  intro W17 hW17
  go_wp2_with fail
  (try simp only [Exit.inBlock, Exit.then])
  refine bodyPost_ret (results_cell_tmp rfl _ _ (w.heap.size + 3) 25 _ _ du rfl (blk_same (blk_at Hx4.out (kept_trans Kk11.out Kk15.out)) hW17) hu1 (by cases du <;> first | rfl | exact hu2) size_term) rfl ?_
  exact ⟨_, rfl, par_end (par_row' (liesQ_nil w12 (Par w V0.heap.size [] P)) hW17 (by omega) (by have := Z0.out; omega)) (by have := Z0.out; omega), kept_set (kept_trans Kk7.out (kept_trans Kk11.out Kk15.out)) hW17 (by omega)⟩

set_option maxRecDepth 20000 in
set_option maxHeartbeats 4000000 in
theorem as_same (i : Int) (x : Tm) (y : Tm) (z : Tm) (P : Nat → Prop) (w : World) (sx : Value) (sy : Value) (sz : Value) (hri : I64 i) (hfx : x.fine) (hlx : LiesQ w P x.kids sx) (hfy : y.fine) (hly : LiesQ w P y.kids sy) (hfz : z.fine) (hlz : LiesQ w P z.kids sz) (hm : x.markedB = true) (hrr : relatedB y z = true) (hss : sameB y z = true) (hsz : x.size ≤ 1000000) : Calls Tryz.prog 32 #[.slice none 0 0, .int .i64 i, tv x sx, tv y sy, tv z sz] w (GivesTB P x true w) := by
  have Ri := Lib.hid hri
  clear hri
  have Gx := Lib.hid hfx
  clear hfx
  obtain ⟨ax, cx, Sx, rfl, -⟩ := hlx.out
  have Gy := Lib.hid hfy
  clear hfy
  obtain ⟨ay, cy, Sy, rfl, -⟩ := hly.out
  have Gz := Lib.hid hfz
  clear hfz
  obtain ⟨az, cz, Sz, rfl, -⟩ := hlz.out
  have HM := Lib.hid hm
  have HR := Lib.hid hrr
  have HS := Lib.hid hss
  have HSZ := Lib.hid hsz
  clear hm hrr hss hsz
  obtain ⟨du, hu1, hu2⟩ := under_term
  unfold tv
  go_enter Tryz.func32, Tryz.ntmps32
  go_upto_region 1 with fail
  refine at_code (fun V0 hV0 => ?_)
  obtain ⟨k5, x1, x2, x3, x4, z6⟩ := alloc4 hV0
  have Kk7 := Lib.hid k5
  clear k5
  have Hx1 := Lib.hid x1
  have Hx2 := Lib.hid x2
  have Hx3 := Lib.hid x3
  have Hx4 := Lib.hid x4
  have Z0 := Lib.hid z6
  clear z6 x1 x2 x3 x4 hV0
  have HLx : Hid (LiesQ V0 (Par w V0.heap.size [] P) x.kids _) := (par_in _ _ hlx).later Kk7.out
  clear hlx
  have HLy : Hid (LiesQ V0 (Par w V0.heap.size [] P) y.kids _) := (par_in _ _ hly).later Kk7.out
  clear hly
  have HLz : Hid (LiesQ V0 (Par w V0.heap.size [] P) z.kids _) := (par_in _ _ hlz).later Kk7.out
  clear hlz
  have kvV0 : Sees V0 (w.heap.size + 3) V0 := sees_kept _ (kept_refl _)
  go_wp2_with (refine stop_load 25 (.tmp 7) rfl ?_)
  intro _
  refine wpList_load_part (w.heap.size) 0 25 (.tmp 7) #[.int .i64 x.k, .int .i64 x.i, .int .i64 x.j, .int .i64 x.n, (.slice ax x.kids.length cx)] du Hx1.out (by rfl) rfl (by rfl) (by rfl) hu1 (by cases du <;> first | rfl | exact hu2) size_term ?_
  go_wp2_with fail
  clear kvV0
  have hq10 := marked_any x _ ((.slice ax x.kids.length cx)) HLx.out.lies
  rw [HM.out] at hq10
  refine hq10.mono ?_
  clear hq10
  rintro e w8 ⟨rfl, k9⟩
  have Kk11 := Lib.hid k9
  clear k9
  have kvV0 : Sees V0 (w.heap.size + 3) w8 := sees_kept _ Kk11.out
  go_wp2_with (refine stop_load 25 (.tmp 8) rfl ?_)
  intro _
  refine wpList_load_part (w.heap.size + 1) 0 25 (.tmp 8) #[.int .i64 y.k, .int .i64 y.i, .int .i64 y.j, .int .i64 y.n, (.slice ay y.kids.length cy)] du (blk_at Hx2.out Kk11.out) (by rfl) rfl (by rfl) (by rfl) hu1 (by cases du <;> first | rfl | exact hu2) size_term ?_
  go_wp2_with (refine stop_load 25 (.tmp 9) rfl ?_)
  intro _
  refine wpList_load_part (w.heap.size + 2) 0 25 (.tmp 9) #[.int .i64 z.k, .int .i64 z.i, .int .i64 z.j, .int .i64 z.n, (.slice az z.kids.length cz)] du (blk_at Hx3.out Kk11.out) (by rfl) rfl (by rfl) (by rfl) hu1 (by cases du <;> first | rfl | exact hu2) size_term ?_
  go_wp2_with fail
  clear kvV0
  have hq14 := related_any y z _ ((.slice ay y.kids.length cy)) ((.slice az z.kids.length cz)) (HLy.out.later Kk11.out).lies (HLz.out.later Kk11.out).lies
  rw [HR.out] at hq14
  refine hq14.mono ?_
  clear hq14
  rintro e w12 ⟨rfl, k13⟩
  have Kk15 := Lib.hid k13
  clear k13
  have kvV0 : Sees V0 (w.heap.size + 3) w12 := sees_kept _ (kept_trans Kk11.out Kk15.out)
  go_wp2_with (refine stop_load 25 (.tmp 8) rfl ?_)
  intro _
  refine wpList_load_part (w.heap.size + 1) 0 25 (.tmp 8) #[.int .i64 y.k, .int .i64 y.i, .int .i64 y.j, .int .i64 y.n, (.slice ay y.kids.length cy)] du (blk_at Hx2.out (kept_trans Kk11.out Kk15.out)) (by rfl) rfl (by rfl) (by rfl) hu1 (by cases du <;> first | rfl | exact hu2) size_term ?_
  go_wp2_with (refine stop_load 25 (.tmp 9) rfl ?_)
  intro _
  refine wpList_load_part (w.heap.size + 2) 0 25 (.tmp 9) #[.int .i64 z.k, .int .i64 z.i, .int .i64 z.j, .int .i64 z.n, (.slice az z.kids.length cz)] du (blk_at Hx3.out (kept_trans Kk11.out Kk15.out)) (by rfl) rfl (by rfl) (by rfl) hu1 (by cases du <;> first | rfl | exact hu2) size_term ?_
  go_wp2_with fail
  clear kvV0
  have hq18 := same_any y z _ ((.slice ay y.kids.length cy)) ((.slice az z.kids.length cz)) (HLy.out.later (kept_trans Kk11.out Kk15.out)).lies (HLz.out.later (kept_trans Kk11.out Kk15.out)).lies
  rw [HS.out] at hq18
  refine hq18.mono ?_
  clear hq18
  rintro e w16 ⟨rfl, k17⟩
  have Kk19 := Lib.hid k17
  clear k17
  have kvV0 : Sees V0 (w.heap.size + 3) w16 := sees_kept _ (kept_trans Kk11.out (kept_trans Kk15.out Kk19.out))
  go_wp2_with (refine stop_load 25 (.tmp 7) rfl ?_)
  intro _
  refine wpList_load_part (w.heap.size) 0 25 (.tmp 7) #[.int .i64 x.k, .int .i64 x.i, .int .i64 x.j, .int .i64 x.n, (.slice ax x.kids.length cx)] du (blk_at Hx1.out (kept_trans Kk11.out (kept_trans Kk15.out Kk19.out))) (by rfl) rfl (by rfl) (by rfl) hu1 (by cases du <;> first | rfl | exact hu2) size_term ?_
  go_wp2_with fail
  clear kvV0
  refine ((copy_any x _ ((.slice ax x.kids.length cx)) (HLx.out.later (kept_trans Kk11.out (kept_trans Kk15.out Kk19.out))).lies HSZ.out).mono (fun _ _ h => h.givesP (P := (Par w V0.heap.size [] P)))).mono ?_
  rintro e w20 ⟨s22, rfl, hl23, k21⟩
  obtain ⟨a24, c25, S26, rfl, -⟩ := hl23.out
  have Kk27 := Lib.hid k21
  clear k21
  have Hhl23 : Hid (LiesQ w20 (Par w V0.heap.size [] P) x.kids _) := par_give hl23 (Below.size (kept_trans Kk11.out (kept_trans Kk15.out Kk19.out))) (xlt_nil _)
  clear hl23
  have kvV0 : Sees V0 (w.heap.size + 3) w20 := sees_kept _ (kept_trans Kk11.out (kept_trans Kk15.out (kept_trans Kk19.out Kk27.out)))
  go_wp2_with (refine stop_store 25 (.tmp 10) (.tmp 28) rfl ?_)
  intro _
  refine wpList_store_part_n (by rfl) 25 (.tmp 10) (.tmp 28) rfl (w.heap.size + 3) 0 #[.int .i64 x.k, .int .i64 x.i, .int .i64 x.j, .int .i64 x.n, (.slice a24 x.kids.length c25)] (by rfl) (by rfl) 25 size_term (row_ok rfl) ?_
  intro W28 hW28
  clear kvV0
  subst hW28
  refine ⟨_, #[.int .i64 x.k, .int .i64 x.i, .int .i64 x.j, .int .i64 x.n, (.slice a24 x.kids.length c25)], (blk_at Hx4.out (kept_trans Kk11.out (kept_trans Kk15.out (kept_trans Kk19.out Kk27.out)))), rfl, Nat.le_of_ble_eq_true rfl, ?_⟩
  intro W29 hW29
  go_wp2_with fail
  (try simp only [Exit.inBlock, Exit.then])
  refine bodyPost_ret (results_cell_tmp rfl _ _ (w.heap.size + 3) 25 _ _ du rfl (blk_same (blk_at Hx4.out (kept_trans Kk11.out (kept_trans Kk15.out (kept_trans Kk19.out Kk27.out)))) hW29) hu1 (by cases du <;> first | rfl | exact hu2) size_term) rfl ?_
  exact ⟨_, rfl, par_end (par_row' Hhl23.out hW29 (by omega) (by have := Z0.out; omega)) (by have := Z0.out; omega), kept_set (kept_trans Kk7.out (kept_trans Kk11.out (kept_trans Kk15.out (kept_trans Kk19.out Kk27.out)))) hW29 (by omega)⟩

end Go.Proofs.YtgododpkbiaacaaGreat

namespace Go.Proofs.YtgododpkbiaacaaGreat
open Go.RowKit

mutual
/-- The greatest level. -/
def Tm.lvl : Tm → Int
  | .mk k i j _ l => lvls (if k = 2 then j else max j i) l
def lvls : Int → List Tm → Int
  | m, [] => m
  | m, t :: r => lvls (max m t.lvl) r
end
theorem Tm.lvl_eq (t : Tm) : t.lvl = lvls (if t.k = 2 then t.j else max t.j t.i) t.kids := by cases t; rfl
theorem lvls_take : ∀ (l : List Tm) (m : Int) (k : Nat) (h : k < l.length), lvls m (l.take (k + 1)) = max (lvls m (l.take k)) (l[k]).lvl
  | [], _, _, h => by simp at h
  | a :: r, m, 0, _ => by simp [lvls]
  | a :: r, m, k + 1, h => by
    simp only [List.take_succ_cons, lvls, List.getElem_cons_succ]
    exact lvls_take r _ k (by simpa using h)
/-- All levels of a context are that small. -/
def lowE (m : Int) (e : En) : Bool := decide (e.i ≤ m) && decide (e.a.lvl ≤ m)
def lowC (m : Int) (l : List En) : Bool := l.all (lowE m)
theorem lowC_take {m : Int} {l : List En} {k : Nat} (h : k < l.length) (h1 : lowC m (l.take k) = true) (h2 : lowE m l[k] = true) : lowC m (l.take (k + 1)) = true := by
  unfold lowC at *
  rw [List.take_succ_eq_append_getElem h, List.all_append, h1]
  simp [h2]
theorem lowC_false {m : Int} {l : List En} {k : Nat} (h : k < l.length) (h2 : lowE m l[k] = false) : lowC m l = false := by
  unfold lowC
  cases e : l.all (lowE m) with
  | false => rfl
  | true => rw [List.all_eq_true.1 e _ (List.getElem_mem h)] at h2; cases h2

set_option maxRecDepth 20000 in
set_option maxHeartbeats 4000000 in
theorem lvl_any (t : Tm) : ∀ (w : World) (s : Value), Lies w t.kids s → Calls Tryz.prog 65 #[tv t s] w fun e w' => e = .returned (.int .i64 t.lvl) ∧ Below w.heap.size w w' := by
  induction t using Tm.ind with
  | h t ih =>
    intro w s hl
    obtain ⟨a, cap, S, rfl, hc, hm, hf, hn, hk⟩ := hl.out
    unfold tv
    have hsz := t.lvl_eq
    unfold maxLen at hm
    have IH := Lib.hid ih
    have HN := Lib.hid hn
    have HK := Lib.hid hk
    have HSZ := Lib.hid hsz
    clear ih hn hk hf hl hsz
    obtain ⟨B, hB⟩ : ∃ B, (if t.k = 2 then t.j else max t.j t.i) = B := ⟨_, rfl⟩
    rw [hB] at HSZ
    by_cases h2 : t.k = 2
    · have e2 : (t.k != 2) = false := by rw [h2]; rfl
      rw [if_pos h2] at hB
      subst hB
      clear h2
      go_enter Tryz.func65, Tryz.ntmps65
      go_wp2
      go_loopw [3, 18] (fun n i wr => ∃ k : Nat, k ≤ t.kids.length ∧ i = .int .i64 k ∧ n = .int .i64 (lvls (t.j) (t.kids.take k)) ∧ Below w.heap.size w wr) (fun _ i _ => t.kids.length - (intOf i).toNat)
      case atStart => exact ⟨0, Nat.zero_le _, rfl, by simp [lvls], (Below.refl _ _).alloc (Nat.le_refl _) _⟩
      case round =>
        obtain ⟨k, hk, rfl, rfl, hb⟩ := hrel
        by_cases hlt : k < t.kids.length
        · obtain ⟨b, o, rfl, hx⟩ := HN.out k hlt
          obtain ⟨c0, c1, c2, c3, c4⟩ := hx.below hb hx.lt
          have hq := HK.out k hlt
          obtain ⟨a', cap', S', hS, -⟩ := hq.out
          rw [hS] at c4 hq
          have HQ := Lib.hid hq
          clear hS hq
          have HM := Lib.hid (List.getElem_mem hlt)
          have HT := Lib.hid (lvls_take t.kids (t.j) k hlt)
          have HB : Below w.heap.size w (wr.alloc (.cells #[.int .i64 t.kids[k].k, .int .i64 t.kids[k].i, .int .i64 t.kids[k].j, .int .i64 t.kids[k].n, .slice a' t.kids[k].kids.length cap'] 25)) := hb.alloc hb.size _
          go_wp2_with fail
          refine (IH.out _ HM.out _ _ (HQ.out.keep HB)).mono ?_
          rintro e w' ⟨rfl, hb'⟩
          have HB' : Below w.heap.size w w' := HB.trans (hb'.mono HB.size)
          clear hb' HB hb
          go_wp2
          go_roundw
          case rel => exact ⟨k + 1, by omega, by go_num, by rw [HT.out], HB'⟩
          case measure => simp [intOf]; omega
        · have : k = t.kids.length := by omega
          subst this
          go_wp2
          go_ret
          refine ⟨?_, hb⟩
          rw [HSZ.out, List.take_length]
          rfl
    · have e2 : (t.k != 2) = true := by simpa using h2
      rw [if_neg h2] at hB
      subst hB
      clear h2
      go_enter Tryz.func65, Tryz.ntmps65
      go_wp2
      go_loopw [3, 18] (fun n i wr => ∃ k : Nat, k ≤ t.kids.length ∧ i = .int .i64 k ∧ n = .int .i64 (lvls (max t.j t.i) (t.kids.take k)) ∧ Below w.heap.size w wr) (fun _ i _ => t.kids.length - (intOf i).toNat)
      case atStart => exact ⟨0, Nat.zero_le _, rfl, by simp [lvls], (Below.refl _ _).alloc (Nat.le_refl _) _⟩
      case round =>
        obtain ⟨k, hk, rfl, rfl, hb⟩ := hrel
        by_cases hlt : k < t.kids.length
        · obtain ⟨b, o, rfl, hx⟩ := HN.out k hlt
          obtain ⟨c0, c1, c2, c3, c4⟩ := hx.below hb hx.lt
          have hq := HK.out k hlt
          obtain ⟨a', cap', S', hS, -⟩ := hq.out
          rw [hS] at c4 hq
          have HQ := Lib.hid hq
          clear hS hq
          have HM := Lib.hid (List.getElem_mem hlt)
          have HT := Lib.hid (lvls_take t.kids (max t.j t.i) k hlt)
          have HB : Below w.heap.size w (wr.alloc (.cells #[.int .i64 t.kids[k].k, .int .i64 t.kids[k].i, .int .i64 t.kids[k].j, .int .i64 t.kids[k].n, .slice a' t.kids[k].kids.length cap'] 25)) := hb.alloc hb.size _
          go_wp2_with fail
          refine (IH.out _ HM.out _ _ (HQ.out.keep HB)).mono ?_
          rintro e w' ⟨rfl, hb'⟩
          have HB' : Below w.heap.size w w' := HB.trans (hb'.mono HB.size)
          clear hb' HB hb
          go_wp2
          go_roundw
          case rel => exact ⟨k + 1, by omega, by go_num, by rw [HT.out], HB'⟩
          case measure => simp [intOf]; omega
        · have : k = t.kids.length := by omega
          subst this
          go_wp2
          go_ret
          refine ⟨?_, hb⟩
          rw [HSZ.out, List.take_length]
          rfl

set_option maxRecDepth 20000 in
set_option maxHeartbeats 4000000 in
theorem low_any (t : Tm) (m : Int) (w : World) (s : Value) (hl : Lies w t.kids s) : Calls Tryz.prog 39 #[tv t s, .int .i64 m] w fun e w' => e = .returned (.bool (decide (t.lvl ≤ m))) ∧ Below w.heap.size w w' := by
  obtain ⟨a, cap, S, rfl, -⟩ := hl.out
  have HL := Lib.hid hl
  clear hl
  unfold tv
  go_enter Tryz.func39, Tryz.ntmps39
  go_wp2_with fail
  have hb0 : Below w.heap.size w (w.alloc (.cells #[.int .i64 t.k, .int .i64 t.i, .int .i64 t.j, .int .i64 t.n, .slice a t.kids.length cap] 25)) := (Below.refl _ _).alloc (Nat.le_refl _) _
  refine (lvl_any t _ _ (HL.out.keep hb0)).mono ?_
  rintro e w1 ⟨rfl, hb1⟩
  have hb := below_call hb0 hb1 hb0.size
  clear hb0 hb1
  go_wp2
  go_ret
  exact ⟨rfl, hb⟩

set_option maxRecDepth 20000 in
set_option maxHeartbeats 4000000 in
theorem lowctx_any (l : List En) (m : Int) (w : World) (s : Value) (hl : LiesE w l s) : Calls Tryz.prog 19 #[s, .int .i64 m] w fun e w' => e = .returned (.bool (lowC m l)) ∧ Below w.heap.size w w' := by
  obtain ⟨a, cap, S, rfl, hc, hmx, -, hn, hk⟩ := hl.out
  unfold maxLen at hmx
  have HN := Lib.hid hn
  have HK := Lib.hid hk
  clear hn hk hl
  go_enter Tryz.func19, Tryz.ntmps19
  go_wp2
  go_loopw [9] (fun iv wr => ∃ k : Nat, k ≤ l.length ∧ iv = .int .i64 k ∧ Hid (lowC m (l.take k) = true) ∧ Below w.heap.size w wr) (fun iv _ => l.length - (intOf iv).toNat)
  case atStart => exact ⟨0, Nat.zero_le _, rfl, rfl, Below.refl _ _⟩
  case round =>
    obtain ⟨k, hk, rfl, hgood, hb⟩ := hrel
    by_cases hlt : k < l.length
    · obtain ⟨b, o, rfl, hx⟩ := HN.out k hlt
      have hx := hx.below hb hx.lt
      have hq := (HK.out k hlt).keep hb
      obtain ⟨a', cap', S', hS, -⟩ := hq.out
      rw [hS] at hx hq
      have HQ := Lib.hid hq
      have HT := Lib.hid (fun h => lowC_take hlt hgood.out h)
      have HO := Lib.hid (fun h => lowC_false (m := m) hlt h)
      obtain ⟨x0, x1, x2, x3, x4, x5⟩ := hx
      clear hS hq
      have hX := bnode_new wr l[k] (.slice a' l[k].a.kids.length cap')
      have hbV : Below wr.heap.size wr (wr.alloc (.cells #[.int .i64 l[k].a.k, .int .i64 l[k].a.i, .int .i64 l[k].a.j, .int .i64 l[k].a.n, (.slice a' l[k].a.kids.length cap'), .int .i64 l[k].i] 45)) := (Below.refl _ _).alloc (Nat.le_refl _) _
      have hqV := HQ.out.keep hbV
      have hbw := below_call hb hbV hb.size
      clear HQ hb hbV
      go_upto_region 4 with fail
      clear x0 x1 x2 x3 x4 x5
      obtain ⟨g, hg⟩ : ∃ g, wr.heap.size = g := ⟨_, rfl⟩
      rw [hg] at hX ⊢
      generalize wr.alloc (.cells #[.int .i64 l[k].a.k, .int .i64 l[k].a.i, .int .i64 l[k].a.j, .int .i64 l[k].a.n, (.slice a' l[k].a.kids.length cap'), .int .i64 l[k].i] 45) = V at hX hqV hbw ⊢
      have HX := Lib.hid hX
      have HQ := Lib.hid hqV
      have HBV := Lib.hid hbw
      clear hqV hbw hg
      obtain ⟨x0, x1, x2, x3, x4, x5⟩ := hX
      by_cases h0 : m < l[k].i
      · have e0 : decide (m < l[k].i) = true := decide_eq_true h0
        go_wp2
        go_ret
        exact ⟨ret_bool (HO.out (by unfold lowE; rw [decide_eq_false (show ¬ l[k].i ≤ m by omega)]; rfl)).symm, HBV.out⟩
      have e0 : decide (m < l[k].i) = false := decide_eq_false h0
      have G0 := Lib.hid (show decide (l[k].i ≤ m) = true from decide_eq_true (by omega))
      go_wp2_with fail
      refine (low_any l[k].a m _ _ HQ.out).mono ?_
      obtain ⟨mb, hmb⟩ : ∃ b, decide (l[k].a.lvl ≤ m) = b := ⟨_, rfl⟩
      rw [hmb]
      have HMB := Lib.hid hmb
      clear hmb
      rintro e w1 ⟨rfl, hb1⟩
      have HB1 := Lib.hid (below_call HBV.out hb1 HBV.out.size)
      clear hb1 x0 x1 x2 x3 x4 x5
      cases mb with
      | false =>
        go_wp2
        go_ret
        exact ⟨ret_bool (HO.out (by unfold lowE; rw [HMB.out, Bool.and_false])).symm, HB1.out⟩
      | true =>
        have HS : Hid (lowE m l[k] = true) := by unfold lowE; rw [G0.out, HMB.out]; rfl
        go_wp2
        go_roundw
        case rel => exact ⟨k + 1, hlt, by go_num, HT.out HS.out, HB1.out⟩
        case measure => simp [intOf]; omega
    · obtain rfl : k = l.length := by omega
      have HS := Lib.hid (show lowC m l = true by have := hgood.out; rw [List.take_length] at this; exact this)
      go_wp2
      go_ret
      exact ⟨ret_bool HS.out.symm, hb⟩
end Go.Proofs.YtgododpkbiaacaaGreat
