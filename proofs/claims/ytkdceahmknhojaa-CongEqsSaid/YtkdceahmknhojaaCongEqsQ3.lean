/-
  Facts and contracts that the proof of CongEqs uses.
-/
import Derived.Test.YtkdceahmknhojaaRows
import Derived.WalkKit
import Derived.Lib.Hide
import Derived.KernelRfl
import Derived.Deep.RegionWith
import Derived.Deep.RegionHeld3
import Derived.Deep.AppendLies
import Derived.Laws.Rows
import Derived.Laws.IdiomCopy
import Derived.Deep.Slices
import Derived.Lib.QuietBelow
import Derived.StillTailTactics
import Derived.BigQuiet
import Derived.IntWalk
import Derived.OwnWalk
import Derived.Deep.RegionLaw
import Derived.Deep.QuietTactic
import Derived.Deep.LoopGhost
import Derived.Deep.DeepCutAuto
import Derived.Deep.MidRow
import Derived.OrdersHeld
import Derived.Laws.Tables
import Derived.Laws.CopyOwn
import Derived.Laws.CopyRow
import Derived.Deep.Upon
import Derived.ArgAppend
import Derived.Deep.RegionHeld
import Derived.Lib.MinMax
import Derived.ProofKit
import Derived.OpenShut
import Derived.Carry
import Derived.ChangeSlices
import Derived.JoinedOf
import Derived.Test.YtkdceahmknhojaaCongEqsQ2
namespace Go.Proofs.Ytkdceahmknhojaa
open Go.RowKit

set_option maxRecDepth 20000 in
set_option maxHeartbeats 4000000 in
theorem clevel_any (i : Int) (w : World) (hri : I64 i) : Calls Try.prog 129 #[.int .i64 i] w fun e w' => e = .returned (.bool (levN 3 i)) ∧ Kept w w' := by
  have Ri := Lib.hid hri
  clear hri
  go_enter Try.func129, Try.ntmps129
  have kvw : SeesN w w.heap.size w := seesN_kept _ (kept_refl _)
  by_cases c1 : 0 ≤ i
  · have ec1 : decide (0 ≤ i) = true := decide_eq_true c1
    have Ec1 := Lib.hid ec1
    have Hc1 := Lib.hid c1
    clear c1
    by_cases c2 : i ≤ 997
    · have ec2 : decide (i ≤ 997) = true := decide_eq_true c2
      have Ec2 := Lib.hid ec2
      have Hc2 := Lib.hid c2
      clear c2
      go_wp2
      go_ret
      exact ⟨ret_bool (Eq.symm (show levN 3 i = true from by rw [lev3_eq]; rw [Ec1.out, Ec2.out]; (try rfl))), (kept_refl _)⟩
    · have ec2 : decide (i ≤ 997) = false := decide_eq_false c2
      have Ec2 := Lib.hid ec2
      have Hc2 := Lib.hid c2
      clear c2
      go_wp2
      go_ret
      exact ⟨ret_bool (Eq.symm (show levN 3 i = false from by rw [lev3_eq]; rw [Ec1.out, Ec2.out]; (try rfl))), (kept_refl _)⟩
  · have ec1 : decide (0 ≤ i) = false := decide_eq_false c1
    have Ec1 := Lib.hid ec1
    have Hc1 := Lib.hid c1
    clear c1
    go_wp2
    go_ret
    exact ⟨ret_bool (Eq.symm (show levN 3 i = false from by rw [lev3_eq]; rw [Ec1.out]; (try rfl))), (kept_refl _)⟩

set_option maxRecDepth 20000 in
set_option maxHeartbeats 4000000 in
theorem cplain_any (l : List Tm) (w : World) (s : Value) (hl : Lies w l s) : Calls Try.prog 118 #[s] w fun e w' => e = .returned (.bool (plainL l)) ∧ Kept w w' := by
  obtain ⟨a, cap, S, rfl, hc, hmx, -, hn, hk⟩ := hl.out
  unfold maxLen at hmx
  have HN := Lib.hid hn
  have HK := Lib.hid hk
  clear hn hk hl
  go_enter Try.func118, Try.ntmps118
  go_wp2
  go_loopw [7] (fun iv wr => ∃ k : Nat, k ≤ l.length ∧ iv = .int .i64 k ∧ Hid (∀ j (h : j < l.length), j < k → (l[j]).plainB = true) ∧ Kept w wr) (fun iv _ => l.length - (intOf iv).toNat)
  case atStart => exact ⟨0, Nat.zero_le _, rfl, fun j _ h => absurd h (by omega), kept_refl _⟩
  case round =>
    obtain ⟨k, hkl, rfl, hrel, hb⟩ := hrel
    by_cases hlt : k < l.length
    · obtain ⟨b, o, rfl, hx⟩ := HN.out k hlt
      obtain ⟨c0, c1, c2, c3, c4⟩ := hx.below hb hx.lt
      have hq := HK.out k hlt
      obtain ⟨a', cap', S', hS, -⟩ := hq.out
      rw [hS] at c4 hq
      have HQ := Lib.hid (hq.keep hb)
      have HB := Lib.hid hb
      clear hS hq hb
      go_wp2_with fail
      refine at_world (fun W hW => ?_)
      obtain ⟨k1, -, -⟩ := alloc1 hW
      have HB1 := Lib.hid (kept_trans HB.out k1)
      have HQ1 := Lib.hid (HQ.out.keep k1)
      clear c0 c1 c2 c3 c4 k1 hW
      refine (plain_any l[k] _ _ HQ1.out).mono ?_
      cases hp : (l[k]).plainB with
      | false =>
        have HF : Hid (plainL l = false) := by
          show _ = _
          cases hh : plainL l with
          | false => rfl
          | true => rw [plainL_iff.1 hh _ (List.getElem_mem hlt)] at hp; cases hp
        rintro e w' ⟨rfl, hb'⟩
        have HB2 := Lib.hid (kept_trans HB1.out hb')
        clear hb' hp
        go_wp2
        go_ret
        exact ⟨ret_bool (by rw [HF.out]), HB2.out⟩
      | true =>
        have HP := Lib.hid hp
        rintro e w' ⟨rfl, hb'⟩
        have HB2 := Lib.hid (kept_trans HB1.out hb')
        clear hb' hp
        go_wp2
        go_roundw
        case rel =>
          refine ⟨k + 1, hlt, by go_num, fun j hj hjk => ?_, HB2.out⟩
          by_cases e : j = k
          · subst e; exact HP.out
          · exact hrel.out j hj (by omega)
        case measure => simp [intOf]; omega
    · obtain rfl : k = l.length := by omega
      have HF : Hid (plainL l = true) := by
        show _ = _
        exact plainL_iff.2 (fun x hx => by obtain ⟨j, hj, rfl⟩ := List.getElem_of_mem hx; exact hrel.out j hj hj)
      have HB := Lib.hid hb
      clear hb
      go_wp2
      go_ret
      exact ⟨ret_bool (by rw [HF.out]), HB.out⟩

set_option maxRecDepth 20000 in
set_option maxHeartbeats 4000000 in
theorem csides1_any (h : He) (P : Nat → Prop) (w : World) (b0 : Nat) (sha : Value) (shb : Value) (shx : Value) (shy : Value) (shh : Value) (hfh : h.fine) (hlh : HQ w P h sha shb shx shy shh) (hb0 : w.heap[b0]? = some (.cells #[.int .i64 h.i, .int .i64 h.a.k, .int .i64 h.a.i, .int .i64 h.a.j, .int .i64 h.a.n, sha, .int .i64 h.b.k, .int .i64 h.b.i, .int .i64 h.b.j, .int .i64 h.b.n, shb, .int .i64 h.x.k, .int .i64 h.x.i, .int .i64 h.x.j, .int .i64 h.x.n, shx, .int .i64 h.y.k, .int .i64 h.y.i, .int .i64 h.y.j, .int .i64 h.y.n, shy, .int .i64 h.h.k, .int .i64 h.h.i, .int .i64 h.h.j, .int .i64 h.h.n, shh] 51 (0, 0))) : Calls Try.prog 124 #[.slice (some ⟨b0, 0, none⟩) 1 1] w fun e w' => e = .returned (.bool (toldB h)) ∧ Kept w w' := by
  have Gh := Lib.hid hfh
  clear hfh
  obtain ⟨hlha, hlhb, hlhx, hlhy, hlhh⟩ := hlh
  obtain ⟨aha, cha, Sha, rfl, -⟩ := hlha.out
  obtain ⟨ahb, chb, Shb, rfl, -⟩ := hlhb.out
  obtain ⟨ahx, chx, Shx, rfl, -⟩ := hlhx.out
  obtain ⟨ahy, chy, Shy, rfl, -⟩ := hlhy.out
  obtain ⟨ahh, chh, Shh, rfl, -⟩ := hlhh.out
  have HB0 := Lib.hid hb0
  clear hb0
  obtain ⟨du, hu1, hu2⟩ := under_term
  obtain ⟨dh, dh1, dh2⟩ := under_of 51 (by kernel_rfl)
  go_enter Try.func124, Try.ntmps124
  go_upto_region 1 with fail
  refine at_code (fun V0 hV0 => ?_)
  have k1 : Kept w V0 := by rw [← hV0]; exact kept_refl _
  have Z0 : Hid (V0.heap.size = w.heap.size + 0) := by show _ = _; rw [← hV0]; rfl
  clear hV0
  have Kk3 := Lib.hid k1
  clear k1
  have HLha : Hid (LiesQ V0 (Par w V0.heap.size [] P) h.a.kids _) := (par_in _ _ hlha).later Kk3.out
  clear hlha
  have HLhb : Hid (LiesQ V0 (Par w V0.heap.size [] P) h.b.kids _) := (par_in _ _ hlhb).later Kk3.out
  clear hlhb
  have HLhx : Hid (LiesQ V0 (Par w V0.heap.size [] P) h.x.kids _) := (par_in _ _ hlhx).later Kk3.out
  clear hlhx
  have HLhy : Hid (LiesQ V0 (Par w V0.heap.size [] P) h.y.kids _) := (par_in _ _ hlhy).later Kk3.out
  clear hlhy
  have HLhh : Hid (LiesQ V0 (Par w V0.heap.size [] P) h.h.kids _) := (par_in _ _ hlhh).later Kk3.out
  clear hlhh
  have kvV0 : SeesN V0 V0.heap.size V0 := seesN_kept _ (kept_refl _)
  go_wp2_with fail
  clear kvV0
  go_loopw [7] (fun iv wr => ∃ i : Int, 0 ≤ i ∧ i ≤ 1 ∧ iv = .int .i64 i ∧ Hid ((1 ≤ i → toldB h = true)) ∧ Kept V0 wr) (fun iv _ => 1 - (intOf iv).toNat)
  case atStart => exact ⟨0, by decide, by decide, rfl, (fun h => absurd h (by decide)), kept_refl _⟩
  case round =>
    obtain ⟨i, hi0, hi1, rfl, hv5, k4⟩ := hrel
    have Kk6 := Lib.hid k4
    clear k4
    have HVhv5 := Lib.hid hv5.out
    clear hv5
    obtain rfl | rfl : i = 0 ∨ i = 1 := by omega
    · clear hi0 hi1
      have kvV0 : SeesN V0 V0.heap.size wr := seesN_kept _ Kk6.out
      go_wp2_with (refine stop_load 51 (.tmp 9) rfl ?_)
      intro _
      refine wpList_load_part (b0) 0 51 (.tmp 9) #[.int .i64 h.i, .int .i64 h.a.k, .int .i64 h.a.i, .int .i64 h.a.j, .int .i64 h.a.n, (.slice aha h.a.kids.length cha), .int .i64 h.b.k, .int .i64 h.b.i, .int .i64 h.b.j, .int .i64 h.b.n, (.slice ahb h.b.kids.length chb), .int .i64 h.x.k, .int .i64 h.x.i, .int .i64 h.x.j, .int .i64 h.x.n, (.slice ahx h.x.kids.length chx), .int .i64 h.y.k, .int .i64 h.y.i, .int .i64 h.y.j, .int .i64 h.y.n, (.slice ahy h.y.kids.length chy), .int .i64 h.h.k, .int .i64 h.h.i, .int .i64 h.h.j, .int .i64 h.h.n, (.slice ahh h.h.kids.length chh)] dh (blk_at HB0.out (kept_trans Kk3.out Kk6.out)) (by rfl) rfl (by rfl) (by rfl) dh1 (by cases dh <;> first | rfl | exact dh2) (by kernel_rfl) ?_
      go_wp2_with (refine stop_store 51 (.tmp 4) (.tmp 10) rfl ?_)
      intro _
      refine wpList_store_part_n (by rfl) 51 (.tmp 4) (.tmp 10) rfl (wr.heap.size) 0 #[.int .i64 h.i, .int .i64 h.a.k, .int .i64 h.a.i, .int .i64 h.a.j, .int .i64 h.a.n, (.slice aha h.a.kids.length cha), .int .i64 h.b.k, .int .i64 h.b.i, .int .i64 h.b.j, .int .i64 h.b.n, (.slice ahb h.b.kids.length chb), .int .i64 h.x.k, .int .i64 h.x.i, .int .i64 h.x.j, .int .i64 h.x.n, (.slice ahx h.x.kids.length chx), .int .i64 h.y.k, .int .i64 h.y.i, .int .i64 h.y.j, .int .i64 h.y.n, (.slice ahy h.y.kids.length chy), .int .i64 h.h.k, .int .i64 h.h.i, .int .i64 h.h.j, .int .i64 h.h.n, (.slice ahh h.h.kids.length chh)] (by rfl) (by rfl) 51 (by kernel_rfl) (row_ok rfl) ?_
      intro W7 hW7
      clear kvV0
      obtain ⟨k10, x9, z11⟩ := alloc1 hW7
      have Kk12 := Lib.hid k10
      clear k10
      have Hx9 := Lib.hid x9
      have Hz11 := Lib.hid z11
      clear x9 z11 hW7
      have HG13 : Hid (V0.heap.size ≤ wr.heap.size) := (Below.size Kk6.out)
      have XL14 : Hid (XLt (wr.heap.size :: []) W7) := (xlt_more (xlt_nil _) Kk12.out (by have := Hz11.out; omega))
      refine ⟨_, #[.int .i64 h.i, .int .i64 h.a.k, .int .i64 h.a.i, .int .i64 h.a.j, .int .i64 h.a.n, (.slice aha h.a.kids.length cha), .int .i64 h.b.k, .int .i64 h.b.i, .int .i64 h.b.j, .int .i64 h.b.n, (.slice ahb h.b.kids.length chb), .int .i64 h.x.k, .int .i64 h.x.i, .int .i64 h.x.j, .int .i64 h.x.n, (.slice ahx h.x.kids.length chx), .int .i64 h.y.k, .int .i64 h.y.i, .int .i64 h.y.j, .int .i64 h.y.n, (.slice ahy h.y.kids.length chy), .int .i64 h.h.k, .int .i64 h.h.i, .int .i64 h.h.j, .int .i64 h.h.n, (.slice ahh h.h.kids.length chh)], Hx9.out, rfl, Nat.le_of_ble_eq_true rfl, ?_⟩
      intro W8 hW8
      have KB15 := Lib.hid (kept_set (kept_trans Kk3.out (kept_trans Kk6.out Kk12.out)) hW8 (by have := HG13.out; have := Z0.out; omega))
      have KB16 := Lib.hid (kept_set (kept_trans Kk6.out Kk12.out) hW8 HG13.out)
      have HL17 : Hid (LiesQ W8 (Par w V0.heap.size (wr.heap.size :: []) P) h.a.kids _) := par_set (par_grow HLha.out (kept_trans Kk6.out Kk12.out) (List.forall_mem_cons.2 ⟨(Or.inr (Nat.le_trans (Below.size Kk6.out) (Nat.le_refl wr.heap.size))), (fun _ h => nomatch h)⟩)) hW8 (List.mem_cons_self ..) (by have := HG13.out; have := Z0.out; omega)
      have HL18 : Hid (LiesQ W8 (Par w V0.heap.size (wr.heap.size :: []) P) h.b.kids _) := par_set (par_grow HLhb.out (kept_trans Kk6.out Kk12.out) (List.forall_mem_cons.2 ⟨(Or.inr (Nat.le_trans (Below.size Kk6.out) (Nat.le_refl wr.heap.size))), (fun _ h => nomatch h)⟩)) hW8 (List.mem_cons_self ..) (by have := HG13.out; have := Z0.out; omega)
      have HL19 : Hid (LiesQ W8 (Par w V0.heap.size (wr.heap.size :: []) P) h.x.kids _) := par_set (par_grow HLhx.out (kept_trans Kk6.out Kk12.out) (List.forall_mem_cons.2 ⟨(Or.inr (Nat.le_trans (Below.size Kk6.out) (Nat.le_refl wr.heap.size))), (fun _ h => nomatch h)⟩)) hW8 (List.mem_cons_self ..) (by have := HG13.out; have := Z0.out; omega)
      have HL20 : Hid (LiesQ W8 (Par w V0.heap.size (wr.heap.size :: []) P) h.y.kids _) := par_set (par_grow HLhy.out (kept_trans Kk6.out Kk12.out) (List.forall_mem_cons.2 ⟨(Or.inr (Nat.le_trans (Below.size Kk6.out) (Nat.le_refl wr.heap.size))), (fun _ h => nomatch h)⟩)) hW8 (List.mem_cons_self ..) (by have := HG13.out; have := Z0.out; omega)
      have HL21 : Hid (LiesQ W8 (Par w V0.heap.size (wr.heap.size :: []) P) h.h.kids _) := par_set (par_grow HLhh.out (kept_trans Kk6.out Kk12.out) (List.forall_mem_cons.2 ⟨(Or.inr (Nat.le_trans (Below.size Kk6.out) (Nat.le_refl wr.heap.size))), (fun _ h => nomatch h)⟩)) hW8 (List.mem_cons_self ..) (by have := HG13.out; have := Z0.out; omega)
      have XL22 := Lib.hid (xlt_set XL14.out hW8)
      have HX23 := Lib.hid (blk_same Hx9.out hW8)
      clear hW8
      have kvV0 : SeesN V0 V0.heap.size W8 := seesN_kept _ KB16.out
      have kvW8 : SeesN W8 V0.heap.size W8 := seesN_kept _ (kept_refl _)
      go_wp2_with (refine stop_load 32 (.tmp 11) rfl ?_)
      intro _
      refine wpList_load_part (wr.heap.size) 11 32 (.tmp 11) #[.int .i64 h.x.k, .int .i64 h.x.i, .int .i64 h.x.j, .int .i64 h.x.n, (.slice ahx h.x.kids.length chx)] du HX23.out (by rfl) rfl (by rfl) (by rfl) hu1 (by cases du <;> first | rfl | exact hu2) size_term ?_
      go_wp2_with (refine stop_load 32 (.tmp 13) rfl ?_)
      intro _
      refine wpList_load_part (wr.heap.size) 16 32 (.tmp 13) #[.int .i64 h.y.k, .int .i64 h.y.i, .int .i64 h.y.j, .int .i64 h.y.n, (.slice ahy h.y.kids.length chy)] du HX23.out (by rfl) rfl (by rfl) (by rfl) hu1 (by cases du <;> first | rfl | exact hu2) size_term ?_
      go_wp2_with (refine stop_load 32 (.tmp 15) rfl ?_)
      intro _
      refine wpList_load_part (wr.heap.size) 21 32 (.tmp 15) #[.int .i64 h.h.k, .int .i64 h.h.i, .int .i64 h.h.j, .int .i64 h.h.n, (.slice ahh h.h.kids.length chh)] du HX23.out (by rfl) rfl (by rfl) (by rfl) hu1 (by cases du <;> first | rfl | exact hu2) size_term ?_
      go_wp2_with fail
      refine at_world (fun W25 hW25 => ?_)
      clear kvV0
      clear kvW8
      obtain ⟨k27, x26, z28⟩ := alloc1 hW25
      have Kk29 := Lib.hid k27
      clear k27
      have Hx26 := Lib.hid x26
      have Hz28 := Lib.hid z28
      clear x26 z28 hW25
      have HR30 := Lib.hid (q_row3 (Q := (Par w V0.heap.size (wr.heap.size :: []) P)) Hx26.out Gh.out.2.2.2.1 (HL19.out.later Kk29.out) Gh.out.2.2.2.2.1 (HL20.out.later Kk29.out) Gh.out.2.2.2.2.2 (HL21.out.later Kk29.out) (par_new (Below.size KB16.out) XL22.out (Nat.le_refl _)))
      refine (cplain_any [h.x, h.y, h.h] _ _ HR30.out.lies).mono ?_
      obtain ⟨rb34, hb33⟩ : ∃ qb, (plainL [h.x, h.y, h.h]) = qb := ⟨_, rfl⟩
      rw [hb33]
      have Hhb33 := Lib.hid hb33
      clear hb33
      rintro e w31 ⟨rfl, k32⟩
      have Kk35 := Lib.hid k32
      clear k32
      cases rb34 with
      | false =>
        have kvV0 : SeesN V0 V0.heap.size w31 := seesN_kept _ (kept_trans KB16.out (kept_trans Kk29.out Kk35.out))
        have kvW8 : SeesN W8 V0.heap.size w31 := seesN_kept _ (kept_trans Kk29.out Kk35.out)
        go_wp2
        go_ret
        exact ⟨ret_bool (Eq.symm (show toldB h = false from by rw [show toldB h = false from Hhb33.out])), (kept_trans KB15.out (kept_trans Kk29.out Kk35.out))⟩
      | true =>
        have kvV0 : SeesN V0 V0.heap.size w31 := seesN_kept _ (kept_trans KB16.out (kept_trans Kk29.out Kk35.out))
        have kvW8 : SeesN W8 V0.heap.size w31 := seesN_kept _ (kept_trans Kk29.out Kk35.out)
        go_wp2
        go_roundw
        case rel => exact ⟨1, by decide, by decide, by go_num, (fun _ => Hhb33.out), (kept_trans KB16.out (kept_trans Kk29.out Kk35.out))⟩
        case measure => simp [intOf]
    · clear hi0 hi1
      have kvV0 : SeesN V0 V0.heap.size wr := seesN_kept _ Kk6.out
      go_wp2
      go_ret
      exact ⟨ret_bool (Eq.symm (show toldB h = true from by rw [HVhv5.out (by decide)])), (kept_trans Kk3.out Kk6.out)⟩

set_option maxRecDepth 20000 in
set_option maxHeartbeats 4000000 in
theorem csides2_any (g : He) (h : He) (P : Nat → Prop) (w : World) (b0 : Nat) (sga : Value) (sgb : Value) (sgx : Value) (sgy : Value) (sgh : Value) (sha : Value) (shb : Value) (shx : Value) (shy : Value) (shh : Value) (hfg : g.fine) (hlg : HQ w P g sga sgb sgx sgy sgh) (hfh : h.fine) (hlh : HQ w P h sha shb shx shy shh) (hb0 : w.heap[b0]? = some (.cells #[.int .i64 g.i, .int .i64 g.a.k, .int .i64 g.a.i, .int .i64 g.a.j, .int .i64 g.a.n, sga, .int .i64 g.b.k, .int .i64 g.b.i, .int .i64 g.b.j, .int .i64 g.b.n, sgb, .int .i64 g.x.k, .int .i64 g.x.i, .int .i64 g.x.j, .int .i64 g.x.n, sgx, .int .i64 g.y.k, .int .i64 g.y.i, .int .i64 g.y.j, .int .i64 g.y.n, sgy, .int .i64 g.h.k, .int .i64 g.h.i, .int .i64 g.h.j, .int .i64 g.h.n, sgh, .int .i64 h.i, .int .i64 h.a.k, .int .i64 h.a.i, .int .i64 h.a.j, .int .i64 h.a.n, sha, .int .i64 h.b.k, .int .i64 h.b.i, .int .i64 h.b.j, .int .i64 h.b.n, shb, .int .i64 h.x.k, .int .i64 h.x.i, .int .i64 h.x.j, .int .i64 h.x.n, shx, .int .i64 h.y.k, .int .i64 h.y.i, .int .i64 h.y.j, .int .i64 h.y.n, shy, .int .i64 h.h.k, .int .i64 h.h.i, .int .i64 h.h.j, .int .i64 h.h.n, shh] 51 (0, 0))) : Calls Try.prog 124 #[.slice (some ⟨b0, 0, none⟩) 2 2] w fun e w' => e = .returned (.bool (toldB g && toldB h)) ∧ Kept w w' := by
  have Gg := Lib.hid hfg
  clear hfg
  obtain ⟨hlga, hlgb, hlgx, hlgy, hlgh⟩ := hlg
  obtain ⟨aga, cga, Sga, rfl, -⟩ := hlga.out
  obtain ⟨agb, cgb, Sgb, rfl, -⟩ := hlgb.out
  obtain ⟨agx, cgx, Sgx, rfl, -⟩ := hlgx.out
  obtain ⟨agy, cgy, Sgy, rfl, -⟩ := hlgy.out
  obtain ⟨agh, cgh, Sgh, rfl, -⟩ := hlgh.out
  have Gh := Lib.hid hfh
  clear hfh
  obtain ⟨hlha, hlhb, hlhx, hlhy, hlhh⟩ := hlh
  obtain ⟨aha, cha, Sha, rfl, -⟩ := hlha.out
  obtain ⟨ahb, chb, Shb, rfl, -⟩ := hlhb.out
  obtain ⟨ahx, chx, Shx, rfl, -⟩ := hlhx.out
  obtain ⟨ahy, chy, Shy, rfl, -⟩ := hlhy.out
  obtain ⟨ahh, chh, Shh, rfl, -⟩ := hlhh.out
  have HB0 := Lib.hid hb0
  clear hb0
  obtain ⟨du, hu1, hu2⟩ := under_term
  obtain ⟨dh, dh1, dh2⟩ := under_of 51 (by kernel_rfl)
  go_enter Try.func124, Try.ntmps124
  go_upto_region 1 with fail
  refine at_code (fun V0 hV0 => ?_)
  have k1 : Kept w V0 := by rw [← hV0]; exact kept_refl _
  have Z0 : Hid (V0.heap.size = w.heap.size + 0) := by show _ = _; rw [← hV0]; rfl
  clear hV0
  have Kk3 := Lib.hid k1
  clear k1
  have HLga : Hid (LiesQ V0 (Par w V0.heap.size [] P) g.a.kids _) := (par_in _ _ hlga).later Kk3.out
  clear hlga
  have HLgb : Hid (LiesQ V0 (Par w V0.heap.size [] P) g.b.kids _) := (par_in _ _ hlgb).later Kk3.out
  clear hlgb
  have HLgx : Hid (LiesQ V0 (Par w V0.heap.size [] P) g.x.kids _) := (par_in _ _ hlgx).later Kk3.out
  clear hlgx
  have HLgy : Hid (LiesQ V0 (Par w V0.heap.size [] P) g.y.kids _) := (par_in _ _ hlgy).later Kk3.out
  clear hlgy
  have HLgh : Hid (LiesQ V0 (Par w V0.heap.size [] P) g.h.kids _) := (par_in _ _ hlgh).later Kk3.out
  clear hlgh
  have HLha : Hid (LiesQ V0 (Par w V0.heap.size [] P) h.a.kids _) := (par_in _ _ hlha).later Kk3.out
  clear hlha
  have HLhb : Hid (LiesQ V0 (Par w V0.heap.size [] P) h.b.kids _) := (par_in _ _ hlhb).later Kk3.out
  clear hlhb
  have HLhx : Hid (LiesQ V0 (Par w V0.heap.size [] P) h.x.kids _) := (par_in _ _ hlhx).later Kk3.out
  clear hlhx
  have HLhy : Hid (LiesQ V0 (Par w V0.heap.size [] P) h.y.kids _) := (par_in _ _ hlhy).later Kk3.out
  clear hlhy
  have HLhh : Hid (LiesQ V0 (Par w V0.heap.size [] P) h.h.kids _) := (par_in _ _ hlhh).later Kk3.out
  clear hlhh
  have kvV0 : SeesN V0 V0.heap.size V0 := seesN_kept _ (kept_refl _)
  go_wp2_with fail
  clear kvV0
  go_loopw [7] (fun iv wr => ∃ i : Int, 0 ≤ i ∧ i ≤ 2 ∧ iv = .int .i64 i ∧ Hid ((1 ≤ i → toldB g = true) ∧ (2 ≤ i → toldB h = true)) ∧ Kept V0 wr) (fun iv _ => 2 - (intOf iv).toNat)
  case atStart => exact ⟨0, by decide, by decide, rfl, ⟨(fun h => absurd h (by decide)), (fun h => absurd h (by decide))⟩, kept_refl _⟩
  case round =>
    obtain ⟨i, hi0, hi1, rfl, hv5, k4⟩ := hrel
    have Kk6 := Lib.hid k4
    clear k4
    have HVhv5 := Lib.hid hv5.out
    clear hv5
    obtain rfl | rfl | rfl : i = 0 ∨ i = 1 ∨ i = 2 := by omega
    · clear hi0 hi1
      have kvV0 : SeesN V0 V0.heap.size wr := seesN_kept _ Kk6.out
      go_wp2_with (refine stop_load 51 (.tmp 9) rfl ?_)
      intro _
      refine wpList_load_part (b0) 0 51 (.tmp 9) #[.int .i64 g.i, .int .i64 g.a.k, .int .i64 g.a.i, .int .i64 g.a.j, .int .i64 g.a.n, (.slice aga g.a.kids.length cga), .int .i64 g.b.k, .int .i64 g.b.i, .int .i64 g.b.j, .int .i64 g.b.n, (.slice agb g.b.kids.length cgb), .int .i64 g.x.k, .int .i64 g.x.i, .int .i64 g.x.j, .int .i64 g.x.n, (.slice agx g.x.kids.length cgx), .int .i64 g.y.k, .int .i64 g.y.i, .int .i64 g.y.j, .int .i64 g.y.n, (.slice agy g.y.kids.length cgy), .int .i64 g.h.k, .int .i64 g.h.i, .int .i64 g.h.j, .int .i64 g.h.n, (.slice agh g.h.kids.length cgh)] dh (blk_at HB0.out (kept_trans Kk3.out Kk6.out)) (by rfl) rfl (by rfl) (by rfl) dh1 (by cases dh <;> first | rfl | exact dh2) (by kernel_rfl) ?_
      go_wp2_with (refine stop_store 51 (.tmp 4) (.tmp 10) rfl ?_)
      intro _
      refine wpList_store_part_n (by rfl) 51 (.tmp 4) (.tmp 10) rfl (wr.heap.size) 0 #[.int .i64 g.i, .int .i64 g.a.k, .int .i64 g.a.i, .int .i64 g.a.j, .int .i64 g.a.n, (.slice aga g.a.kids.length cga), .int .i64 g.b.k, .int .i64 g.b.i, .int .i64 g.b.j, .int .i64 g.b.n, (.slice agb g.b.kids.length cgb), .int .i64 g.x.k, .int .i64 g.x.i, .int .i64 g.x.j, .int .i64 g.x.n, (.slice agx g.x.kids.length cgx), .int .i64 g.y.k, .int .i64 g.y.i, .int .i64 g.y.j, .int .i64 g.y.n, (.slice agy g.y.kids.length cgy), .int .i64 g.h.k, .int .i64 g.h.i, .int .i64 g.h.j, .int .i64 g.h.n, (.slice agh g.h.kids.length cgh)] (by rfl) (by rfl) 51 (by kernel_rfl) (row_ok rfl) ?_
      intro W7 hW7
      clear kvV0
      obtain ⟨k10, x9, z11⟩ := alloc1 hW7
      have Kk12 := Lib.hid k10
      clear k10
      have Hx9 := Lib.hid x9
      have Hz11 := Lib.hid z11
      clear x9 z11 hW7
      have HG13 : Hid (V0.heap.size ≤ wr.heap.size) := (Below.size Kk6.out)
      have XL14 : Hid (XLt (wr.heap.size :: []) W7) := (xlt_more (xlt_nil _) Kk12.out (by have := Hz11.out; omega))
      refine ⟨_, #[.int .i64 g.i, .int .i64 g.a.k, .int .i64 g.a.i, .int .i64 g.a.j, .int .i64 g.a.n, (.slice aga g.a.kids.length cga), .int .i64 g.b.k, .int .i64 g.b.i, .int .i64 g.b.j, .int .i64 g.b.n, (.slice agb g.b.kids.length cgb), .int .i64 g.x.k, .int .i64 g.x.i, .int .i64 g.x.j, .int .i64 g.x.n, (.slice agx g.x.kids.length cgx), .int .i64 g.y.k, .int .i64 g.y.i, .int .i64 g.y.j, .int .i64 g.y.n, (.slice agy g.y.kids.length cgy), .int .i64 g.h.k, .int .i64 g.h.i, .int .i64 g.h.j, .int .i64 g.h.n, (.slice agh g.h.kids.length cgh)], Hx9.out, rfl, Nat.le_of_ble_eq_true rfl, ?_⟩
      intro W8 hW8
      have KB15 := Lib.hid (kept_set (kept_trans Kk3.out (kept_trans Kk6.out Kk12.out)) hW8 (by have := HG13.out; have := Z0.out; omega))
      have KB16 := Lib.hid (kept_set (kept_trans Kk6.out Kk12.out) hW8 HG13.out)
      have HL17 : Hid (LiesQ W8 (Par w V0.heap.size (wr.heap.size :: []) P) g.a.kids _) := par_set (par_grow HLga.out (kept_trans Kk6.out Kk12.out) (List.forall_mem_cons.2 ⟨(Or.inr (Nat.le_trans (Below.size Kk6.out) (Nat.le_refl wr.heap.size))), (fun _ h => nomatch h)⟩)) hW8 (List.mem_cons_self ..) (by have := HG13.out; have := Z0.out; omega)
      have HL18 : Hid (LiesQ W8 (Par w V0.heap.size (wr.heap.size :: []) P) g.b.kids _) := par_set (par_grow HLgb.out (kept_trans Kk6.out Kk12.out) (List.forall_mem_cons.2 ⟨(Or.inr (Nat.le_trans (Below.size Kk6.out) (Nat.le_refl wr.heap.size))), (fun _ h => nomatch h)⟩)) hW8 (List.mem_cons_self ..) (by have := HG13.out; have := Z0.out; omega)
      have HL19 : Hid (LiesQ W8 (Par w V0.heap.size (wr.heap.size :: []) P) g.x.kids _) := par_set (par_grow HLgx.out (kept_trans Kk6.out Kk12.out) (List.forall_mem_cons.2 ⟨(Or.inr (Nat.le_trans (Below.size Kk6.out) (Nat.le_refl wr.heap.size))), (fun _ h => nomatch h)⟩)) hW8 (List.mem_cons_self ..) (by have := HG13.out; have := Z0.out; omega)
      have HL20 : Hid (LiesQ W8 (Par w V0.heap.size (wr.heap.size :: []) P) g.y.kids _) := par_set (par_grow HLgy.out (kept_trans Kk6.out Kk12.out) (List.forall_mem_cons.2 ⟨(Or.inr (Nat.le_trans (Below.size Kk6.out) (Nat.le_refl wr.heap.size))), (fun _ h => nomatch h)⟩)) hW8 (List.mem_cons_self ..) (by have := HG13.out; have := Z0.out; omega)
      have HL21 : Hid (LiesQ W8 (Par w V0.heap.size (wr.heap.size :: []) P) g.h.kids _) := par_set (par_grow HLgh.out (kept_trans Kk6.out Kk12.out) (List.forall_mem_cons.2 ⟨(Or.inr (Nat.le_trans (Below.size Kk6.out) (Nat.le_refl wr.heap.size))), (fun _ h => nomatch h)⟩)) hW8 (List.mem_cons_self ..) (by have := HG13.out; have := Z0.out; omega)
      have HL22 : Hid (LiesQ W8 (Par w V0.heap.size (wr.heap.size :: []) P) h.a.kids _) := par_set (par_grow HLha.out (kept_trans Kk6.out Kk12.out) (List.forall_mem_cons.2 ⟨(Or.inr (Nat.le_trans (Below.size Kk6.out) (Nat.le_refl wr.heap.size))), (fun _ h => nomatch h)⟩)) hW8 (List.mem_cons_self ..) (by have := HG13.out; have := Z0.out; omega)
      have HL23 : Hid (LiesQ W8 (Par w V0.heap.size (wr.heap.size :: []) P) h.b.kids _) := par_set (par_grow HLhb.out (kept_trans Kk6.out Kk12.out) (List.forall_mem_cons.2 ⟨(Or.inr (Nat.le_trans (Below.size Kk6.out) (Nat.le_refl wr.heap.size))), (fun _ h => nomatch h)⟩)) hW8 (List.mem_cons_self ..) (by have := HG13.out; have := Z0.out; omega)
      have HL24 : Hid (LiesQ W8 (Par w V0.heap.size (wr.heap.size :: []) P) h.x.kids _) := par_set (par_grow HLhx.out (kept_trans Kk6.out Kk12.out) (List.forall_mem_cons.2 ⟨(Or.inr (Nat.le_trans (Below.size Kk6.out) (Nat.le_refl wr.heap.size))), (fun _ h => nomatch h)⟩)) hW8 (List.mem_cons_self ..) (by have := HG13.out; have := Z0.out; omega)
      have HL25 : Hid (LiesQ W8 (Par w V0.heap.size (wr.heap.size :: []) P) h.y.kids _) := par_set (par_grow HLhy.out (kept_trans Kk6.out Kk12.out) (List.forall_mem_cons.2 ⟨(Or.inr (Nat.le_trans (Below.size Kk6.out) (Nat.le_refl wr.heap.size))), (fun _ h => nomatch h)⟩)) hW8 (List.mem_cons_self ..) (by have := HG13.out; have := Z0.out; omega)
      have HL26 : Hid (LiesQ W8 (Par w V0.heap.size (wr.heap.size :: []) P) h.h.kids _) := par_set (par_grow HLhh.out (kept_trans Kk6.out Kk12.out) (List.forall_mem_cons.2 ⟨(Or.inr (Nat.le_trans (Below.size Kk6.out) (Nat.le_refl wr.heap.size))), (fun _ h => nomatch h)⟩)) hW8 (List.mem_cons_self ..) (by have := HG13.out; have := Z0.out; omega)
      have XL27 := Lib.hid (xlt_set XL14.out hW8)
      have HX28 := Lib.hid (blk_same Hx9.out hW8)
      clear hW8
      have kvV0 : SeesN V0 V0.heap.size W8 := seesN_kept _ KB16.out
      have kvW8 : SeesN W8 V0.heap.size W8 := seesN_kept _ (kept_refl _)
      go_wp2_with (refine stop_load 32 (.tmp 11) rfl ?_)
      intro _
      refine wpList_load_part (wr.heap.size) 11 32 (.tmp 11) #[.int .i64 g.x.k, .int .i64 g.x.i, .int .i64 g.x.j, .int .i64 g.x.n, (.slice agx g.x.kids.length cgx)] du HX28.out (by rfl) rfl (by rfl) (by rfl) hu1 (by cases du <;> first | rfl | exact hu2) size_term ?_
      go_wp2_with (refine stop_load 32 (.tmp 13) rfl ?_)
      intro _
      refine wpList_load_part (wr.heap.size) 16 32 (.tmp 13) #[.int .i64 g.y.k, .int .i64 g.y.i, .int .i64 g.y.j, .int .i64 g.y.n, (.slice agy g.y.kids.length cgy)] du HX28.out (by rfl) rfl (by rfl) (by rfl) hu1 (by cases du <;> first | rfl | exact hu2) size_term ?_
      go_wp2_with (refine stop_load 32 (.tmp 15) rfl ?_)
      intro _
      refine wpList_load_part (wr.heap.size) 21 32 (.tmp 15) #[.int .i64 g.h.k, .int .i64 g.h.i, .int .i64 g.h.j, .int .i64 g.h.n, (.slice agh g.h.kids.length cgh)] du HX28.out (by rfl) rfl (by rfl) (by rfl) hu1 (by cases du <;> first | rfl | exact hu2) size_term ?_
      go_wp2_with fail
      refine at_world (fun W30 hW30 => ?_)
      clear kvV0
      clear kvW8
      obtain ⟨k32, x31, z33⟩ := alloc1 hW30
      have Kk34 := Lib.hid k32
      clear k32
      have Hx31 := Lib.hid x31
      have Hz33 := Lib.hid z33
      clear x31 z33 hW30
      have HR35 := Lib.hid (q_row3 (Q := (Par w V0.heap.size (wr.heap.size :: []) P)) Hx31.out Gg.out.2.2.2.1 (HL19.out.later Kk34.out) Gg.out.2.2.2.2.1 (HL20.out.later Kk34.out) Gg.out.2.2.2.2.2 (HL21.out.later Kk34.out) (par_new (Below.size KB16.out) XL27.out (Nat.le_refl _)))
      refine (cplain_any [g.x, g.y, g.h] _ _ HR35.out.lies).mono ?_
      obtain ⟨rb39, hb38⟩ : ∃ qb, (plainL [g.x, g.y, g.h]) = qb := ⟨_, rfl⟩
      rw [hb38]
      have Hhb38 := Lib.hid hb38
      clear hb38
      rintro e w36 ⟨rfl, k37⟩
      have Kk40 := Lib.hid k37
      clear k37
      cases rb39 with
      | false =>
        have kvV0 : SeesN V0 V0.heap.size w36 := seesN_kept _ (kept_trans KB16.out (kept_trans Kk34.out Kk40.out))
        have kvW8 : SeesN W8 V0.heap.size w36 := seesN_kept _ (kept_trans Kk34.out Kk40.out)
        go_wp2
        go_ret
        exact ⟨ret_bool (Eq.symm (show (toldB g && toldB h) = false from by rw [show toldB g = false from Hhb38.out]; rfl)), (kept_trans KB15.out (kept_trans Kk34.out Kk40.out))⟩
      | true =>
        have kvV0 : SeesN V0 V0.heap.size w36 := seesN_kept _ (kept_trans KB16.out (kept_trans Kk34.out Kk40.out))
        have kvW8 : SeesN W8 V0.heap.size w36 := seesN_kept _ (kept_trans Kk34.out Kk40.out)
        go_wp2
        go_roundw
        case rel => exact ⟨1, by decide, by decide, by go_num, ⟨(fun _ => Hhb38.out), (fun h => absurd h (by decide))⟩, (kept_trans KB16.out (kept_trans Kk34.out Kk40.out))⟩
        case measure => simp [intOf]
    · clear hi0 hi1
      have kvV0 : SeesN V0 V0.heap.size wr := seesN_kept _ Kk6.out
      go_wp2_with (refine stop_load 51 (.tmp 9) rfl ?_)
      intro _
      refine wpList_load_part (b0) 26 51 (.tmp 9) #[.int .i64 h.i, .int .i64 h.a.k, .int .i64 h.a.i, .int .i64 h.a.j, .int .i64 h.a.n, (.slice aha h.a.kids.length cha), .int .i64 h.b.k, .int .i64 h.b.i, .int .i64 h.b.j, .int .i64 h.b.n, (.slice ahb h.b.kids.length chb), .int .i64 h.x.k, .int .i64 h.x.i, .int .i64 h.x.j, .int .i64 h.x.n, (.slice ahx h.x.kids.length chx), .int .i64 h.y.k, .int .i64 h.y.i, .int .i64 h.y.j, .int .i64 h.y.n, (.slice ahy h.y.kids.length chy), .int .i64 h.h.k, .int .i64 h.h.i, .int .i64 h.h.j, .int .i64 h.h.n, (.slice ahh h.h.kids.length chh)] dh (blk_at HB0.out (kept_trans Kk3.out Kk6.out)) (by rfl) rfl (by rfl) (by rfl) dh1 (by cases dh <;> first | rfl | exact dh2) (by kernel_rfl) ?_
      go_wp2_with (refine stop_store 51 (.tmp 4) (.tmp 10) rfl ?_)
      intro _
      refine wpList_store_part_n (by rfl) 51 (.tmp 4) (.tmp 10) rfl (wr.heap.size) 0 #[.int .i64 h.i, .int .i64 h.a.k, .int .i64 h.a.i, .int .i64 h.a.j, .int .i64 h.a.n, (.slice aha h.a.kids.length cha), .int .i64 h.b.k, .int .i64 h.b.i, .int .i64 h.b.j, .int .i64 h.b.n, (.slice ahb h.b.kids.length chb), .int .i64 h.x.k, .int .i64 h.x.i, .int .i64 h.x.j, .int .i64 h.x.n, (.slice ahx h.x.kids.length chx), .int .i64 h.y.k, .int .i64 h.y.i, .int .i64 h.y.j, .int .i64 h.y.n, (.slice ahy h.y.kids.length chy), .int .i64 h.h.k, .int .i64 h.h.i, .int .i64 h.h.j, .int .i64 h.h.n, (.slice ahh h.h.kids.length chh)] (by rfl) (by rfl) 51 (by kernel_rfl) (row_ok rfl) ?_
      intro W41 hW41
      clear kvV0
      obtain ⟨k44, x43, z45⟩ := alloc1 hW41
      have Kk46 := Lib.hid k44
      clear k44
      have Hx43 := Lib.hid x43
      have Hz45 := Lib.hid z45
      clear x43 z45 hW41
      have HG47 : Hid (V0.heap.size ≤ wr.heap.size) := (Below.size Kk6.out)
      have XL48 : Hid (XLt (wr.heap.size :: []) W41) := (xlt_more (xlt_nil _) Kk46.out (by have := Hz45.out; omega))
      refine ⟨_, #[.int .i64 h.i, .int .i64 h.a.k, .int .i64 h.a.i, .int .i64 h.a.j, .int .i64 h.a.n, (.slice aha h.a.kids.length cha), .int .i64 h.b.k, .int .i64 h.b.i, .int .i64 h.b.j, .int .i64 h.b.n, (.slice ahb h.b.kids.length chb), .int .i64 h.x.k, .int .i64 h.x.i, .int .i64 h.x.j, .int .i64 h.x.n, (.slice ahx h.x.kids.length chx), .int .i64 h.y.k, .int .i64 h.y.i, .int .i64 h.y.j, .int .i64 h.y.n, (.slice ahy h.y.kids.length chy), .int .i64 h.h.k, .int .i64 h.h.i, .int .i64 h.h.j, .int .i64 h.h.n, (.slice ahh h.h.kids.length chh)], Hx43.out, rfl, Nat.le_of_ble_eq_true rfl, ?_⟩
      intro W42 hW42
      have KB49 := Lib.hid (kept_set (kept_trans Kk3.out (kept_trans Kk6.out Kk46.out)) hW42 (by have := HG47.out; have := Z0.out; omega))
      have KB50 := Lib.hid (kept_set (kept_trans Kk6.out Kk46.out) hW42 HG47.out)
      have HL51 : Hid (LiesQ W42 (Par w V0.heap.size (wr.heap.size :: []) P) h.a.kids _) := par_set (par_grow HLha.out (kept_trans Kk6.out Kk46.out) (List.forall_mem_cons.2 ⟨(Or.inr (Nat.le_trans (Below.size Kk6.out) (Nat.le_refl wr.heap.size))), (fun _ h => nomatch h)⟩)) hW42 (List.mem_cons_self ..) (by have := HG47.out; have := Z0.out; omega)
      have HL52 : Hid (LiesQ W42 (Par w V0.heap.size (wr.heap.size :: []) P) h.b.kids _) := par_set (par_grow HLhb.out (kept_trans Kk6.out Kk46.out) (List.forall_mem_cons.2 ⟨(Or.inr (Nat.le_trans (Below.size Kk6.out) (Nat.le_refl wr.heap.size))), (fun _ h => nomatch h)⟩)) hW42 (List.mem_cons_self ..) (by have := HG47.out; have := Z0.out; omega)
      have HL53 : Hid (LiesQ W42 (Par w V0.heap.size (wr.heap.size :: []) P) h.x.kids _) := par_set (par_grow HLhx.out (kept_trans Kk6.out Kk46.out) (List.forall_mem_cons.2 ⟨(Or.inr (Nat.le_trans (Below.size Kk6.out) (Nat.le_refl wr.heap.size))), (fun _ h => nomatch h)⟩)) hW42 (List.mem_cons_self ..) (by have := HG47.out; have := Z0.out; omega)
      have HL54 : Hid (LiesQ W42 (Par w V0.heap.size (wr.heap.size :: []) P) h.y.kids _) := par_set (par_grow HLhy.out (kept_trans Kk6.out Kk46.out) (List.forall_mem_cons.2 ⟨(Or.inr (Nat.le_trans (Below.size Kk6.out) (Nat.le_refl wr.heap.size))), (fun _ h => nomatch h)⟩)) hW42 (List.mem_cons_self ..) (by have := HG47.out; have := Z0.out; omega)
      have HL55 : Hid (LiesQ W42 (Par w V0.heap.size (wr.heap.size :: []) P) h.h.kids _) := par_set (par_grow HLhh.out (kept_trans Kk6.out Kk46.out) (List.forall_mem_cons.2 ⟨(Or.inr (Nat.le_trans (Below.size Kk6.out) (Nat.le_refl wr.heap.size))), (fun _ h => nomatch h)⟩)) hW42 (List.mem_cons_self ..) (by have := HG47.out; have := Z0.out; omega)
      have HL56 : Hid (LiesQ W42 (Par w V0.heap.size (wr.heap.size :: []) P) g.a.kids _) := par_set (par_grow HLga.out (kept_trans Kk6.out Kk46.out) (List.forall_mem_cons.2 ⟨(Or.inr (Nat.le_trans (Below.size Kk6.out) (Nat.le_refl wr.heap.size))), (fun _ h => nomatch h)⟩)) hW42 (List.mem_cons_self ..) (by have := HG47.out; have := Z0.out; omega)
      have HL57 : Hid (LiesQ W42 (Par w V0.heap.size (wr.heap.size :: []) P) g.b.kids _) := par_set (par_grow HLgb.out (kept_trans Kk6.out Kk46.out) (List.forall_mem_cons.2 ⟨(Or.inr (Nat.le_trans (Below.size Kk6.out) (Nat.le_refl wr.heap.size))), (fun _ h => nomatch h)⟩)) hW42 (List.mem_cons_self ..) (by have := HG47.out; have := Z0.out; omega)
      have HL58 : Hid (LiesQ W42 (Par w V0.heap.size (wr.heap.size :: []) P) g.x.kids _) := par_set (par_grow HLgx.out (kept_trans Kk6.out Kk46.out) (List.forall_mem_cons.2 ⟨(Or.inr (Nat.le_trans (Below.size Kk6.out) (Nat.le_refl wr.heap.size))), (fun _ h => nomatch h)⟩)) hW42 (List.mem_cons_self ..) (by have := HG47.out; have := Z0.out; omega)
      have HL59 : Hid (LiesQ W42 (Par w V0.heap.size (wr.heap.size :: []) P) g.y.kids _) := par_set (par_grow HLgy.out (kept_trans Kk6.out Kk46.out) (List.forall_mem_cons.2 ⟨(Or.inr (Nat.le_trans (Below.size Kk6.out) (Nat.le_refl wr.heap.size))), (fun _ h => nomatch h)⟩)) hW42 (List.mem_cons_self ..) (by have := HG47.out; have := Z0.out; omega)
      have HL60 : Hid (LiesQ W42 (Par w V0.heap.size (wr.heap.size :: []) P) g.h.kids _) := par_set (par_grow HLgh.out (kept_trans Kk6.out Kk46.out) (List.forall_mem_cons.2 ⟨(Or.inr (Nat.le_trans (Below.size Kk6.out) (Nat.le_refl wr.heap.size))), (fun _ h => nomatch h)⟩)) hW42 (List.mem_cons_self ..) (by have := HG47.out; have := Z0.out; omega)
      have XL61 := Lib.hid (xlt_set XL48.out hW42)
      have HX62 := Lib.hid (blk_same Hx43.out hW42)
      clear hW42
      have kvV0 : SeesN V0 V0.heap.size W42 := seesN_kept _ KB50.out
      have kvW42 : SeesN W42 V0.heap.size W42 := seesN_kept _ (kept_refl _)
      go_wp2_with (refine stop_load 32 (.tmp 11) rfl ?_)
      intro _
      refine wpList_load_part (wr.heap.size) 11 32 (.tmp 11) #[.int .i64 h.x.k, .int .i64 h.x.i, .int .i64 h.x.j, .int .i64 h.x.n, (.slice ahx h.x.kids.length chx)] du HX62.out (by rfl) rfl (by rfl) (by rfl) hu1 (by cases du <;> first | rfl | exact hu2) size_term ?_
      go_wp2_with (refine stop_load 32 (.tmp 13) rfl ?_)
      intro _
      refine wpList_load_part (wr.heap.size) 16 32 (.tmp 13) #[.int .i64 h.y.k, .int .i64 h.y.i, .int .i64 h.y.j, .int .i64 h.y.n, (.slice ahy h.y.kids.length chy)] du HX62.out (by rfl) rfl (by rfl) (by rfl) hu1 (by cases du <;> first | rfl | exact hu2) size_term ?_
      go_wp2_with (refine stop_load 32 (.tmp 15) rfl ?_)
      intro _
      refine wpList_load_part (wr.heap.size) 21 32 (.tmp 15) #[.int .i64 h.h.k, .int .i64 h.h.i, .int .i64 h.h.j, .int .i64 h.h.n, (.slice ahh h.h.kids.length chh)] du HX62.out (by rfl) rfl (by rfl) (by rfl) hu1 (by cases du <;> first | rfl | exact hu2) size_term ?_
      go_wp2_with fail
      refine at_world (fun W64 hW64 => ?_)
      clear kvV0
      clear kvW42
      obtain ⟨k66, x65, z67⟩ := alloc1 hW64
      have Kk68 := Lib.hid k66
      clear k66
      have Hx65 := Lib.hid x65
      have Hz67 := Lib.hid z67
      clear x65 z67 hW64
      have HR69 := Lib.hid (q_row3 (Q := (Par w V0.heap.size (wr.heap.size :: []) P)) Hx65.out Gh.out.2.2.2.1 (HL53.out.later Kk68.out) Gh.out.2.2.2.2.1 (HL54.out.later Kk68.out) Gh.out.2.2.2.2.2 (HL55.out.later Kk68.out) (par_new (Below.size KB50.out) XL61.out (Nat.le_refl _)))
      refine (cplain_any [h.x, h.y, h.h] _ _ HR69.out.lies).mono ?_
      obtain ⟨rb73, hb72⟩ : ∃ qb, (plainL [h.x, h.y, h.h]) = qb := ⟨_, rfl⟩
      rw [hb72]
      have Hhb72 := Lib.hid hb72
      clear hb72
      rintro e w70 ⟨rfl, k71⟩
      have Kk74 := Lib.hid k71
      clear k71
      cases rb73 with
      | false =>
        have kvV0 : SeesN V0 V0.heap.size w70 := seesN_kept _ (kept_trans KB50.out (kept_trans Kk68.out Kk74.out))
        have kvW42 : SeesN W42 V0.heap.size w70 := seesN_kept _ (kept_trans Kk68.out Kk74.out)
        go_wp2
        go_ret
        exact ⟨ret_bool (Eq.symm (show (toldB g && toldB h) = false from by rw [show toldB h = false from Hhb72.out]; exact Bool.and_false _)), (kept_trans KB49.out (kept_trans Kk68.out Kk74.out))⟩
      | true =>
        have kvV0 : SeesN V0 V0.heap.size w70 := seesN_kept _ (kept_trans KB50.out (kept_trans Kk68.out Kk74.out))
        have kvW42 : SeesN W42 V0.heap.size w70 := seesN_kept _ (kept_trans Kk68.out Kk74.out)
        go_wp2
        go_roundw
        case rel => exact ⟨2, by decide, by decide, by go_num, ⟨(fun _ => HVhv5.out.1 (by decide)), (fun _ => Hhb72.out)⟩, (kept_trans KB50.out (kept_trans Kk68.out Kk74.out))⟩
        case measure => simp [intOf]
    · clear hi0 hi1
      have kvV0 : SeesN V0 V0.heap.size wr := seesN_kept _ Kk6.out
      go_wp2
      go_ret
      exact ⟨ret_bool (Eq.symm (show (toldB g && toldB h) = true from by rw [HVhv5.out.1 (by decide), HVhv5.out.2 (by decide)]; rfl)), (kept_trans Kk3.out Kk6.out)⟩

set_option maxRecDepth 20000 in
set_option maxHeartbeats 4000000 in
theorem cmake1_any (k : Int) (x : Tm) (P : Nat → Prop) (w : World) (sx : Value) (hrk : I64 k) (hfx : x.fine) (hlx : LiesQ w P x.kids sx) : Calls Try.prog 128 #[.int .i64 k, tv x sx] w (GivesP P (nodeT k [x]) w) := by
  have Rk := Lib.hid hrk
  clear hrk
  have Gx := Lib.hid hfx
  clear hfx
  obtain ⟨ax, cx, Sx, rfl, -⟩ := hlx.out
  obtain ⟨du, hu1, hu2⟩ := under_term
  unfold tv
  go_enter Try.func128, Try.ntmps128
  go_upto_region 1 with fail
  refine at_code (fun V0 hV0 => ?_)
  obtain ⟨k3, x1, x2, z4⟩ := alloc2 hV0
  have Kk5 := Lib.hid k3
  clear k3
  have Hx1 := Lib.hid x1
  have Hx2 := Lib.hid x2
  have Z0 := Lib.hid z4
  clear z4 x1 x2 hV0
  have HLx : Hid (LiesQ V0 (Par w V0.heap.size [] P) x.kids _) := (par_in _ _ hlx).later Kk5.out
  clear hlx
  have kvV0 : Sees V0 (w.heap.size + 1) V0 := sees_kept _ (kept_refl _)
  go_wp2_with (refine stop_load 32 (.tmp 3) rfl ?_)
  intro _
  refine wpList_load_part (w.heap.size) 0 32 (.tmp 3) #[.int .i64 x.k, .int .i64 x.i, .int .i64 x.j, .int .i64 x.n, (.slice ax x.kids.length cx)] du Hx1.out (by rfl) rfl (by rfl) (by rfl) hu1 (by cases du <;> first | rfl | exact hu2) size_term ?_
  go_wp2_with (refine stop_store 32 (.tmp 4) (.tmp 8) rfl ?_)
  intro _
  refine wpList_store_part_n (by rfl) 32 (.tmp 4) (.tmp 8) rfl (w.heap.size + 1) 0 #[.int .i64 k, .int .i64 0, .int .i64 0, .int .i64 0, (.slice (some ⟨V0.heap.size, 0, none⟩) 1 1)] (by rfl) (by rfl) 32 size_term (row_ok rfl) ?_
  intro W7 hW7
  clear kvV0
  obtain ⟨k10, x9, z11⟩ := alloc1 hW7
  have Kk12 := Lib.hid k10
  clear k10
  have Hx9 := Lib.hid x9
  have Hz11 := Lib.hid z11
  clear x9 z11 hW7
  have HR13 := Lib.hid (q_row1 Hx9.out Gx.out (HLx.out.later Kk12.out) (par_new (Nat.le_refl _) (xlt_nil _) (Nat.le_refl _)))
  refine ⟨_, #[.int .i64 k, .int .i64 0, .int .i64 0, .int .i64 0, (.slice (some ⟨V0.heap.size, 0, none⟩) 1 1)], (blk_at Hx2.out Kk12.out), rfl, Nat.le_of_ble_eq_true rfl, ?_⟩
  intro W8 hW8
  go_wp2_with fail
  refine bodyPost_ret (results_cell_row rfl _ _ (w.heap.size + 1) 32 _ _ du rfl (blk_same (blk_at Hx2.out Kk12.out) hW8) hu1 (by cases du <;> first | rfl | exact hu2) size_term) rfl ?_
  exact ⟨_, rfl, par_end (par_row' HR13.out hW8 (by omega) (by have := Z0.out; omega)) (by have := Z0.out; omega), kept_set (kept_trans Kk5.out Kk12.out) hW8 (by omega)⟩

set_option maxRecDepth 20000 in
set_option maxHeartbeats 4000000 in
theorem cmake2_any (k : Int) (x : Tm) (y : Tm) (P : Nat → Prop) (w : World) (sx : Value) (sy : Value) (hrk : I64 k) (hfx : x.fine) (hlx : LiesQ w P x.kids sx) (hfy : y.fine) (hly : LiesQ w P y.kids sy) : Calls Try.prog 119 #[.int .i64 k, tv x sx, tv y sy] w (GivesP P (nodeT k [x, y]) w) := by
  have Rk := Lib.hid hrk
  clear hrk
  have Gx := Lib.hid hfx
  clear hfx
  obtain ⟨ax, cx, Sx, rfl, -⟩ := hlx.out
  have Gy := Lib.hid hfy
  clear hfy
  obtain ⟨ay, cy, Sy, rfl, -⟩ := hly.out
  obtain ⟨du, hu1, hu2⟩ := under_term
  unfold tv
  go_enter Try.func119, Try.ntmps119
  go_upto_region 1 with fail
  refine at_code (fun V0 hV0 => ?_)
  obtain ⟨k4, x1, x2, x3, z5⟩ := alloc3 hV0
  have Kk6 := Lib.hid k4
  clear k4
  have Hx1 := Lib.hid x1
  have Hx2 := Lib.hid x2
  have Hx3 := Lib.hid x3
  have Z0 := Lib.hid z5
  clear z5 x1 x2 x3 hV0
  have HLx : Hid (LiesQ V0 (Par w V0.heap.size [] P) x.kids _) := (par_in _ _ hlx).later Kk6.out
  clear hlx
  have HLy : Hid (LiesQ V0 (Par w V0.heap.size [] P) y.kids _) := (par_in _ _ hly).later Kk6.out
  clear hly
  have kvV0 : Sees V0 (w.heap.size + 2) V0 := sees_kept _ (kept_refl _)
  go_wp2_with (refine stop_load 32 (.tmp 4) rfl ?_)
  intro _
  refine wpList_load_part (w.heap.size) 0 32 (.tmp 4) #[.int .i64 x.k, .int .i64 x.i, .int .i64 x.j, .int .i64 x.n, (.slice ax x.kids.length cx)] du Hx1.out (by rfl) rfl (by rfl) (by rfl) hu1 (by cases du <;> first | rfl | exact hu2) size_term ?_
  go_wp2_with (refine stop_load 32 (.tmp 5) rfl ?_)
  intro _
  refine wpList_load_part (w.heap.size + 1) 0 32 (.tmp 5) #[.int .i64 y.k, .int .i64 y.i, .int .i64 y.j, .int .i64 y.n, (.slice ay y.kids.length cy)] du Hx2.out (by rfl) rfl (by rfl) (by rfl) hu1 (by cases du <;> first | rfl | exact hu2) size_term ?_
  go_wp2_with (refine stop_store 32 (.tmp 6) (.tmp 11) rfl ?_)
  intro _
  refine wpList_store_part_n (by rfl) 32 (.tmp 6) (.tmp 11) rfl (w.heap.size + 2) 0 #[.int .i64 k, .int .i64 0, .int .i64 0, .int .i64 0, (.slice (some ⟨V0.heap.size, 0, none⟩) 2 2)] (by rfl) (by rfl) 32 size_term (row_ok rfl) ?_
  intro W8 hW8
  clear kvV0
  obtain ⟨k11, x10, z12⟩ := alloc1 hW8
  have Kk13 := Lib.hid k11
  clear k11
  have Hx10 := Lib.hid x10
  have Hz12 := Lib.hid z12
  clear x10 z12 hW8
  have HR14 := Lib.hid (q_row2 Hx10.out Gx.out (HLx.out.later Kk13.out) Gy.out (HLy.out.later Kk13.out) (par_new (Nat.le_refl _) (xlt_nil _) (Nat.le_refl _)))
  refine ⟨_, #[.int .i64 k, .int .i64 0, .int .i64 0, .int .i64 0, (.slice (some ⟨V0.heap.size, 0, none⟩) 2 2)], (blk_at Hx3.out Kk13.out), rfl, Nat.le_of_ble_eq_true rfl, ?_⟩
  intro W9 hW9
  go_wp2_with fail
  refine bodyPost_ret (results_cell_row rfl _ _ (w.heap.size + 2) 32 _ _ du rfl (blk_same (blk_at Hx3.out Kk13.out) hW9) hu1 (by cases du <;> first | rfl | exact hu2) size_term) rfl ?_
  exact ⟨_, rfl, par_end (par_row' HR14.out hW9 (by omega) (by have := Z0.out; omega)) (by have := Z0.out; omega), kept_set (kept_trans Kk6.out Kk13.out) hW9 (by omega)⟩

set_option maxRecDepth 20000 in
set_option maxHeartbeats 4000000 in
theorem cuse_any (n : Int) (i : Int) (j : Int) (l : List Tm) (P : Nat → Prop) (w : World) (sl : Value) (hrn : I64 n) (hri : I64 i) (hrj : I64 j) (hll : LiesQ w P l sl) (hp : ∀ x ∈ l, x.plainB = true) (hn : l.length ≤ 1000) : Calls Try.prog 130 #[.int .i64 n, .int .i64 i, .int .i64 j, sl] w (GivesP P (useT n i j l) w) := by
  have Rn := Lib.hid hrn
  clear hrn
  have Ri := Lib.hid hri
  clear hri
  have Rj := Lib.hid hrj
  clear hrj
  obtain ⟨al, cl, Sl, rfl, -⟩ := hll.out
  have Hpl := Lib.hid hp
  have Hln := Lib.hid hn
  clear hp hn
  obtain ⟨du, hu1, hu2⟩ := under_term
  go_enter Try.func130, Try.ntmps130
  go_upto_region 1 with fail
  refine at_code (fun V0 hV0 => ?_)
  obtain ⟨k2, x1, z3⟩ := alloc1 hV0
  have Kk4 := Lib.hid k2
  clear k2
  have Hx1 := Lib.hid x1
  have Z0 := Lib.hid z3
  clear z3 x1 hV0
  have HLl : Hid (LiesQ V0 (Par w V0.heap.size [] P) l _) := (par_in _ _ hll).later Kk4.out
  clear hll
  have kvV0 : Sees V0 (w.heap.size) V0 := sees_kept _ (kept_refl _)
  go_wp2_with fail
  clear kvV0
  refine ((copiesR_any l _ _ HLl.out.lies (Hpl.out) (by first | assumption | (have := Hln.out; omega))).mono (fun _ _ h => h.givesP (P := (Par w V0.heap.size [] P)))).mono ?_
  rintro e w5 ⟨s7, rfl, hl8, k6⟩
  obtain ⟨a9, c10, S11, rfl, -⟩ := hl8.out
  have Kk12 := Lib.hid k6
  clear k6
  have Hhl8 : Hid (LiesQ w5 (Par w V0.heap.size [] P) l _) := par_give hl8 (Nat.le_refl _) (xlt_nil _)
  clear hl8
  have kvV0 : Sees V0 (w.heap.size) w5 := sees_kept _ Kk12.out
  go_wp2_with (refine stop_store 32 (.tmp 8) (.tmp 14) rfl ?_)
  intro _
  refine wpList_store_part_n (by rfl) 32 (.tmp 8) (.tmp 14) rfl (w.heap.size) 0 #[.int .i64 23, .int .i64 i, .int .i64 j, .int .i64 n, (.slice a9 (List.length l) c10)] (by rfl) (by rfl) 32 size_term (row_ok rfl) ?_
  intro W13 hW13
  clear kvV0
  subst hW13
  refine ⟨_, #[.int .i64 23, .int .i64 i, .int .i64 j, .int .i64 n, (.slice a9 (List.length l) c10)], (blk_at Hx1.out Kk12.out), rfl, Nat.le_of_ble_eq_true rfl, ?_⟩
  intro W14 hW14
  go_wp2_with fail
  refine bodyPost_ret (results_cell_row rfl _ _ (w.heap.size) 32 _ _ du rfl (blk_same (blk_at Hx1.out Kk12.out) hW14) hu1 (by cases du <;> first | rfl | exact hu2) size_term) rfl ?_
  exact ⟨_, rfl, par_end (par_row' Hhl8.out hW14 (by omega) (by have := Z0.out; omega)) (by have := Z0.out; omega), kept_set (kept_trans Kk4.out Kk12.out) hW14 (by omega)⟩

set_option maxRecDepth 20000 in
set_option maxHeartbeats 4000000 in
theorem cright_any (g : Fm) (P : Nat → Prop) (w : World) (sga : Value) (sgc : Value) (sgb : Value) (sgd : Value) (sge : Value) (sgf : Value) (hfg : g.fine) (hlg : FQ w P g sga sgc sgb sgd sge sgf) : Calls Try.prog 114 #[fv g sga sgc sgb sgd sge sgf] w fun e w' => e = .returned (.bool (fmR g)) ∧ Kept w w' := by
  have Gg := Lib.hid hfg
  clear hfg
  obtain ⟨hlga, hlgc, hlgb, hlgd, hlge, hlgf⟩ := hlg
  obtain ⟨aga, cga, Sga, rfl, -⟩ := hlga.out
  obtain ⟨agc, cgc, Sgc, rfl, -⟩ := hlgc.out
  obtain ⟨agb, cgb, Sgb, rfl, -⟩ := hlgb.out
  obtain ⟨agd, cgd, Sgd, rfl, -⟩ := hlgd.out
  obtain ⟨age, cge, Sge, rfl, -⟩ := hlge.out
  obtain ⟨agf, cgf, Sgf, rfl, -⟩ := hlgf.out
  obtain ⟨du, hu1, hu2⟩ := under_term
  obtain ⟨dg, dg1, dg2⟩ := under_of 72 (by kernel_rfl)
  unfold fv
  go_enter Try.func114, Try.ntmps114
  go_upto_region 1 with fail
  refine at_code (fun V0 hV0 => ?_)
  obtain ⟨k2, x1, z3⟩ := alloc1 hV0
  have Kk4 := Lib.hid k2
  clear k2
  have Hx1 := Lib.hid x1
  have Z0 := Lib.hid z3
  clear z3 x1 hV0
  have HLga : Hid (LiesQ V0 (Par w V0.heap.size [] P) g.a.kids _) := (par_in _ _ hlga).later Kk4.out
  clear hlga
  have HLgc : Hid (LiesQ V0 (Par w V0.heap.size [] P) g.c.kids _) := (par_in _ _ hlgc).later Kk4.out
  clear hlgc
  have HLgb : Hid (LiesQ V0 (Par w V0.heap.size [] P) g.b.kids _) := (par_in _ _ hlgb).later Kk4.out
  clear hlgb
  have HLgd : Hid (LiesQ V0 (Par w V0.heap.size [] P) g.d.kids _) := (par_in _ _ hlgd).later Kk4.out
  clear hlgd
  have HLge : Hid (LiesQ V0 (Par w V0.heap.size [] P) g.e.kids _) := (par_in _ _ hlge).later Kk4.out
  clear hlge
  have HLgf : Hid (LiesQ V0 (Par w V0.heap.size [] P) g.f.kids _) := (par_in _ _ hlgf).later Kk4.out
  clear hlgf
  have ld5 := partN_cell (r := V0.heap.size) Hx1.out trivial 0 (.int .i64 g.i) rfl
  have ld6 := partN_cell (r := V0.heap.size) Hx1.out trivial 1 (.int .i64 g.j) rfl
  have kvV0 : SeesN V0 V0.heap.size V0 := seesN_kept _ (kept_refl _)
  go_wp2_with fail
  clear kvV0
  refine (clevel_any g.i _ Gg.out.1).mono ?_
  obtain ⟨rb10, hb9⟩ : ∃ qb, (levN 3 g.i) = qb := ⟨_, rfl⟩
  rw [hb9]
  have Hhb9 := Lib.hid hb9
  clear hb9
  rintro e w7 ⟨rfl, k8⟩
  have Kk11 := Lib.hid k8
  clear k8
  cases rb10 with
  | false =>
    have kvV0 : SeesN V0 V0.heap.size w7 := seesN_kept _ Kk11.out
    go_wp2
    go_ret
    exact ⟨ret_bool (Eq.symm (show fmR g = false from by unfold fmR; rw [Hhb9.out]; (try rfl))), (kept_trans Kk4.out Kk11.out)⟩
  | true =>
    have kvV0 : SeesN V0 V0.heap.size w7 := seesN_kept _ Kk11.out
    go_wp2_with fail
    clear kvV0
    refine (clevel_any g.j _ Gg.out.2.1).mono ?_
    obtain ⟨rb15, hb14⟩ : ∃ qb, (levN 3 g.j) = qb := ⟨_, rfl⟩
    rw [hb14]
    have Hhb14 := Lib.hid hb14
    clear hb14
    rintro e w12 ⟨rfl, k13⟩
    have Kk16 := Lib.hid k13
    clear k13
    cases rb15 with
    | false =>
      have kvV0 : SeesN V0 V0.heap.size w12 := seesN_kept _ (kept_trans Kk11.out Kk16.out)
      go_wp2
      go_ret
      exact ⟨ret_bool (Eq.symm (show fmR g = false from by unfold fmR; rw [Hhb9.out, Hhb14.out]; (try rfl))), (kept_trans Kk4.out (kept_trans Kk11.out Kk16.out))⟩
    | true =>
      have kvV0 : SeesN V0 V0.heap.size w12 := seesN_kept _ (kept_trans Kk11.out Kk16.out)
      go_wp2_with (refine stop_load 32 (.tmp 12) rfl ?_)
      intro _
      refine wpList_load_part (w.heap.size) 2 32 (.tmp 12) #[.int .i64 g.a.k, .int .i64 g.a.i, .int .i64 g.a.j, .int .i64 g.a.n, (.slice aga g.a.kids.length cga)] du (blk_at Hx1.out (kept_trans Kk11.out Kk16.out)) (by rfl) rfl (by rfl) (by rfl) hu1 (by cases du <;> first | rfl | exact hu2) size_term ?_
      go_wp2_with (refine stop_load 32 (.tmp 14) rfl ?_)
      intro _
      refine wpList_load_part (w.heap.size) 7 32 (.tmp 14) #[.int .i64 g.c.k, .int .i64 g.c.i, .int .i64 g.c.j, .int .i64 g.c.n, (.slice agc g.c.kids.length cgc)] du (blk_at Hx1.out (kept_trans Kk11.out Kk16.out)) (by rfl) rfl (by rfl) (by rfl) hu1 (by cases du <;> first | rfl | exact hu2) size_term ?_
      go_wp2_with (refine stop_load 32 (.tmp 16) rfl ?_)
      intro _
      refine wpList_load_part (w.heap.size) 12 32 (.tmp 16) #[.int .i64 g.b.k, .int .i64 g.b.i, .int .i64 g.b.j, .int .i64 g.b.n, (.slice agb g.b.kids.length cgb)] du (blk_at Hx1.out (kept_trans Kk11.out Kk16.out)) (by rfl) rfl (by rfl) (by rfl) hu1 (by cases du <;> first | rfl | exact hu2) size_term ?_
      go_wp2_with (refine stop_load 32 (.tmp 18) rfl ?_)
      intro _
      refine wpList_load_part (w.heap.size) 17 32 (.tmp 18) #[.int .i64 g.d.k, .int .i64 g.d.i, .int .i64 g.d.j, .int .i64 g.d.n, (.slice agd g.d.kids.length cgd)] du (blk_at Hx1.out (kept_trans Kk11.out Kk16.out)) (by rfl) rfl (by rfl) (by rfl) hu1 (by cases du <;> first | rfl | exact hu2) size_term ?_
      go_wp2_with (refine stop_load 32 (.tmp 20) rfl ?_)
      intro _
      refine wpList_load_part (w.heap.size) 22 32 (.tmp 20) #[.int .i64 g.e.k, .int .i64 g.e.i, .int .i64 g.e.j, .int .i64 g.e.n, (.slice age g.e.kids.length cge)] du (blk_at Hx1.out (kept_trans Kk11.out Kk16.out)) (by rfl) rfl (by rfl) (by rfl) hu1 (by cases du <;> first | rfl | exact hu2) size_term ?_
      go_wp2_with (refine stop_load 32 (.tmp 22) rfl ?_)
      intro _
      refine wpList_load_part (w.heap.size) 27 32 (.tmp 22) #[.int .i64 g.f.k, .int .i64 g.f.i, .int .i64 g.f.j, .int .i64 g.f.n, (.slice agf g.f.kids.length cgf)] du (blk_at Hx1.out (kept_trans Kk11.out Kk16.out)) (by rfl) rfl (by rfl) (by rfl) hu1 (by cases du <;> first | rfl | exact hu2) size_term ?_
      go_wp2_with fail
      refine at_world (fun W18 hW18 => ?_)
      clear kvV0
      obtain ⟨k20, x19, z21⟩ := alloc1 hW18
      have Kk22 := Lib.hid k20
      clear k20
      have Hx19 := Lib.hid x19
      have Hz21 := Lib.hid z21
      clear x19 z21 hW18
      have kq24 := (kept_trans Kk11.out (kept_trans Kk16.out Kk22.out))
      have HR23 := Lib.hid (q_row6 Hx19.out Gg.out.2.2.1 (HLga.out.later kq24) Gg.out.2.2.2.1 (HLgc.out.later kq24) Gg.out.2.2.2.2.1 (HLgb.out.later kq24) Gg.out.2.2.2.2.2.1 (HLgd.out.later kq24) Gg.out.2.2.2.2.2.2.1 (HLge.out.later kq24) Gg.out.2.2.2.2.2.2.2 (HLgf.out.later kq24) (par_new (Below.size (kept_trans Kk11.out Kk16.out)) (xlt_nil _) (Nat.le_refl _)))
      clear kq24
      refine (cplain_any [g.a, g.c, g.b, g.d, g.e, g.f] _ _ HR23.out.lies).mono ?_
      obtain ⟨rb28, hb27⟩ : ∃ qb, (plainL [g.a, g.c, g.b, g.d, g.e, g.f]) = qb := ⟨_, rfl⟩
      rw [hb27]
      have Hhb27 := Lib.hid hb27
      clear hb27
      rintro e w25 ⟨rfl, k26⟩
      have Kk29 := Lib.hid k26
      clear k26
      cases rb28 with
      | false =>
        have kvV0 : SeesN V0 V0.heap.size w25 := seesN_kept _ (kept_trans Kk11.out (kept_trans Kk16.out (kept_trans Kk22.out Kk29.out)))
        go_wp2
        go_ret
        exact ⟨ret_bool (Eq.symm (show fmR g = false from by unfold fmR; rw [Hhb9.out, Hhb14.out, Hhb27.out]; (try rfl))), (kept_trans Kk4.out (kept_trans Kk11.out (kept_trans Kk16.out (kept_trans Kk22.out Kk29.out))))⟩
      | true =>
        have kvV0 : SeesN V0 V0.heap.size w25 := seesN_kept _ (kept_trans Kk11.out (kept_trans Kk16.out (kept_trans Kk22.out Kk29.out)))
        go_wp2
        go_ret
        exact ⟨ret_bool (Eq.symm (show fmR g = true from by unfold fmR; rw [Hhb9.out, Hhb14.out, Hhb27.out]; (try rfl))), (kept_trans Kk4.out (kept_trans Kk11.out (kept_trans Kk16.out (kept_trans Kk22.out Kk29.out))))⟩

def cfuser1_0 : Oper := { dst := some 8, op := Go.Op.fieldAddr 72 (Go.Operand.tmp 3) 2, type := 0, pos := "cong.go:122", after := #[], guard := none }
def cfuser1_1 : Oper := { dst := some 9, op := Go.Op.load 32 (Go.Operand.tmp 8), type := 32, pos := "cong.go:122", after := #[{ on := 0, ground := Go.Ground.data }], guard := none }
def cfuser1_2 : Oper := { dst := some 10, op := Go.Op.fieldAddr 72 (Go.Operand.tmp 3) 3, type := 0, pos := "cong.go:122", after := #[], guard := none }
def cfuser1_3 : Oper := { dst := some 11, op := Go.Op.load 32 (Go.Operand.tmp 10), type := 32, pos := "cong.go:122", after := #[{ on := 2, ground := Go.Ground.data }], guard := none }
def cfuser1_4 : Oper := { dst := some 12, op := Go.Op.fieldAddr 72 (Go.Operand.tmp 3) 6, type := 0, pos := "cong.go:122", after := #[], guard := none }
def cfuser1_5 : Oper := { dst := some 13, op := Go.Op.load 32 (Go.Operand.tmp 12), type := 32, pos := "cong.go:122", after := #[{ on := 4, ground := Go.Ground.data }], guard := none }
def cfuser1_6 : Oper := { dst := some 14, op := Go.Op.fieldAddr 72 (Go.Operand.tmp 3) 2, type := 0, pos := "cong.go:122", after := #[], guard := none }
def cfuser1_7 : Oper := { dst := some 15, op := Go.Op.load 32 (Go.Operand.tmp 14), type := 32, pos := "cong.go:122", after := #[{ on := 6, ground := Go.Ground.data }], guard := none }
def cfuser1_8 : Oper := { dst := some 16, op := Go.Op.fieldAddr 72 (Go.Operand.tmp 3) 4, type := 0, pos := "cong.go:122", after := #[], guard := none }
def cfuser1_9 : Oper := { dst := some 17, op := Go.Op.load 32 (Go.Operand.tmp 16), type := 32, pos := "cong.go:122", after := #[{ on := 8, ground := Go.Ground.data }], guard := none }
def cfuser1_10 : Oper := { dst := some 18, op := Go.Op.call { callee := Go.Callee.value (Go.Operand.func 119), args := #[Go.Operand.const (Go.Value.int Go.IntKind.i64 14), Go.Operand.tmp 15, Go.Operand.tmp 17], argTypes := #[3, 32, 32] }, type := 32, pos := "cong.go:122", after := #[{ on := 7, ground := Go.Ground.data }, { on := 9, ground := Go.Ground.data }], guard := none }
def cfuser1_11 : Oper := { dst := some 19, op := Go.Op.fieldAddr 72 (Go.Operand.tmp 3) 3, type := 0, pos := "cong.go:122", after := #[], guard := none }
def cfuser1_12 : Oper := { dst := some 20, op := Go.Op.load 32 (Go.Operand.tmp 19), type := 32, pos := "cong.go:122", after := #[{ on := 11, ground := Go.Ground.data }], guard := none }
def cfuser1_13 : Oper := { dst := some 21, op := Go.Op.fieldAddr 72 (Go.Operand.tmp 3) 5, type := 0, pos := "cong.go:122", after := #[], guard := none }
def cfuser1_14 : Oper := { dst := some 22, op := Go.Op.load 32 (Go.Operand.tmp 21), type := 32, pos := "cong.go:122", after := #[{ on := 13, ground := Go.Ground.data }], guard := none }
def cfuser1_15 : Oper := { dst := some 23, op := Go.Op.call { callee := Go.Callee.value (Go.Operand.func 119), args := #[Go.Operand.const (Go.Value.int Go.IntKind.i64 14), Go.Operand.tmp 20, Go.Operand.tmp 22], argTypes := #[3, 32, 32] }, type := 32, pos := "cong.go:122", after := #[{ on := 12, ground := Go.Ground.data }, { on := 14, ground := Go.Ground.data }, { on := 10, ground := Go.Ground.chain }], guard := none }
def cfuser1_16 : Oper := { dst := some 24, op := Go.Op.fieldAddr 72 (Go.Operand.tmp 3) 7, type := 0, pos := "cong.go:122", after := #[], guard := none }
def cfuser1_17 : Oper := { dst := some 25, op := Go.Op.load 32 (Go.Operand.tmp 24), type := 32, pos := "cong.go:122", after := #[{ on := 16, ground := Go.Ground.data }], guard := none }
def cfuser1_18 : Oper := { dst := some 26, op := Go.Op.buildSlice 30 6 #[(0, Go.Operand.tmp 9), (1, Go.Operand.tmp 11), (2, Go.Operand.tmp 13), (3, Go.Operand.tmp 18), (4, Go.Operand.tmp 23), (5, Go.Operand.tmp 25)], type := 30, pos := "cong.go:122", after := #[{ on := 1, ground := Go.Ground.data }, { on := 3, ground := Go.Ground.data }, { on := 5, ground := Go.Ground.data }, { on := 10, ground := Go.Ground.data }, { on := 15, ground := Go.Ground.data }, { on := 17, ground := Go.Ground.data }], guard := none }
def cfuser1_19 : Oper := { dst := some 7, op := Go.Op.assign (Go.Operand.tmp 26), type := 30, pos := "cong.go:122", after := #[{ on := 18, ground := Go.Ground.data }, { on := 15, ground := Go.Ground.chain }, { on := 0, ground := Go.Ground.phase }, { on := 1, ground := Go.Ground.phase }, { on := 2, ground := Go.Ground.phase }, { on := 3, ground := Go.Ground.phase }, { on := 4, ground := Go.Ground.phase }, { on := 5, ground := Go.Ground.phase }, { on := 6, ground := Go.Ground.phase }, { on := 7, ground := Go.Ground.phase }, { on := 8, ground := Go.Ground.phase }, { on := 9, ground := Go.Ground.phase }, { on := 10, ground := Go.Ground.phase }, { on := 11, ground := Go.Ground.phase }, { on := 12, ground := Go.Ground.phase }, { on := 13, ground := Go.Ground.phase }, { on := 14, ground := Go.Ground.phase }, { on := 15, ground := Go.Ground.phase }, { on := 16, ground := Go.Ground.phase }, { on := 17, ground := Go.Ground.phase }, { on := 18, ground := Go.Ground.phase }], guard := none }
def cfuser2_0 : Oper := { dst := some 27, op := Go.Op.move (Go.Operand.tmp 1), type := 3, pos := "cong.go:123", after := #[], guard := none }
def cfuser2_1 : Oper := { dst := some 28, op := Go.Op.fieldAddr 72 (Go.Operand.tmp 3) 0, type := 0, pos := "cong.go:123", after := #[], guard := none }
def cfuser2_2 : Oper := { dst := some 29, op := Go.Op.load 3 (Go.Operand.tmp 28), type := 3, pos := "cong.go:123", after := #[{ on := 1, ground := Go.Ground.data }], guard := none }
def cfuser2_3 : Oper := { dst := some 30, op := Go.Op.fieldAddr 72 (Go.Operand.tmp 3) 1, type := 0, pos := "cong.go:123", after := #[], guard := none }
def cfuser2_4 : Oper := { dst := some 31, op := Go.Op.load 3 (Go.Operand.tmp 30), type := 3, pos := "cong.go:123", after := #[{ on := 3, ground := Go.Ground.data }], guard := none }
def cfuser2_5 : Oper := { dst := some 32, op := Go.Op.move (Go.Operand.tmp 7), type := 30, pos := "cong.go:123", after := #[], guard := none }
def cfuser2_6 : Oper := { dst := some 33, op := Go.Op.move (Go.Operand.tmp 2), type := 30, pos := "cong.go:123", after := #[], guard := none }
def cfuser2_7 : Oper := { dst := some 34, op := Go.Op.call { callee := Go.Callee.builtin Go.Builtin.append, args := #[Go.Operand.tmp 32, Go.Operand.tmp 33], argTypes := #[30, 30] }, type := 30, pos := "cong.go:123", after := #[{ on := 5, ground := Go.Ground.data }, { on := 6, ground := Go.Ground.data }], guard := none }
def cfuser2_8 : Oper := { dst := some 35, op := Go.Op.call { callee := Go.Callee.value (Go.Operand.func 130), args := #[Go.Operand.tmp 27, Go.Operand.tmp 29, Go.Operand.tmp 31, Go.Operand.tmp 34], argTypes := #[3, 3, 3, 30] }, type := 32, pos := "cong.go:123", after := #[{ on := 0, ground := Go.Ground.data }, { on := 2, ground := Go.Ground.data }, { on := 4, ground := Go.Ground.data }, { on := 7, ground := Go.Ground.data }, { on := 7, ground := Go.Ground.chain }], guard := none }
def cfuser2_9 : Oper := { dst := none, op := Go.Op.store 32 (Go.Operand.tmp 6) (Go.Operand.tmp 35), type := 0, pos := "cong.go:123", after := #[{ on := 8, ground := Go.Ground.data }, { on := 8, ground := Go.Ground.chain }, { on := 0, ground := Go.Ground.phase }, { on := 1, ground := Go.Ground.phase }, { on := 2, ground := Go.Ground.phase }, { on := 3, ground := Go.Ground.phase }, { on := 4, ground := Go.Ground.phase }, { on := 5, ground := Go.Ground.phase }, { on := 6, ground := Go.Ground.phase }, { on := 7, ground := Go.Ground.phase }, { on := 8, ground := Go.Ground.phase }], guard := none }
set_option maxRecDepth 20000 in
set_option maxHeartbeats 4000000 in
theorem cfuse_any (n : Int) (g : Fm) (more : List Tm) (P : Nat → Prop) (w : World) (sga : Value) (sgc : Value) (sgb : Value) (sgd : Value) (sge : Value) (sgf : Value) (smore : Value) (hfg : g.fine) (hlg : FQ w P g sga sgc sgb sgd sge sgf) (hrn : I64 n) (hlmore : LiesQ w P more smore) (hR : fmR g = true) (hmp : ∀ x ∈ more, x.plainB = true) (hmn : more.length ≤ 900) : Calls Try.prog 115 #[fv g sga sgc sgb sgd sge sgf, .int .i64 n, smore] w (GivesP P (sixT n g more) w) := by
  have Gg := Lib.hid hfg
  clear hfg
  obtain ⟨hlga, hlgc, hlgb, hlgd, hlge, hlgf⟩ := hlg
  obtain ⟨aga, cga, Sga, rfl, -⟩ := hlga.out
  obtain ⟨agc, cgc, Sgc, rfl, -⟩ := hlgc.out
  obtain ⟨agb, cgb, Sgb, rfl, -⟩ := hlgb.out
  obtain ⟨agd, cgd, Sgd, rfl, -⟩ := hlgd.out
  obtain ⟨age, cge, Sge, rfl, -⟩ := hlge.out
  obtain ⟨agf, cgf, Sgf, rfl, -⟩ := hlgf.out
  have Rn := Lib.hid hrn
  clear hrn
  obtain ⟨amore, cmore, Smore, rfl, -⟩ := hlmore.out
  have HRg := Lib.hid hR
  have Hmp := Lib.hid hmp
  have Hmn := Lib.hid hmn
  clear hR hmp hmn
  obtain ⟨du, hu1, hu2⟩ := under_term
  obtain ⟨dg, dg1, dg2⟩ := under_of 72 (by kernel_rfl)
  unfold fv
  go_enter Try.func115, Try.ntmps115
  go_upto_region 1 with fail
  refine at_code (fun V0 hV0 => ?_)
  obtain ⟨k3, x1, x2, z4⟩ := alloc2 hV0
  have Kk5 := Lib.hid k3
  clear k3
  have Hx1 := Lib.hid x1
  have Hx2 := Lib.hid x2
  have Z0 := Lib.hid z4
  clear z4 x1 x2 hV0
  have HLga : Hid (LiesQ V0 (Par w V0.heap.size [] P) g.a.kids _) := (par_in _ _ hlga).later Kk5.out
  clear hlga
  have HLgc : Hid (LiesQ V0 (Par w V0.heap.size [] P) g.c.kids _) := (par_in _ _ hlgc).later Kk5.out
  clear hlgc
  have HLgb : Hid (LiesQ V0 (Par w V0.heap.size [] P) g.b.kids _) := (par_in _ _ hlgb).later Kk5.out
  clear hlgb
  have HLgd : Hid (LiesQ V0 (Par w V0.heap.size [] P) g.d.kids _) := (par_in _ _ hlgd).later Kk5.out
  clear hlgd
  have HLge : Hid (LiesQ V0 (Par w V0.heap.size [] P) g.e.kids _) := (par_in _ _ hlge).later Kk5.out
  clear hlge
  have HLgf : Hid (LiesQ V0 (Par w V0.heap.size [] P) g.f.kids _) := (par_in _ _ hlgf).later Kk5.out
  clear hlgf
  have HLmore : Hid (LiesQ V0 (Par w V0.heap.size [] P) more _) := (par_in _ _ hlmore).later Kk5.out
  clear hlmore
  have ld6 := part_cell (r := (w.heap.size + 1)) Hx1.out (by have := Z0.out; omega) 0 (.int .i64 g.i) rfl
  have ld7 := part_cell (r := (w.heap.size + 1)) Hx1.out (by have := Z0.out; omega) 1 (.int .i64 g.j) rfl
  have kvV0 : Sees V0 (w.heap.size + 1) V0 := sees_kept _ (kept_refl _)
  go_wp2_with fail
  clear kvV0
  obtain ⟨W8, h9⟩ : ∃ x, World.drew V0 = x := ⟨_, rfl⟩
  have k10 : Kept V0 W8 := by rw [← h9]; exact kept_drew (kept_refl _)
  have Kk11 := Lib.hid k10
  clear k10
  refine wp_region_held_drew (S := Sees W8 (w.heap.size + 1)) (by kernel_rfl) ?_ (fun hHeld => ?_)
  · (try dsimp only)
    rw [h9]
    exact sees_kept _ (kept_refl _)
  rw [h9] at hHeld ⊢
  clear h9
  refine take_at 0 8 cfuser1_0 (v := ?_) (Or.inl ⟨by rfl, ?_⟩) ?_
  rotate_left 1
  · ((intro w hSw; (try dsimp only at hSw); unfold cfuser1_0; go_simp) <;> with_reducible rfl)
  (try simp only [Act.put, List.setIfInBounds_toArray, List.set_cons_zero, List.set_cons_succ])
  refine take_at 1 9 cfuser1_1 (yields_part (w.heap.size) 2 32 (.tmp 8) #[.int .i64 g.a.k, .int .i64 g.a.i, .int .i64 g.a.j, .int .i64 g.a.n, (.slice aga g.a.kids.length cga)] du (fun _ h => sees_blk Hx1.out (by have := Z0.out; omega) (sees_of Kk11.out h)) (by rfl) rfl (by rfl) (by rfl) hu1 (by cases du <;> first | rfl | exact hu2) size_term) ?_
  (try simp only [Act.put, List.setIfInBounds_toArray, List.set_cons_zero, List.set_cons_succ])
  refine take_at 2 10 cfuser1_2 (v := ?_) (Or.inl ⟨by rfl, ?_⟩) ?_
  rotate_left 1
  · ((intro w hSw; (try dsimp only at hSw); unfold cfuser1_2; go_simp) <;> with_reducible rfl)
  (try simp only [Act.put, List.setIfInBounds_toArray, List.set_cons_zero, List.set_cons_succ])
  refine take_at 3 11 cfuser1_3 (yields_part (w.heap.size) 7 32 (.tmp 10) #[.int .i64 g.c.k, .int .i64 g.c.i, .int .i64 g.c.j, .int .i64 g.c.n, (.slice agc g.c.kids.length cgc)] du (fun _ h => sees_blk Hx1.out (by have := Z0.out; omega) (sees_of Kk11.out h)) (by rfl) rfl (by rfl) (by rfl) hu1 (by cases du <;> first | rfl | exact hu2) size_term) ?_
  (try simp only [Act.put, List.setIfInBounds_toArray, List.set_cons_zero, List.set_cons_succ])
  refine take_at 4 12 cfuser1_4 (v := ?_) (Or.inl ⟨by rfl, ?_⟩) ?_
  rotate_left 1
  · ((intro w hSw; (try dsimp only at hSw); unfold cfuser1_4; go_simp) <;> with_reducible rfl)
  (try simp only [Act.put, List.setIfInBounds_toArray, List.set_cons_zero, List.set_cons_succ])
  refine take_at 5 13 cfuser1_5 (yields_part (w.heap.size) 22 32 (.tmp 12) #[.int .i64 g.e.k, .int .i64 g.e.i, .int .i64 g.e.j, .int .i64 g.e.n, (.slice age g.e.kids.length cge)] du (fun _ h => sees_blk Hx1.out (by have := Z0.out; omega) (sees_of Kk11.out h)) (by rfl) rfl (by rfl) (by rfl) hu1 (by cases du <;> first | rfl | exact hu2) size_term) ?_
  (try simp only [Act.put, List.setIfInBounds_toArray, List.set_cons_zero, List.set_cons_succ])
  refine take_at 6 14 cfuser1_6 (v := ?_) (Or.inl ⟨by rfl, ?_⟩) ?_
  rotate_left 1
  · ((intro w hSw; (try dsimp only at hSw); unfold cfuser1_6; go_simp) <;> with_reducible rfl)
  (try simp only [Act.put, List.setIfInBounds_toArray, List.set_cons_zero, List.set_cons_succ])
  refine take_at 7 15 cfuser1_7 (yields_part (w.heap.size) 2 32 (.tmp 14) #[.int .i64 g.a.k, .int .i64 g.a.i, .int .i64 g.a.j, .int .i64 g.a.n, (.slice aga g.a.kids.length cga)] du (fun _ h => sees_blk Hx1.out (by have := Z0.out; omega) (sees_of Kk11.out h)) (by rfl) rfl (by rfl) (by rfl) hu1 (by cases du <;> first | rfl | exact hu2) size_term) ?_
  (try simp only [Act.put, List.setIfInBounds_toArray, List.set_cons_zero, List.set_cons_succ])
  refine take_at 8 16 cfuser1_8 (v := ?_) (Or.inl ⟨by rfl, ?_⟩) ?_
  rotate_left 1
  · ((intro w hSw; (try dsimp only at hSw); unfold cfuser1_8; go_simp) <;> with_reducible rfl)
  (try simp only [Act.put, List.setIfInBounds_toArray, List.set_cons_zero, List.set_cons_succ])
  refine take_at 9 17 cfuser1_9 (yields_part (w.heap.size) 12 32 (.tmp 16) #[.int .i64 g.b.k, .int .i64 g.b.i, .int .i64 g.b.j, .int .i64 g.b.n, (.slice agb g.b.kids.length cgb)] du (fun _ h => sees_blk Hx1.out (by have := Z0.out; omega) (sees_of Kk11.out h)) (by rfl) rfl (by rfl) (by rfl) hu1 (by cases du <;> first | rfl | exact hu2) size_term) ?_
  (try simp only [Act.put, List.setIfInBounds_toArray, List.set_cons_zero, List.set_cons_succ])
  refine take_at 11 19 cfuser1_11 (v := ?_) (Or.inl ⟨by rfl, ?_⟩) ?_
  rotate_left 1
  · ((intro w hSw; (try dsimp only at hSw); unfold cfuser1_11; go_simp) <;> with_reducible rfl)
  (try simp only [Act.put, List.setIfInBounds_toArray, List.set_cons_zero, List.set_cons_succ])
  refine take_at 12 20 cfuser1_12 (yields_part (w.heap.size) 7 32 (.tmp 19) #[.int .i64 g.c.k, .int .i64 g.c.i, .int .i64 g.c.j, .int .i64 g.c.n, (.slice agc g.c.kids.length cgc)] du (fun _ h => sees_blk Hx1.out (by have := Z0.out; omega) (sees_of Kk11.out h)) (by rfl) rfl (by rfl) (by rfl) hu1 (by cases du <;> first | rfl | exact hu2) size_term) ?_
  (try simp only [Act.put, List.setIfInBounds_toArray, List.set_cons_zero, List.set_cons_succ])
  refine take_at 13 21 cfuser1_13 (v := ?_) (Or.inl ⟨by rfl, ?_⟩) ?_
  rotate_left 1
  · ((intro w hSw; (try dsimp only at hSw); unfold cfuser1_13; go_simp) <;> with_reducible rfl)
  (try simp only [Act.put, List.setIfInBounds_toArray, List.set_cons_zero, List.set_cons_succ])
  refine take_at 14 22 cfuser1_14 (yields_part (w.heap.size) 17 32 (.tmp 21) #[.int .i64 g.d.k, .int .i64 g.d.i, .int .i64 g.d.j, .int .i64 g.d.n, (.slice agd g.d.kids.length cgd)] du (fun _ h => sees_blk Hx1.out (by have := Z0.out; omega) (sees_of Kk11.out h)) (by rfl) rfl (by rfl) (by rfl) hu1 (by cases du <;> first | rfl | exact hu2) size_term) ?_
  (try simp only [Act.put, List.setIfInBounds_toArray, List.set_cons_zero, List.set_cons_succ])
  refine take_at 16 24 cfuser1_16 (v := ?_) (Or.inl ⟨by rfl, ?_⟩) ?_
  rotate_left 1
  · ((intro w hSw; (try dsimp only at hSw); unfold cfuser1_16; go_simp) <;> with_reducible rfl)
  (try simp only [Act.put, List.setIfInBounds_toArray, List.set_cons_zero, List.set_cons_succ])
  refine take_at 17 25 cfuser1_17 (yields_part (w.heap.size) 27 32 (.tmp 24) #[.int .i64 g.f.k, .int .i64 g.f.i, .int .i64 g.f.j, .int .i64 g.f.n, (.slice agf g.f.kids.length cgf)] du (fun _ h => sees_blk Hx1.out (by have := Z0.out; omega) (sees_of Kk11.out h)) (by rfl) rfl (by rfl) (by rfl) hu1 (by cases du <;> first | rfl | exact hu2) size_term) ?_
  (try simp only [Act.put, List.setIfInBounds_toArray, List.set_cons_zero, List.set_cons_succ])
  refine wpAnyH_ready (rs := [10]) (by kernel_rfl) (by simp) ?_
  refine AllReadyH.cons (o := cfuser1_10) rfl (fun K hK => ?_) ?_
  · unfold cfuser1_10
    go_simp
    refine (cmake2_any 14 g.a g.b (Par w V0.heap.size [] P) _ (.slice aga g.a.kids.length cga) (.slice agb g.b.kids.length cgb) (show I64 14 from by unfold I64; decide) Gg.out.2.2.1 (HLga.out.later Kk11.out) Gg.out.2.2.2.2.1 (HLgb.out.later Kk11.out)).mono ?_
    obtain ⟨U19, hU19⟩ : ∃ qu, nodeT 14 [g.a, g.b] = qu := ⟨_, rfl⟩
    rw [hU19]
    have HU19 := Lib.hid hU19
    clear hU19
    rintro e w12 ⟨s14, rfl, hl15, k13⟩
    obtain ⟨a16, c17, S18, rfl, -⟩ := hl15.out
    have Kk20 := Lib.hid k13
    clear k13
    have Hhl15 : Hid (LiesQ w12 (Par w V0.heap.size [] P) U19.kids _) := par_give hl15 (Below.size Kk11.out) (xlt_nil _)
    clear hl15
    clear hHeld
    refine hK.out _ _ (sees_kept _ Kk20.out) (fun hHeld => ?_)
    clear hK K
    (try simp only [Act.put, List.setIfInBounds_toArray, List.set_cons_zero, List.set_cons_succ])
    refine wpAnyH_ready (rs := [15]) (by kernel_rfl) (by simp) ?_
    refine AllReadyH.cons (o := cfuser1_15) rfl (fun K hK => ?_) ?_
    · unfold cfuser1_15
      go_simp
      refine (cmake2_any 14 g.c g.d (Par w V0.heap.size [] P) _ (.slice agc g.c.kids.length cgc) (.slice agd g.d.kids.length cgd) (show I64 14 from by unfold I64; decide) Gg.out.2.2.2.1 (HLgc.out.later (kept_trans Kk11.out Kk20.out)) Gg.out.2.2.2.2.2.1 (HLgd.out.later (kept_trans Kk11.out Kk20.out))).mono ?_
      obtain ⟨U28, hU28⟩ : ∃ qu, nodeT 14 [g.c, g.d] = qu := ⟨_, rfl⟩
      rw [hU28]
      have HU28 := Lib.hid hU28
      clear hU28
      rintro e w21 ⟨s23, rfl, hl24, k22⟩
      obtain ⟨a25, c26, S27, rfl, -⟩ := hl24.out
      have Kk29 := Lib.hid k22
      clear k22
      have Hhl24 : Hid (LiesQ w21 (Par w V0.heap.size [] P) U28.kids _) := par_give hl24 (Below.size (kept_trans Kk11.out Kk20.out)) (xlt_nil _)
      clear hl24
      clear hHeld
      refine hK.out _ _ (sees_kept _ (kept_trans Kk20.out Kk29.out)) (fun hHeld => ?_)
      clear hK K
      (try simp only [Act.put, List.setIfInBounds_toArray, List.set_cons_zero, List.set_cons_succ])
      refine wpAnyH_ready (rs := [18]) (by kernel_rfl) (by simp) ?_
      refine AllReadyH.cons (o := cfuser1_18) rfl (fun K hK => ?_) ?_
      · unfold cfuser1_18
        go_simp
        refine at_K (fun W31 hW31 => ?_)
        obtain ⟨g35, hg36, Kk33, Hx32, Hz34, KV37, HN38⟩ := alloc1v (kept_trans Kk11.out (kept_trans Kk20.out Kk29.out)) hW31
        rw [hg36]
        clear hW31
        have kq40 := (kept_trans Kk29.out Kk33.out)
        have HR39 := Lib.hid (q_row6 Hx32.out Gg.out.2.2.1 (HLga.out.later KV37.out) Gg.out.2.2.2.1 (HLgc.out.later KV37.out) Gg.out.2.2.2.2.2.2.1 (HLge.out.later KV37.out) (by rw [← HU19.out]; exact (node_fine (show I64 14 from by unfold I64; decide))) (Hhl15.out.later kq40) (by rw [← HU28.out]; exact (node_fine (show I64 14 from by unfold I64; decide))) (Hhl24.out.later Kk33.out) Gg.out.2.2.2.2.2.2.2 (HLgf.out.later KV37.out) (par_newg HN38.out (fun h => nomatch h)))
        clear kq40
        clear hg36
        clear hHeld
        refine hK.out _ _ (sees_kept _ (kept_trans Kk20.out (kept_trans Kk29.out Kk33.out))) (fun hHeld => ?_)
        clear hK K
        (try simp only [Act.put, List.setIfInBounds_toArray, List.set_cons_zero, List.set_cons_succ])
        refine take_at 19 7 cfuser1_19 (v := ?_) (Or.inl ⟨by rfl, ?_⟩) ?_
        rotate_left 1
        · ((intro w hSw; (try dsimp only at hSw); unfold cfuser1_19; go_simp) <;> with_reducible rfl)
        (try simp only [Act.put, List.setIfInBounds_toArray, List.set_cons_zero, List.set_cons_succ])
        refine wpAnyH_done (by kernel_rfl) ?_ _
        clear hHeld
        have kvV0 : Sees V0 (w.heap.size + 1) W31 := sees_kept _ KV37.out
        go_wp2_with fail
        clear kvV0
        obtain ⟨W41, h42⟩ : ∃ x, World.drew W31 = x := ⟨_, rfl⟩
        have k43 : Kept W31 W41 := by rw [← h42]; exact kept_drew (kept_refl _)
        have Kk44 := Lib.hid k43
        clear k43
        refine wp_region_held_drew (S := Sees W41 (w.heap.size + 1)) (by kernel_rfl) ?_ (fun hHeld => ?_)
        · (try dsimp only)
          rw [h42]
          exact sees_kept _ (kept_refl _)
        rw [h42] at hHeld ⊢
        clear h42
        refine take_at 0 27 cfuser2_0 (v := ?_) (Or.inl ⟨by rfl, ?_⟩) ?_
        rotate_left 1
        · ((intro w hSw; (try dsimp only at hSw); unfold cfuser2_0; go_simp) <;> with_reducible rfl)
        (try simp only [Act.put, List.setIfInBounds_toArray, List.set_cons_zero, List.set_cons_succ])
        refine take_at 1 28 cfuser2_1 (v := ?_) (Or.inl ⟨by rfl, ?_⟩) ?_
        rotate_left 1
        · ((intro w hSw; (try dsimp only at hSw); unfold cfuser2_1; go_simp) <;> with_reducible rfl)
        (try simp only [Act.put, List.setIfInBounds_toArray, List.set_cons_zero, List.set_cons_succ])
        refine take_at 2 29 cfuser2_2 (v := ?_) (Or.inl ⟨by rfl, ?_⟩) ?_
        rotate_left 1
        · ((intro w hSw; (try dsimp only at hSw); have qV0 := sees_of (kept_trans Kk11.out (kept_trans Kk20.out (kept_trans Kk29.out (kept_trans Kk33.out Kk44.out)))) hSw; unfold cfuser2_2; go_simp) <;> with_reducible rfl)
        (try simp only [Act.put, List.setIfInBounds_toArray, List.set_cons_zero, List.set_cons_succ])
        refine take_at 3 30 cfuser2_3 (v := ?_) (Or.inl ⟨by rfl, ?_⟩) ?_
        rotate_left 1
        · ((intro w hSw; (try dsimp only at hSw); unfold cfuser2_3; go_simp) <;> with_reducible rfl)
        (try simp only [Act.put, List.setIfInBounds_toArray, List.set_cons_zero, List.set_cons_succ])
        refine take_at 4 31 cfuser2_4 (v := ?_) (Or.inl ⟨by rfl, ?_⟩) ?_
        rotate_left 1
        · ((intro w hSw; (try dsimp only at hSw); have qV0 := sees_of (kept_trans Kk11.out (kept_trans Kk20.out (kept_trans Kk29.out (kept_trans Kk33.out Kk44.out)))) hSw; unfold cfuser2_4; go_simp) <;> with_reducible rfl)
        (try simp only [Act.put, List.setIfInBounds_toArray, List.set_cons_zero, List.set_cons_succ])
        refine take_at 5 32 cfuser2_5 (v := ?_) (Or.inl ⟨by rfl, ?_⟩) ?_
        rotate_left 1
        · ((intro w hSw; (try dsimp only at hSw); unfold cfuser2_5; go_simp) <;> with_reducible rfl)
        (try simp only [Act.put, List.setIfInBounds_toArray, List.set_cons_zero, List.set_cons_succ])
        refine take_at 6 33 cfuser2_6 (v := ?_) (Or.inl ⟨by rfl, ?_⟩) ?_
        rotate_left 1
        · ((intro w hSw; (try dsimp only at hSw); unfold cfuser2_6; go_simp) <;> with_reducible rfl)
        (try simp only [Act.put, List.setIfInBounds_toArray, List.set_cons_zero, List.set_cons_succ])
        refine wpAnyH_ready (rs := [7]) (by kernel_rfl) (by simp) ?_
        refine AllReadyH.cons (o := cfuser2_7) rfl (fun K hK => ?_) ?_
        · unfold cfuser2_7
          refine step_append_list rfl (.tmp 32) (.tmp 33) rfl [g.a, g.c, g.e, U19, U28, g.f] more (.slice (some ⟨g35, 0, none⟩) 6 6) (.slice amore more.length cmore) rfl rfl (HR39.out.later Kk44.out) (HLmore.out.later (kept_trans Kk11.out (kept_trans Kk20.out (kept_trans Kk29.out (kept_trans Kk33.out Kk44.out))))) ⟨_, rfl⟩ (Nat.le_of_ble_eq_true rfl) (app_len2 (Nat.le_of_ble_eq_true rfl) Hmn.out) ?_
          intro s47 w45 hl48 k46
          obtain ⟨a49, c50, S51, rfl, -⟩ := hl48.out
          have Kk52 := Lib.hid k46
          clear k46
          have Hhl48 : Hid (LiesQ w45 (Par w V0.heap.size [] P) ([g.a, g.c, g.e, U19, U28, g.f] ++ more) _) := par_give hl48 (Below.size (kept_trans Kk11.out (kept_trans Kk20.out (kept_trans Kk29.out (kept_trans Kk33.out Kk44.out))))) (xlt_nil _)
          clear hl48
          clear hHeld
          refine hK.out _ _ (sees_kept _ Kk52.out) (fun hHeld => ?_)
          clear hK K
          (try simp only [Act.put, List.setIfInBounds_toArray, List.set_cons_zero, List.set_cons_succ])
          refine wpAnyH_ready (rs := [8]) (by kernel_rfl) (by simp) ?_
          refine AllReadyH.cons (o := cfuser2_8) rfl (fun K hK => ?_) ?_
          · unfold cfuser2_8
            go_simp
            refine (cuse_any n g.i g.j ([g.a, g.c, g.e, U19, U28, g.f] ++ more) (Par w V0.heap.size [] P) _ (.slice a49 (List.length ([g.a, g.c, g.e, U19, U28, g.f] ++ more)) c50) Rn.out Gg.out.1 Gg.out.2.1 Hhl48.out (plain_app (fun x hx => by
              simp only [List.mem_cons, List.not_mem_nil, or_false] at hx
              rcases hx with rfl | rfl | rfl | rfl | rfl | rfl
              · exact (fmR_pl HRg.out _ (by simp))
              · exact (fmR_pl HRg.out _ (by simp))
              · exact (fmR_pl HRg.out _ (by simp))
              · exact (by rw [← HU19.out]; exact (node_plain (by rfl) (by rfl) (by rfl) (fun x hx => by
              simp only [List.mem_cons, List.not_mem_nil, or_false] at hx
              rcases hx with rfl | rfl
              · exact (fmR_pl HRg.out _ (by simp))
              · exact (fmR_pl HRg.out _ (by simp)))))
              · exact (by rw [← HU28.out]; exact (node_plain (by rfl) (by rfl) (by rfl) (fun x hx => by
              simp only [List.mem_cons, List.not_mem_nil, or_false] at hx
              rcases hx with rfl | rfl
              · exact (fmR_pl HRg.out _ (by simp))
              · exact (fmR_pl HRg.out _ (by simp)))))
              · exact (fmR_pl HRg.out _ (by simp))) Hmp.out) (app_len (Nat.le_of_ble_eq_true rfl) Hmn.out)).mono ?_
            obtain ⟨U60, hU60⟩ : ∃ qu, useT n g.i g.j ([g.a, g.c, g.e, U19, U28, g.f] ++ more) = qu := ⟨_, rfl⟩
            rw [hU60]
            have HU60 := Lib.hid hU60
            clear hU60
            rintro e w53 ⟨s55, rfl, hl56, k54⟩
            obtain ⟨a57, c58, S59, rfl, -⟩ := hl56.out
            have Kk61 := Lib.hid k54
            clear k54
            have Hhl56 : Hid (LiesQ w53 (Par w V0.heap.size [] P) U60.kids _) := par_give hl56 (Below.size (kept_trans Kk11.out (kept_trans Kk20.out (kept_trans Kk29.out (kept_trans Kk33.out (kept_trans Kk44.out Kk52.out)))))) (xlt_nil _)
            clear hl56
            clear hHeld
            refine hK.out _ _ (sees_kept _ (kept_trans Kk52.out Kk61.out)) (fun hHeld => ?_)
            clear hK K
            (try simp only [Act.put, List.setIfInBounds_toArray, List.set_cons_zero, List.set_cons_succ])
            refine wpAnyH_ready (rs := [9]) (by kernel_rfl) (by simp) ?_
            refine AllReadyH.cons (o := cfuser2_9) rfl (fun K hK => ?_) ?_
            · unfold cfuser2_9
              refine step_store_part rfl 32 (.tmp 6) (.tmp 35) rfl (w.heap.size + 1) 0 #[.int .i64 U60.k, .int .i64 U60.i, .int .i64 U60.j, .int .i64 U60.n, (.slice a57 U60.kids.length c58)] rfl rfl 32 size_term (row_ok rfl) _ #[.int .i64 U60.k, .int .i64 U60.i, .int .i64 U60.j, .int .i64 U60.n, (.slice a57 U60.kids.length c58)] (blk_at Hx2.out (kept_trans Kk11.out (kept_trans Kk20.out (kept_trans Kk29.out (kept_trans Kk33.out (kept_trans Kk44.out (kept_trans Kk52.out Kk61.out))))))) rfl (Nat.le_of_ble_eq_true rfl) ?_
              intro W62 hW62
              clear hHeld
              refine hK.out _ _ (sees_set (kept_trans Kk52.out Kk61.out) hW62) (fun hHeld => ?_)
              clear hK K
              (try simp only [Act.put])
              refine wpAnyH_done (by kernel_rfl) ?_ _
              clear hHeld
              go_wp2_with fail
              refine bodyPost_ret (results_cell_row rfl _ _ (w.heap.size + 1) 32 _ _ du rfl (blk_same (blk_at Hx2.out (kept_trans Kk11.out (kept_trans Kk20.out (kept_trans Kk29.out (kept_trans Kk33.out (kept_trans Kk44.out (kept_trans Kk52.out Kk61.out))))))) hW62) hu1 (by cases du <;> first | rfl | exact hu2) size_term) rfl ?_
              rw [show sixT n g more = U60 from by unfold sixT; rw [← HU60.out]; rw [← HU28.out]; rw [← HU19.out]; (try rfl)]
              exact ⟨_, rfl, par_end (par_row' Hhl56.out hW62 (by omega) (by have := Z0.out; omega)) (by have := Z0.out; omega), kept_set (kept_trans Kk5.out (kept_trans Kk11.out (kept_trans Kk20.out (kept_trans Kk29.out (kept_trans Kk33.out (kept_trans Kk44.out (kept_trans Kk52.out Kk61.out))))))) hW62 (by omega)⟩
            exact AllReadyH.nil
          exact AllReadyH.nil
        exact AllReadyH.nil
      exact AllReadyH.nil
    exact AllReadyH.nil
  exact AllReadyH.nil

def cfreshr1_0 : Oper := { dst := some 3, op := Go.Op.fieldAddr 51 (Go.Operand.tmp 1) 1, type := 0, pos := "cong.go:141", after := #[], guard := none }
def cfreshr1_1 : Oper := { dst := some 4, op := Go.Op.load 32 (Go.Operand.tmp 3), type := 32, pos := "cong.go:141", after := #[{ on := 0, ground := Go.Ground.data }], guard := none }
def cfreshr1_2 : Oper := { dst := some 5, op := Go.Op.call { callee := Go.Callee.value (Go.Operand.func 92), args := #[Go.Operand.tmp 4], argTypes := #[32] }, type := 32, pos := "cong.go:141", after := #[{ on := 1, ground := Go.Ground.data }], guard := none }
def cfreshr1_3 : Oper := { dst := some 6, op := Go.Op.fieldAddr 51 (Go.Operand.tmp 1) 2, type := 0, pos := "cong.go:141", after := #[], guard := none }
def cfreshr1_4 : Oper := { dst := some 7, op := Go.Op.load 32 (Go.Operand.tmp 6), type := 32, pos := "cong.go:141", after := #[{ on := 3, ground := Go.Ground.data }], guard := none }
def cfreshr1_5 : Oper := { dst := some 8, op := Go.Op.call { callee := Go.Callee.value (Go.Operand.func 92), args := #[Go.Operand.tmp 7], argTypes := #[32] }, type := 32, pos := "cong.go:141", after := #[{ on := 4, ground := Go.Ground.data }, { on := 2, ground := Go.Ground.chain }], guard := none }
def cfreshr1_6 : Oper := { dst := some 9, op := Go.Op.fieldAddr 51 (Go.Operand.tmp 1) 3, type := 0, pos := "cong.go:141", after := #[], guard := none }
def cfreshr1_7 : Oper := { dst := some 10, op := Go.Op.load 32 (Go.Operand.tmp 9), type := 32, pos := "cong.go:141", after := #[{ on := 6, ground := Go.Ground.data }], guard := none }
def cfreshr1_8 : Oper := { dst := some 11, op := Go.Op.call { callee := Go.Callee.value (Go.Operand.func 92), args := #[Go.Operand.tmp 10], argTypes := #[32] }, type := 32, pos := "cong.go:141", after := #[{ on := 7, ground := Go.Ground.data }, { on := 5, ground := Go.Ground.chain }], guard := none }
def cfreshr1_9 : Oper := { dst := some 12, op := Go.Op.fieldAddr 51 (Go.Operand.tmp 1) 4, type := 0, pos := "cong.go:141", after := #[], guard := none }
def cfreshr1_10 : Oper := { dst := some 13, op := Go.Op.load 32 (Go.Operand.tmp 12), type := 32, pos := "cong.go:141", after := #[{ on := 9, ground := Go.Ground.data }], guard := none }
def cfreshr1_11 : Oper := { dst := some 14, op := Go.Op.call { callee := Go.Callee.value (Go.Operand.func 92), args := #[Go.Operand.tmp 13], argTypes := #[32] }, type := 32, pos := "cong.go:141", after := #[{ on := 10, ground := Go.Ground.data }, { on := 8, ground := Go.Ground.chain }], guard := none }
def cfreshr1_12 : Oper := { dst := some 15, op := Go.Op.fieldAddr 51 (Go.Operand.tmp 1) 1, type := 0, pos := "cong.go:141", after := #[{ on := 0, ground := Go.Ground.phase }, { on := 1, ground := Go.Ground.phase }, { on := 2, ground := Go.Ground.phase }, { on := 3, ground := Go.Ground.phase }, { on := 4, ground := Go.Ground.phase }, { on := 5, ground := Go.Ground.textOnly Go.Departure.lateStoresUnsure }, { on := 6, ground := Go.Ground.phase }, { on := 7, ground := Go.Ground.phase }, { on := 8, ground := Go.Ground.textOnly Go.Departure.lateStoresUnsure }, { on := 9, ground := Go.Ground.phase }, { on := 10, ground := Go.Ground.phase }, { on := 11, ground := Go.Ground.textOnly Go.Departure.lateStoresUnsure }], guard := none }
def cfreshr1_13 : Oper := { dst := none, op := Go.Op.store 32 (Go.Operand.tmp 15) (Go.Operand.tmp 5), type := 0, pos := "cong.go:141", after := #[{ on := 12, ground := Go.Ground.data }, { on := 2, ground := Go.Ground.data }, { on := 11, ground := Go.Ground.chain }, { on := 0, ground := Go.Ground.phase }, { on := 1, ground := Go.Ground.phase }, { on := 2, ground := Go.Ground.phase }, { on := 3, ground := Go.Ground.phase }, { on := 4, ground := Go.Ground.phase }, { on := 5, ground := Go.Ground.textOnly Go.Departure.lateStoresUnsure }, { on := 6, ground := Go.Ground.phase }, { on := 7, ground := Go.Ground.phase }, { on := 8, ground := Go.Ground.textOnly Go.Departure.lateStoresUnsure }, { on := 9, ground := Go.Ground.phase }, { on := 10, ground := Go.Ground.phase }, { on := 11, ground := Go.Ground.textOnly Go.Departure.lateStoresUnsure }], guard := none }
def cfreshr1_14 : Oper := { dst := some 16, op := Go.Op.fieldAddr 51 (Go.Operand.tmp 1) 2, type := 0, pos := "cong.go:141", after := #[{ on := 0, ground := Go.Ground.phase }, { on := 1, ground := Go.Ground.phase }, { on := 2, ground := Go.Ground.phase }, { on := 3, ground := Go.Ground.phase }, { on := 4, ground := Go.Ground.phase }, { on := 5, ground := Go.Ground.phase }, { on := 6, ground := Go.Ground.phase }, { on := 7, ground := Go.Ground.phase }, { on := 8, ground := Go.Ground.textOnly Go.Departure.lateStoresUnsure }, { on := 9, ground := Go.Ground.phase }, { on := 10, ground := Go.Ground.phase }, { on := 11, ground := Go.Ground.textOnly Go.Departure.lateStoresUnsure }, { on := 12, ground := Go.Ground.phase }, { on := 13, ground := Go.Ground.phase }], guard := none }
def cfreshr1_15 : Oper := { dst := none, op := Go.Op.store 32 (Go.Operand.tmp 16) (Go.Operand.tmp 8), type := 0, pos := "cong.go:141", after := #[{ on := 14, ground := Go.Ground.data }, { on := 5, ground := Go.Ground.data }, { on := 13, ground := Go.Ground.chain }, { on := 0, ground := Go.Ground.phase }, { on := 1, ground := Go.Ground.phase }, { on := 2, ground := Go.Ground.phase }, { on := 3, ground := Go.Ground.phase }, { on := 4, ground := Go.Ground.phase }, { on := 5, ground := Go.Ground.phase }, { on := 6, ground := Go.Ground.phase }, { on := 7, ground := Go.Ground.phase }, { on := 8, ground := Go.Ground.textOnly Go.Departure.lateStoresUnsure }, { on := 9, ground := Go.Ground.phase }, { on := 10, ground := Go.Ground.phase }, { on := 11, ground := Go.Ground.textOnly Go.Departure.lateStoresUnsure }, { on := 12, ground := Go.Ground.phase }, { on := 13, ground := Go.Ground.phase }], guard := none }
def cfreshr1_16 : Oper := { dst := some 17, op := Go.Op.fieldAddr 51 (Go.Operand.tmp 1) 3, type := 0, pos := "cong.go:141", after := #[{ on := 0, ground := Go.Ground.phase }, { on := 1, ground := Go.Ground.phase }, { on := 2, ground := Go.Ground.phase }, { on := 3, ground := Go.Ground.phase }, { on := 4, ground := Go.Ground.phase }, { on := 5, ground := Go.Ground.phase }, { on := 6, ground := Go.Ground.phase }, { on := 7, ground := Go.Ground.phase }, { on := 8, ground := Go.Ground.phase }, { on := 9, ground := Go.Ground.phase }, { on := 10, ground := Go.Ground.phase }, { on := 11, ground := Go.Ground.textOnly Go.Departure.lateStoresUnsure }, { on := 12, ground := Go.Ground.phase }, { on := 13, ground := Go.Ground.phase }, { on := 14, ground := Go.Ground.phase }, { on := 15, ground := Go.Ground.phase }], guard := none }
def cfreshr1_17 : Oper := { dst := none, op := Go.Op.store 32 (Go.Operand.tmp 17) (Go.Operand.tmp 11), type := 0, pos := "cong.go:141", after := #[{ on := 16, ground := Go.Ground.data }, { on := 8, ground := Go.Ground.data }, { on := 15, ground := Go.Ground.chain }, { on := 0, ground := Go.Ground.phase }, { on := 1, ground := Go.Ground.phase }, { on := 2, ground := Go.Ground.phase }, { on := 3, ground := Go.Ground.phase }, { on := 4, ground := Go.Ground.phase }, { on := 5, ground := Go.Ground.phase }, { on := 6, ground := Go.Ground.phase }, { on := 7, ground := Go.Ground.phase }, { on := 8, ground := Go.Ground.phase }, { on := 9, ground := Go.Ground.phase }, { on := 10, ground := Go.Ground.phase }, { on := 11, ground := Go.Ground.textOnly Go.Departure.lateStoresUnsure }, { on := 12, ground := Go.Ground.phase }, { on := 13, ground := Go.Ground.phase }, { on := 14, ground := Go.Ground.phase }, { on := 15, ground := Go.Ground.phase }], guard := none }
def cfreshr1_18 : Oper := { dst := some 18, op := Go.Op.fieldAddr 51 (Go.Operand.tmp 1) 4, type := 0, pos := "cong.go:141", after := #[{ on := 0, ground := Go.Ground.phase }, { on := 1, ground := Go.Ground.phase }, { on := 2, ground := Go.Ground.phase }, { on := 3, ground := Go.Ground.phase }, { on := 4, ground := Go.Ground.phase }, { on := 5, ground := Go.Ground.phase }, { on := 6, ground := Go.Ground.phase }, { on := 7, ground := Go.Ground.phase }, { on := 8, ground := Go.Ground.phase }, { on := 9, ground := Go.Ground.phase }, { on := 10, ground := Go.Ground.phase }, { on := 11, ground := Go.Ground.phase }, { on := 12, ground := Go.Ground.phase }, { on := 13, ground := Go.Ground.phase }, { on := 14, ground := Go.Ground.phase }, { on := 15, ground := Go.Ground.phase }, { on := 16, ground := Go.Ground.phase }, { on := 17, ground := Go.Ground.phase }], guard := none }
def cfreshr1_19 : Oper := { dst := none, op := Go.Op.store 32 (Go.Operand.tmp 18) (Go.Operand.tmp 14), type := 0, pos := "cong.go:141", after := #[{ on := 18, ground := Go.Ground.data }, { on := 11, ground := Go.Ground.data }, { on := 17, ground := Go.Ground.chain }, { on := 0, ground := Go.Ground.phase }, { on := 1, ground := Go.Ground.phase }, { on := 2, ground := Go.Ground.phase }, { on := 3, ground := Go.Ground.phase }, { on := 4, ground := Go.Ground.phase }, { on := 5, ground := Go.Ground.phase }, { on := 6, ground := Go.Ground.phase }, { on := 7, ground := Go.Ground.phase }, { on := 8, ground := Go.Ground.phase }, { on := 9, ground := Go.Ground.phase }, { on := 10, ground := Go.Ground.phase }, { on := 11, ground := Go.Ground.phase }, { on := 12, ground := Go.Ground.phase }, { on := 13, ground := Go.Ground.phase }, { on := 14, ground := Go.Ground.phase }, { on := 15, ground := Go.Ground.phase }, { on := 16, ground := Go.Ground.phase }, { on := 17, ground := Go.Ground.phase }], guard := none }
set_option maxRecDepth 20000 in
set_option maxHeartbeats 4000000 in
theorem cfresh_any (h : He) (P : Nat → Prop) (w : World) (sha : Value) (shb : Value) (shx : Value) (shy : Value) (shh : Value) (hfh : h.fine) (hlh : HQ w P h sha shb shx shy shh) (hza : h.a.plainB = true ∨ h.a = .zero) (hzb : h.b.plainB = true ∨ h.b = .zero) (hzx : h.x.plainB = true ∨ h.x = .zero) (hzy : h.y.plainB = true ∨ h.y = .zero) : Calls Try.prog 120 #[hv h sha shb shx shy shh] w (GivesHP P h w) := by
  have Gh := Lib.hid hfh
  clear hfh
  obtain ⟨hlha, hlhb, hlhx, hlhy, hlhh⟩ := hlh
  obtain ⟨aha, cha, Sha, rfl, -⟩ := hlha.out
  obtain ⟨ahb, chb, Shb, rfl, -⟩ := hlhb.out
  obtain ⟨ahx, chx, Shx, rfl, -⟩ := hlhx.out
  obtain ⟨ahy, chy, Shy, rfl, -⟩ := hlhy.out
  obtain ⟨ahh, chh, Shh, rfl, -⟩ := hlhh.out
  have Hza := Lib.hid hza
  clear hza
  have Hzb := Lib.hid hzb
  clear hzb
  have Hzx := Lib.hid hzx
  clear hzx
  have Hzy := Lib.hid hzy
  clear hzy
  obtain ⟨du, hu1, hu2⟩ := under_term
  obtain ⟨dh, dh1, dh2⟩ := under_of 51 (by kernel_rfl)
  unfold hv
  go_enter Try.func120, Try.ntmps120
  go_upto_region 1 with fail
  refine at_code (fun V0 hV0 => ?_)
  obtain ⟨k3, x1, x2, z4⟩ := alloc2 hV0
  have Kk5 := Lib.hid k3
  clear k3
  have Hx1 := Lib.hid x1
  have Hx2 := Lib.hid x2
  have Z0 := Lib.hid z4
  clear z4 x1 x2 hV0
  have HLha : Hid (LiesQ V0 (Par w V0.heap.size [] P) h.a.kids _) := (par_in _ _ hlha).later Kk5.out
  clear hlha
  have HLhb : Hid (LiesQ V0 (Par w V0.heap.size [] P) h.b.kids _) := (par_in _ _ hlhb).later Kk5.out
  clear hlhb
  have HLhx : Hid (LiesQ V0 (Par w V0.heap.size [] P) h.x.kids _) := (par_in _ _ hlhx).later Kk5.out
  clear hlhx
  have HLhy : Hid (LiesQ V0 (Par w V0.heap.size [] P) h.y.kids _) := (par_in _ _ hlhy).later Kk5.out
  clear hlhy
  have HLhh : Hid (LiesQ V0 (Par w V0.heap.size [] P) h.h.kids _) := (par_in _ _ hlhh).later Kk5.out
  clear hlhh
  have kvV0 : Sees V0 (w.heap.size + 1) V0 := sees_kept _ (kept_refl _)
  go_wp2_with fail
  clear kvV0
  obtain ⟨W6, h7⟩ : ∃ x, World.drew V0 = x := ⟨_, rfl⟩
  have k8 : Kept V0 W6 := by rw [← h7]; exact kept_drew (kept_refl _)
  have Kk9 := Lib.hid k8
  clear k8
  refine wp_region_X (S := Sees W6 (w.heap.size + 1)) 13 (by kernel_rfl) ?_ (fun hHeld => ?_)
  · (try dsimp only)
    rw [h7]
    exact sees_kept _ (kept_refl _)
  rw [h7] at hHeld ⊢
  clear h7
  refine takeX_any 0 3 cfreshr1_0 (v := ?_) (Or.inl ⟨by rfl, ?_⟩) ?_ (fun _ => hHeld)
  rotate_left 1
  · ((intro w hSw; (try dsimp only at hSw); unfold cfreshr1_0; go_simp) <;> with_reducible rfl)
  (try simp only [Act.put, List.setIfInBounds_toArray, List.set_cons_zero, List.set_cons_succ])
  refine takeX_at 1 4 cfreshr1_1 (yields_part (w.heap.size) 1 32 (.tmp 3) #[.int .i64 h.a.k, .int .i64 h.a.i, .int .i64 h.a.j, .int .i64 h.a.n, (.slice aha h.a.kids.length cha)] du (fun _ h => sees_blk Hx1.out (by have := Z0.out; omega) (sees_of Kk9.out h)) (by rfl) rfl (by rfl) (by rfl) hu1 (by cases du <;> first | rfl | exact hu2) size_term) ?_
  (try simp only [Act.put, List.setIfInBounds_toArray, List.set_cons_zero, List.set_cons_succ])
  refine takeX_any 3 6 cfreshr1_3 (v := ?_) (Or.inl ⟨by rfl, ?_⟩) ?_ (fun _ => hHeld)
  rotate_left 1
  · ((intro w hSw; (try dsimp only at hSw); unfold cfreshr1_3; go_simp) <;> with_reducible rfl)
  (try simp only [Act.put, List.setIfInBounds_toArray, List.set_cons_zero, List.set_cons_succ])
  refine takeX_at 4 7 cfreshr1_4 (yields_part (w.heap.size) 6 32 (.tmp 6) #[.int .i64 h.b.k, .int .i64 h.b.i, .int .i64 h.b.j, .int .i64 h.b.n, (.slice ahb h.b.kids.length chb)] du (fun _ h => sees_blk Hx1.out (by have := Z0.out; omega) (sees_of Kk9.out h)) (by rfl) rfl (by rfl) (by rfl) hu1 (by cases du <;> first | rfl | exact hu2) size_term) ?_
  (try simp only [Act.put, List.setIfInBounds_toArray, List.set_cons_zero, List.set_cons_succ])
  refine takeX_any 6 9 cfreshr1_6 (v := ?_) (Or.inl ⟨by rfl, ?_⟩) ?_ (fun _ => hHeld)
  rotate_left 1
  · ((intro w hSw; (try dsimp only at hSw); unfold cfreshr1_6; go_simp) <;> with_reducible rfl)
  (try simp only [Act.put, List.setIfInBounds_toArray, List.set_cons_zero, List.set_cons_succ])
  refine takeX_at 7 10 cfreshr1_7 (yields_part (w.heap.size) 11 32 (.tmp 9) #[.int .i64 h.x.k, .int .i64 h.x.i, .int .i64 h.x.j, .int .i64 h.x.n, (.slice ahx h.x.kids.length chx)] du (fun _ h => sees_blk Hx1.out (by have := Z0.out; omega) (sees_of Kk9.out h)) (by rfl) rfl (by rfl) (by rfl) hu1 (by cases du <;> first | rfl | exact hu2) size_term) ?_
  (try simp only [Act.put, List.setIfInBounds_toArray, List.set_cons_zero, List.set_cons_succ])
  refine takeX_any 9 12 cfreshr1_9 (v := ?_) (Or.inl ⟨by rfl, ?_⟩) ?_ (fun _ => hHeld)
  rotate_left 1
  · ((intro w hSw; (try dsimp only at hSw); unfold cfreshr1_9; go_simp) <;> with_reducible rfl)
  (try simp only [Act.put, List.setIfInBounds_toArray, List.set_cons_zero, List.set_cons_succ])
  refine takeX_at 10 13 cfreshr1_10 (yields_part (w.heap.size) 16 32 (.tmp 12) #[.int .i64 h.y.k, .int .i64 h.y.i, .int .i64 h.y.j, .int .i64 h.y.n, (.slice ahy h.y.kids.length chy)] du (fun _ h => sees_blk Hx1.out (by have := Z0.out; omega) (sees_of Kk9.out h)) (by rfl) rfl (by rfl) (by rfl) hu1 (by cases du <;> first | rfl | exact hu2) size_term) ?_
  (try simp only [Act.put, List.setIfInBounds_toArray, List.set_cons_zero, List.set_cons_succ])
  refine wpAnyX_ready (rs := [2]) (by kernel_rfl) (by simp) ?_
  refine AllReadyX.cons (o := cfreshr1_2) rfl (fun K hK => ?_) ?_
  · unfold cfreshr1_2
    go_simp
    refine ((copyPZ_any h.a _ (.slice aha h.a.kids.length cha) (HLha.out.later Kk9.out).lies Hza.out).mono (fun _ _ h => h.givesP (P := (Par w V0.heap.size [] P)))).mono ?_
    rintro e w10 ⟨s12, rfl, hl13, k11⟩
    obtain ⟨a14, c15, S16, rfl, -⟩ := hl13.out
    have Kk17 := Lib.hid k11
    clear k11
    have Hhl13 : Hid (LiesQ w10 (Par w V0.heap.size [] P) h.a.kids _) := par_give hl13 (Below.size Kk9.out) (xlt_nil _)
    clear hl13
    clear hHeld
    refine hK.out _ _ (fun _ => sees_kept _ Kk17.out) (fun hHeld => ?_)
    replace hHeld := hHeld (by kernel_rfl)
    clear hK K
    (try simp only [Act.put, List.setIfInBounds_toArray, List.set_cons_zero, List.set_cons_succ])
    refine takeX_any 12 15 cfreshr1_12 (v := ?_) (Or.inl ⟨by rfl, ?_⟩) ?_ (fun _ => hHeld)
    rotate_left 1
    · ((intro w hSw; (try dsimp only at hSw); unfold cfreshr1_12; go_simp) <;> with_reducible rfl)
    (try simp only [Act.put, List.setIfInBounds_toArray, List.set_cons_zero, List.set_cons_succ])
    refine wpAnyX_ready (rs := [5]) (by kernel_rfl) (by simp) ?_
    refine AllReadyX.cons (o := cfreshr1_5) rfl (fun K hK => ?_) ?_
    · unfold cfreshr1_5
      go_simp
      refine ((copyPZ_any h.b _ (.slice ahb h.b.kids.length chb) (HLhb.out.later (kept_trans Kk9.out Kk17.out)).lies Hzb.out).mono (fun _ _ h => h.givesP (P := (Par w V0.heap.size [] P)))).mono ?_
      rintro e w18 ⟨s20, rfl, hl21, k19⟩
      obtain ⟨a22, c23, S24, rfl, -⟩ := hl21.out
      have Kk25 := Lib.hid k19
      clear k19
      have Hhl21 : Hid (LiesQ w18 (Par w V0.heap.size [] P) h.b.kids _) := par_give hl21 (Below.size (kept_trans Kk9.out Kk17.out)) (xlt_nil _)
      clear hl21
      clear hHeld
      refine hK.out _ _ (fun _ => sees_kept _ (kept_trans Kk17.out Kk25.out)) (fun hHeld => ?_)
      replace hHeld := hHeld (by kernel_rfl)
      clear hK K
      (try simp only [Act.put, List.setIfInBounds_toArray, List.set_cons_zero, List.set_cons_succ])
      refine wpAnyX_ready (rs := [8]) (by kernel_rfl) (by simp) ?_
      refine AllReadyX.cons (o := cfreshr1_8) rfl (fun K hK => ?_) ?_
      · unfold cfreshr1_8
        go_simp
        refine ((copyPZ_any h.x _ (.slice ahx h.x.kids.length chx) (HLhx.out.later (kept_trans Kk9.out (kept_trans Kk17.out Kk25.out))).lies Hzx.out).mono (fun _ _ h => h.givesP (P := (Par w V0.heap.size [] P)))).mono ?_
        rintro e w26 ⟨s28, rfl, hl29, k27⟩
        obtain ⟨a30, c31, S32, rfl, -⟩ := hl29.out
        have Kk33 := Lib.hid k27
        clear k27
        have Hhl29 : Hid (LiesQ w26 (Par w V0.heap.size [] P) h.x.kids _) := par_give hl29 (Below.size (kept_trans Kk9.out (kept_trans Kk17.out Kk25.out))) (xlt_nil _)
        clear hl29
        clear hHeld
        refine hK.out _ _ (fun _ => sees_kept _ (kept_trans Kk17.out (kept_trans Kk25.out Kk33.out))) (fun hHeld => ?_)
        replace hHeld := hHeld (by kernel_rfl)
        clear hK K
        (try simp only [Act.put, List.setIfInBounds_toArray, List.set_cons_zero, List.set_cons_succ])
        refine wpAnyX_ready (rs := [11]) (by kernel_rfl) (by simp) ?_
        refine AllReadyX.cons (o := cfreshr1_11) rfl (fun K hK => ?_) ?_
        · unfold cfreshr1_11
          go_simp
          refine ((copyPZ_any h.y _ (.slice ahy h.y.kids.length chy) (HLhy.out.later (kept_trans Kk9.out (kept_trans Kk17.out (kept_trans Kk25.out Kk33.out)))).lies Hzy.out).mono (fun _ _ h => h.givesP (P := (Par w V0.heap.size [] P)))).mono ?_
          rintro e w34 ⟨s36, rfl, hl37, k35⟩
          obtain ⟨a38, c39, S40, rfl, -⟩ := hl37.out
          have Kk41 := Lib.hid k35
          clear k35
          have Hhl37 : Hid (LiesQ w34 (Par w V0.heap.size [] P) h.y.kids _) := par_give hl37 (Below.size (kept_trans Kk9.out (kept_trans Kk17.out (kept_trans Kk25.out Kk33.out)))) (xlt_nil _)
          clear hl37
          clear hHeld
          refine hK.out _ _ (fun _ => sees_kept _ (kept_trans Kk17.out (kept_trans Kk25.out (kept_trans Kk33.out Kk41.out)))) (fun hHeld => ?_)
          replace hHeld := hHeld (by kernel_rfl)
          clear hK K
          (try simp only [Act.put, List.setIfInBounds_toArray, List.set_cons_zero, List.set_cons_succ])
          refine wpAnyX_ready (rs := [13]) (by kernel_rfl) (by simp) ?_
          refine AllReadyX.cons (o := cfreshr1_13) rfl (fun K hK => ?_) ?_
          · unfold cfreshr1_13
            refine step_store_part rfl 32 (.tmp 15) (.tmp 5) rfl (w.heap.size) 1 #[.int .i64 h.a.k, .int .i64 h.a.i, .int .i64 h.a.j, .int .i64 h.a.n, (.slice a14 h.a.kids.length c15)] rfl rfl 51 size_term (row_ok rfl) _ #[.int .i64 h.i, .int .i64 h.a.k, .int .i64 h.a.i, .int .i64 h.a.j, .int .i64 h.a.n, (.slice a14 h.a.kids.length c15), .int .i64 h.b.k, .int .i64 h.b.i, .int .i64 h.b.j, .int .i64 h.b.n, (.slice ahb h.b.kids.length chb), .int .i64 h.x.k, .int .i64 h.x.i, .int .i64 h.x.j, .int .i64 h.x.n, (.slice ahx h.x.kids.length chx), .int .i64 h.y.k, .int .i64 h.y.i, .int .i64 h.y.j, .int .i64 h.y.n, (.slice ahy h.y.kids.length chy), .int .i64 h.h.k, .int .i64 h.h.i, .int .i64 h.h.j, .int .i64 h.h.n, (.slice ahh h.h.kids.length chh)] (blk_at Hx1.out (kept_trans Kk9.out (kept_trans Kk17.out (kept_trans Kk25.out (kept_trans Kk33.out Kk41.out))))) rfl (Nat.le_of_ble_eq_true rfl) ?_
            intro W42 hW42
            have KB43 := Lib.hid (kept_set (kept_trans Kk5.out (kept_trans Kk9.out (kept_trans Kk17.out (kept_trans Kk25.out (kept_trans Kk33.out Kk41.out))))) hW42 (by have := Z0.out; omega))
            have HN44 : Hid (V0.heap.size ≤ W42.heap.size) := by show _ ≤ _; rw [← hW42, setRow_size]; exact (Below.size (kept_trans Kk9.out (kept_trans Kk17.out (kept_trans Kk25.out (kept_trans Kk33.out Kk41.out)))))
            have HL45 : Hid (LiesQ W42 (Par w V0.heap.size [] P) h.a.kids _) := par_row' (HLha.out.later (kept_trans Kk9.out (kept_trans Kk17.out (kept_trans Kk25.out (kept_trans Kk33.out Kk41.out))))) hW42 (by have := Z0.out; omega) (by have := Z0.out; omega)
            have HL46 : Hid (LiesQ W42 (Par w V0.heap.size [] P) h.b.kids _) := par_row' (HLhb.out.later (kept_trans Kk9.out (kept_trans Kk17.out (kept_trans Kk25.out (kept_trans Kk33.out Kk41.out))))) hW42 (by have := Z0.out; omega) (by have := Z0.out; omega)
            have HL47 : Hid (LiesQ W42 (Par w V0.heap.size [] P) h.x.kids _) := par_row' (HLhx.out.later (kept_trans Kk9.out (kept_trans Kk17.out (kept_trans Kk25.out (kept_trans Kk33.out Kk41.out))))) hW42 (by have := Z0.out; omega) (by have := Z0.out; omega)
            have HL48 : Hid (LiesQ W42 (Par w V0.heap.size [] P) h.y.kids _) := par_row' (HLhy.out.later (kept_trans Kk9.out (kept_trans Kk17.out (kept_trans Kk25.out (kept_trans Kk33.out Kk41.out))))) hW42 (by have := Z0.out; omega) (by have := Z0.out; omega)
            have HL49 : Hid (LiesQ W42 (Par w V0.heap.size [] P) h.h.kids _) := par_row' (HLhh.out.later (kept_trans Kk9.out (kept_trans Kk17.out (kept_trans Kk25.out (kept_trans Kk33.out Kk41.out))))) hW42 (by have := Z0.out; omega) (by have := Z0.out; omega)
            have HL50 : Hid (LiesQ W42 (Par w V0.heap.size [] P) h.a.kids _) := par_row' (Hhl13.out.later (kept_trans Kk25.out (kept_trans Kk33.out Kk41.out))) hW42 (by have := Z0.out; omega) (by have := Z0.out; omega)
            have HL51 : Hid (LiesQ W42 (Par w V0.heap.size [] P) h.b.kids _) := par_row' (Hhl21.out.later (kept_trans Kk33.out Kk41.out)) hW42 (by have := Z0.out; omega) (by have := Z0.out; omega)
            have HL52 : Hid (LiesQ W42 (Par w V0.heap.size [] P) h.x.kids _) := par_row' (Hhl29.out.later Kk41.out) hW42 (by have := Z0.out; omega) (by have := Z0.out; omega)
            have HL53 : Hid (LiesQ W42 (Par w V0.heap.size [] P) h.y.kids _) := par_row' Hhl37.out hW42 (by have := Z0.out; omega) (by have := Z0.out; omega)
            have XL54 := Lib.hid (xlt_set (xlt_nil _) hW42)
            have HX55 := Lib.hid (blk_same (blk_at Hx1.out (kept_trans Kk9.out (kept_trans Kk17.out (kept_trans Kk25.out (kept_trans Kk33.out Kk41.out))))) hW42)
            have HX56 := Lib.hid (blk_other (blk_at Hx2.out (kept_trans Kk9.out (kept_trans Kk17.out (kept_trans Kk25.out (kept_trans Kk33.out Kk41.out))))) hW42 (by have := Z0.out; omega))
            clear hW42
            clear hHeld
            refine hK.out _ _ (fun h => Bool.noConfusion (show true = false from h)) (fun _ => ?_)
            clear hK K
            (try simp only [Act.put])
            refine takeX_any 14 16 cfreshr1_14 (v := ?_) (Or.inl ⟨by rfl, ?_⟩) ?_ (fun h => Bool.noConfusion (show true = false from h))
            rotate_left 1
            · ((intro w hSw; (try dsimp only at hSw); unfold cfreshr1_14; go_simp) <;> with_reducible rfl)
            (try simp only [Act.put, List.setIfInBounds_toArray, List.set_cons_zero, List.set_cons_succ])
            refine wpAnyX_ready (rs := [15]) (by kernel_rfl) (by simp) ?_
            refine AllReadyX.cons (o := cfreshr1_15) rfl (fun K hK => ?_) ?_
            · unfold cfreshr1_15
              refine step_store_part rfl 32 (.tmp 16) (.tmp 8) rfl (w.heap.size) 6 #[.int .i64 h.b.k, .int .i64 h.b.i, .int .i64 h.b.j, .int .i64 h.b.n, (.slice a22 h.b.kids.length c23)] rfl rfl 51 size_term (row_ok rfl) _ #[.int .i64 h.i, .int .i64 h.a.k, .int .i64 h.a.i, .int .i64 h.a.j, .int .i64 h.a.n, (.slice a14 h.a.kids.length c15), .int .i64 h.b.k, .int .i64 h.b.i, .int .i64 h.b.j, .int .i64 h.b.n, (.slice a22 h.b.kids.length c23), .int .i64 h.x.k, .int .i64 h.x.i, .int .i64 h.x.j, .int .i64 h.x.n, (.slice ahx h.x.kids.length chx), .int .i64 h.y.k, .int .i64 h.y.i, .int .i64 h.y.j, .int .i64 h.y.n, (.slice ahy h.y.kids.length chy), .int .i64 h.h.k, .int .i64 h.h.i, .int .i64 h.h.j, .int .i64 h.h.n, (.slice ahh h.h.kids.length chh)] HX55.out rfl (Nat.le_of_ble_eq_true rfl) ?_
              intro W57 hW57
              have KB58 := Lib.hid (kept_set KB43.out hW57 (by have := Z0.out; omega))
              have HN59 : Hid (V0.heap.size ≤ W57.heap.size) := by show _ ≤ _; rw [← hW57, setRow_size]; exact HN44.out
              have HL60 : Hid (LiesQ W57 (Par w V0.heap.size [] P) h.a.kids _) := par_row' HL45.out hW57 (by have := Z0.out; omega) (by have := Z0.out; omega)
              have HL61 : Hid (LiesQ W57 (Par w V0.heap.size [] P) h.b.kids _) := par_row' HL46.out hW57 (by have := Z0.out; omega) (by have := Z0.out; omega)
              have HL62 : Hid (LiesQ W57 (Par w V0.heap.size [] P) h.x.kids _) := par_row' HL47.out hW57 (by have := Z0.out; omega) (by have := Z0.out; omega)
              have HL63 : Hid (LiesQ W57 (Par w V0.heap.size [] P) h.y.kids _) := par_row' HL48.out hW57 (by have := Z0.out; omega) (by have := Z0.out; omega)
              have HL64 : Hid (LiesQ W57 (Par w V0.heap.size [] P) h.h.kids _) := par_row' HL49.out hW57 (by have := Z0.out; omega) (by have := Z0.out; omega)
              have HL65 : Hid (LiesQ W57 (Par w V0.heap.size [] P) h.a.kids _) := par_row' HL50.out hW57 (by have := Z0.out; omega) (by have := Z0.out; omega)
              have HL66 : Hid (LiesQ W57 (Par w V0.heap.size [] P) h.b.kids _) := par_row' HL51.out hW57 (by have := Z0.out; omega) (by have := Z0.out; omega)
              have HL67 : Hid (LiesQ W57 (Par w V0.heap.size [] P) h.x.kids _) := par_row' HL52.out hW57 (by have := Z0.out; omega) (by have := Z0.out; omega)
              have HL68 : Hid (LiesQ W57 (Par w V0.heap.size [] P) h.y.kids _) := par_row' HL53.out hW57 (by have := Z0.out; omega) (by have := Z0.out; omega)
              have XL69 := Lib.hid (xlt_set XL54.out hW57)
              have HX70 := Lib.hid (blk_same HX55.out hW57)
              have HX71 := Lib.hid (blk_other HX56.out hW57 (by have := Z0.out; omega))
              clear hW57
              refine hK.out _ _ (fun h => Bool.noConfusion (show true = false from h)) (fun _ => ?_)
              clear hK K
              (try simp only [Act.put])
              refine takeX_any 16 17 cfreshr1_16 (v := ?_) (Or.inl ⟨by rfl, ?_⟩) ?_ (fun h => Bool.noConfusion (show true = false from h))
              rotate_left 1
              · ((intro w hSw; (try dsimp only at hSw); unfold cfreshr1_16; go_simp) <;> with_reducible rfl)
              (try simp only [Act.put, List.setIfInBounds_toArray, List.set_cons_zero, List.set_cons_succ])
              refine wpAnyX_ready (rs := [17]) (by kernel_rfl) (by simp) ?_
              refine AllReadyX.cons (o := cfreshr1_17) rfl (fun K hK => ?_) ?_
              · unfold cfreshr1_17
                refine step_store_part rfl 32 (.tmp 17) (.tmp 11) rfl (w.heap.size) 11 #[.int .i64 h.x.k, .int .i64 h.x.i, .int .i64 h.x.j, .int .i64 h.x.n, (.slice a30 h.x.kids.length c31)] rfl rfl 51 size_term (row_ok rfl) _ #[.int .i64 h.i, .int .i64 h.a.k, .int .i64 h.a.i, .int .i64 h.a.j, .int .i64 h.a.n, (.slice a14 h.a.kids.length c15), .int .i64 h.b.k, .int .i64 h.b.i, .int .i64 h.b.j, .int .i64 h.b.n, (.slice a22 h.b.kids.length c23), .int .i64 h.x.k, .int .i64 h.x.i, .int .i64 h.x.j, .int .i64 h.x.n, (.slice a30 h.x.kids.length c31), .int .i64 h.y.k, .int .i64 h.y.i, .int .i64 h.y.j, .int .i64 h.y.n, (.slice ahy h.y.kids.length chy), .int .i64 h.h.k, .int .i64 h.h.i, .int .i64 h.h.j, .int .i64 h.h.n, (.slice ahh h.h.kids.length chh)] HX70.out rfl (Nat.le_of_ble_eq_true rfl) ?_
                intro W72 hW72
                have KB73 := Lib.hid (kept_set KB58.out hW72 (by have := Z0.out; omega))
                have HN74 : Hid (V0.heap.size ≤ W72.heap.size) := by show _ ≤ _; rw [← hW72, setRow_size]; exact HN59.out
                have HL75 : Hid (LiesQ W72 (Par w V0.heap.size [] P) h.a.kids _) := par_row' HL60.out hW72 (by have := Z0.out; omega) (by have := Z0.out; omega)
                have HL76 : Hid (LiesQ W72 (Par w V0.heap.size [] P) h.b.kids _) := par_row' HL61.out hW72 (by have := Z0.out; omega) (by have := Z0.out; omega)
                have HL77 : Hid (LiesQ W72 (Par w V0.heap.size [] P) h.x.kids _) := par_row' HL62.out hW72 (by have := Z0.out; omega) (by have := Z0.out; omega)
                have HL78 : Hid (LiesQ W72 (Par w V0.heap.size [] P) h.y.kids _) := par_row' HL63.out hW72 (by have := Z0.out; omega) (by have := Z0.out; omega)
                have HL79 : Hid (LiesQ W72 (Par w V0.heap.size [] P) h.h.kids _) := par_row' HL64.out hW72 (by have := Z0.out; omega) (by have := Z0.out; omega)
                have HL80 : Hid (LiesQ W72 (Par w V0.heap.size [] P) h.a.kids _) := par_row' HL65.out hW72 (by have := Z0.out; omega) (by have := Z0.out; omega)
                have HL81 : Hid (LiesQ W72 (Par w V0.heap.size [] P) h.b.kids _) := par_row' HL66.out hW72 (by have := Z0.out; omega) (by have := Z0.out; omega)
                have HL82 : Hid (LiesQ W72 (Par w V0.heap.size [] P) h.x.kids _) := par_row' HL67.out hW72 (by have := Z0.out; omega) (by have := Z0.out; omega)
                have HL83 : Hid (LiesQ W72 (Par w V0.heap.size [] P) h.y.kids _) := par_row' HL68.out hW72 (by have := Z0.out; omega) (by have := Z0.out; omega)
                have XL84 := Lib.hid (xlt_set XL69.out hW72)
                have HX85 := Lib.hid (blk_same HX70.out hW72)
                have HX86 := Lib.hid (blk_other HX71.out hW72 (by have := Z0.out; omega))
                clear hW72
                refine hK.out _ _ (fun h => Bool.noConfusion (show true = false from h)) (fun _ => ?_)
                clear hK K
                (try simp only [Act.put])
                refine takeX_any 18 18 cfreshr1_18 (v := ?_) (Or.inl ⟨by rfl, ?_⟩) ?_ (fun h => Bool.noConfusion (show true = false from h))
                rotate_left 1
                · ((intro w hSw; (try dsimp only at hSw); unfold cfreshr1_18; go_simp) <;> with_reducible rfl)
                (try simp only [Act.put, List.setIfInBounds_toArray, List.set_cons_zero, List.set_cons_succ])
                refine wpAnyX_ready (rs := [19]) (by kernel_rfl) (by simp) ?_
                refine AllReadyX.cons (o := cfreshr1_19) rfl (fun K hK => ?_) ?_
                · unfold cfreshr1_19
                  refine step_store_part rfl 32 (.tmp 18) (.tmp 14) rfl (w.heap.size) 16 #[.int .i64 h.y.k, .int .i64 h.y.i, .int .i64 h.y.j, .int .i64 h.y.n, (.slice a38 h.y.kids.length c39)] rfl rfl 51 size_term (row_ok rfl) _ #[.int .i64 h.i, .int .i64 h.a.k, .int .i64 h.a.i, .int .i64 h.a.j, .int .i64 h.a.n, (.slice a14 h.a.kids.length c15), .int .i64 h.b.k, .int .i64 h.b.i, .int .i64 h.b.j, .int .i64 h.b.n, (.slice a22 h.b.kids.length c23), .int .i64 h.x.k, .int .i64 h.x.i, .int .i64 h.x.j, .int .i64 h.x.n, (.slice a30 h.x.kids.length c31), .int .i64 h.y.k, .int .i64 h.y.i, .int .i64 h.y.j, .int .i64 h.y.n, (.slice a38 h.y.kids.length c39), .int .i64 h.h.k, .int .i64 h.h.i, .int .i64 h.h.j, .int .i64 h.h.n, (.slice ahh h.h.kids.length chh)] HX85.out rfl (Nat.le_of_ble_eq_true rfl) ?_
                  intro W87 hW87
                  have KB88 := Lib.hid (kept_set KB73.out hW87 (by have := Z0.out; omega))
                  have HN89 : Hid (V0.heap.size ≤ W87.heap.size) := by show _ ≤ _; rw [← hW87, setRow_size]; exact HN74.out
                  have HL90 : Hid (LiesQ W87 (Par w V0.heap.size [] P) h.a.kids _) := par_row' HL75.out hW87 (by have := Z0.out; omega) (by have := Z0.out; omega)
                  have HL91 : Hid (LiesQ W87 (Par w V0.heap.size [] P) h.b.kids _) := par_row' HL76.out hW87 (by have := Z0.out; omega) (by have := Z0.out; omega)
                  have HL92 : Hid (LiesQ W87 (Par w V0.heap.size [] P) h.x.kids _) := par_row' HL77.out hW87 (by have := Z0.out; omega) (by have := Z0.out; omega)
                  have HL93 : Hid (LiesQ W87 (Par w V0.heap.size [] P) h.y.kids _) := par_row' HL78.out hW87 (by have := Z0.out; omega) (by have := Z0.out; omega)
                  have HL94 : Hid (LiesQ W87 (Par w V0.heap.size [] P) h.h.kids _) := par_row' HL79.out hW87 (by have := Z0.out; omega) (by have := Z0.out; omega)
                  have HL95 : Hid (LiesQ W87 (Par w V0.heap.size [] P) h.a.kids _) := par_row' HL80.out hW87 (by have := Z0.out; omega) (by have := Z0.out; omega)
                  have HL96 : Hid (LiesQ W87 (Par w V0.heap.size [] P) h.b.kids _) := par_row' HL81.out hW87 (by have := Z0.out; omega) (by have := Z0.out; omega)
                  have HL97 : Hid (LiesQ W87 (Par w V0.heap.size [] P) h.x.kids _) := par_row' HL82.out hW87 (by have := Z0.out; omega) (by have := Z0.out; omega)
                  have HL98 : Hid (LiesQ W87 (Par w V0.heap.size [] P) h.y.kids _) := par_row' HL83.out hW87 (by have := Z0.out; omega) (by have := Z0.out; omega)
                  have XL99 := Lib.hid (xlt_set XL84.out hW87)
                  have HX100 := Lib.hid (blk_same HX85.out hW87)
                  have HX101 := Lib.hid (blk_other HX86.out hW87 (by have := Z0.out; omega))
                  clear hW87
                  refine hK.out _ _ (fun h => Bool.noConfusion (show true = false from h)) (fun _ => ?_)
                  clear hK K
                  (try simp only [Act.put])
                  refine wpAnyX_done (by kernel_rfl) ?_ _
                  have kvW87 : Sees W87 (w.heap.size + 1) W87 := sees_kept _ (kept_refl _)
                  go_wp2_with (refine stop_load 51 (.tmp 1) rfl ?_)
                  intro _
                  refine wpList_load_part (w.heap.size) 0 51 (.tmp 1) #[.int .i64 h.i, .int .i64 h.a.k, .int .i64 h.a.i, .int .i64 h.a.j, .int .i64 h.a.n, (.slice a14 h.a.kids.length c15), .int .i64 h.b.k, .int .i64 h.b.i, .int .i64 h.b.j, .int .i64 h.b.n, (.slice a22 h.b.kids.length c23), .int .i64 h.x.k, .int .i64 h.x.i, .int .i64 h.x.j, .int .i64 h.x.n, (.slice a30 h.x.kids.length c31), .int .i64 h.y.k, .int .i64 h.y.i, .int .i64 h.y.j, .int .i64 h.y.n, (.slice a38 h.y.kids.length c39), .int .i64 h.h.k, .int .i64 h.h.i, .int .i64 h.h.j, .int .i64 h.h.n, (.slice ahh h.h.kids.length chh)] dh HX100.out (by rfl) rfl (by rfl) (by rfl) dh1 (by cases dh <;> first | rfl | exact dh2) (by kernel_rfl) ?_
                  go_wp2_with (refine stop_store 51 (.tmp 2) (.tmp 19) rfl ?_)
                  intro _
                  refine wpList_store_part_n (by rfl) 51 (.tmp 2) (.tmp 19) rfl (w.heap.size + 1) 0 #[.int .i64 h.i, .int .i64 h.a.k, .int .i64 h.a.i, .int .i64 h.a.j, .int .i64 h.a.n, (.slice a14 h.a.kids.length c15), .int .i64 h.b.k, .int .i64 h.b.i, .int .i64 h.b.j, .int .i64 h.b.n, (.slice a22 h.b.kids.length c23), .int .i64 h.x.k, .int .i64 h.x.i, .int .i64 h.x.j, .int .i64 h.x.n, (.slice a30 h.x.kids.length c31), .int .i64 h.y.k, .int .i64 h.y.i, .int .i64 h.y.j, .int .i64 h.y.n, (.slice a38 h.y.kids.length c39), .int .i64 h.h.k, .int .i64 h.h.i, .int .i64 h.h.j, .int .i64 h.h.n, (.slice ahh h.h.kids.length chh)] (by rfl) (by rfl) 51 (by kernel_rfl) (row_ok rfl) ?_
                  intro W102 hW102
                  clear kvW87
                  subst hW102
                  refine ⟨_, #[.int .i64 h.i, .int .i64 h.a.k, .int .i64 h.a.i, .int .i64 h.a.j, .int .i64 h.a.n, (.slice a14 h.a.kids.length c15), .int .i64 h.b.k, .int .i64 h.b.i, .int .i64 h.b.j, .int .i64 h.b.n, (.slice a22 h.b.kids.length c23), .int .i64 h.x.k, .int .i64 h.x.i, .int .i64 h.x.j, .int .i64 h.x.n, (.slice a30 h.x.kids.length c31), .int .i64 h.y.k, .int .i64 h.y.i, .int .i64 h.y.j, .int .i64 h.y.n, (.slice a38 h.y.kids.length c39), .int .i64 h.h.k, .int .i64 h.h.i, .int .i64 h.h.j, .int .i64 h.h.n, (.slice ahh h.h.kids.length chh)], HX101.out, rfl, Nat.le_of_ble_eq_true rfl, ?_⟩
                  intro W103 hW103
                  go_wp2_with fail
                  refine bodyPost_ret (results_cell_row rfl _ _ (w.heap.size + 1) 51 _ _ dh rfl (blk_same HX101.out hW103) dh1 (by cases dh <;> first | rfl | exact dh2) (by kernel_rfl)) rfl ?_
                  exact ⟨_, _, _, _, _, rfl, ⟨par_end (par_row' HL95.out hW103 (by omega) (by have := Z0.out; omega)) (by have := Z0.out; omega), par_end (par_row' HL96.out hW103 (by omega) (by have := Z0.out; omega)) (by have := Z0.out; omega), par_end (par_row' HL97.out hW103 (by omega) (by have := Z0.out; omega)) (by have := Z0.out; omega), par_end (par_row' HL98.out hW103 (by omega) (by have := Z0.out; omega)) (by have := Z0.out; omega), par_end (par_row' HL94.out hW103 (by omega) (by have := Z0.out; omega)) (by have := Z0.out; omega)⟩, kept_set KB88.out hW103 (by omega)⟩
                exact AllReadyX.nil
              exact AllReadyX.nil
            exact AllReadyX.nil
          exact AllReadyX.nil
        exact AllReadyX.nil
      exact AllReadyX.nil
    exact AllReadyX.nil
  exact AllReadyX.nil

end Go.Proofs.Ytkdceahmknhojaa

namespace Go.Proofs.Ytkdceahmknhojaa
open Go.RowKit

/-- A test that may be true; what it says if it is not. -/
def GivesG (p : Prop) (w : World) (e : Ending) (w' : World) : Prop := ∃ g : Bool, e = .returned (.bool g) ∧ (g = false → p) ∧ Kept w w'

end Go.Proofs.Ytkdceahmknhojaa

namespace Go.Proofs.Ytkdceahmknhojaa
open Go.RowKit

set_option maxHeartbeats 1000000 in
theorem greats9_any (l : List Tm) (M : Nat) (hM : M ≤ 10000) (w : World) (ls : Value) (hl : Lies w l ls) :
    Calls Try.prog 53 #[ls, .int .i64 (M : Int)] w (GivesG (l.length ≤ M ∧ ∀ u ∈ l, u.deep ≤ 99999) w) := by
  obtain ⟨a, cap, S, rfl, hc, hm, -, hn, hk⟩ := hl.out
  unfold maxLen at hm
  have HN := Lib.hid hn
  have HK := Lib.hid hk
  clear hl hn hk
  go_enter Try.func53, Try.ntmps53
  by_cases hlen : M < l.length
  · have e1 : decide ((M : Int) < (l.length : Int)) = true := decide_eq_true (by omega)
    have e2 : decide (M < l.length) = true := decide_eq_true hlen
    go_wp2
    go_ret
    exact ⟨true, rfl, (fun h => by cases h), Below.refl _ _⟩
  have e1 : decide ((M : Int) < (l.length : Int)) = false := decide_eq_false (by omega)
  have e2 : decide (M < l.length) = false := decide_eq_false hlen
  go_wp2
  go_loopw [5, 6] (fun nv iv wr => ∃ (k : Nat) (n : Int), k ≤ l.length ∧ iv = .int .i64 k ∧ nv = .int .i64 n ∧ 0 ≤ n ∧ n ≤ (M : Int) + 1 ∧ Hid (n ≤ (M : Int) → ∀ j (h : j < l.length), j < k → (l[j]).deep ≤ 201) ∧ Kept w wr) (fun _ i _ => l.length - (intOf i).toNat)
  case atStart => exact ⟨0, 0, Nat.zero_le _, rfl, rfl, by omega, by omega, fun _ j _ h => by omega, kept_start _⟩
  case round =>
    obtain ⟨k, n, hk, rfl, rfl, hn1, hn2, hrel, hb⟩ := hrel
    by_cases hlt : k < l.length
    · by_cases hnm : n ≤ (M : Int)
      · obtain ⟨b, o, rfl, hx⟩ := HN.out k hlt
        obtain ⟨c0, c1, c2, c3, c4⟩ := hx.below hb hx.lt
        have hq := HK.out k hlt
        obtain ⟨a', cap', S', hS, -⟩ := hq.out
        rw [hS] at c4 hq
        have HQ := Lib.hid (hq.keep hb)
        clear hS hq
        go_wp2_with fail
        refine (weigh_any l[k] _ _ _ _ HQ.out (by omega) (by omega) (by omega) (by omega)).mono ?_
        rintro e w' ⟨r, rfl, hr1, hr2, hr3, hb'⟩
        have HR3 := Lib.hid hr3
        have HB' := kept_call hb hb'
        clear hb' hb hr3 c0 c1 c2 c3 c4
        go_wp2
        go_roundw
        case rel =>
          refine ⟨k + 1, n + r, by omega, by go_num, rfl, by omega, by omega, ?_, HB'⟩
          intro hle j hj hjk
          by_cases e : j = k
          · subst e
            obtain ⟨-, e4⟩ := HR3.out (by omega)
            omega
          · exact hrel.out hnm j hj (by omega)
        case measure => simp [intOf]; omega
      · go_wp2
        go_ret
        exact ⟨_, rfl, fun h => absurd h (by simp <;> omega), hb⟩
    · have : k = l.length := by omega
      subst this
      go_wp2
      all_goals go_ret
      all_goals
        refine ⟨_, rfl, fun h => ⟨by omega, fun u hu => ?_⟩, hb⟩
        have hle : n ≤ (M : Int) := by simpa using h
        obtain ⟨j, hj, rfl⟩ := List.getElem_of_mem hu
        have := hrel.out hle j hj hj
        omega
end Go.Proofs.Ytkdceahmknhojaa

namespace Go.Proofs.Ytkdceahmknhojaa
open Go.RowKit

theorem var_plain {i : Int} (h : 0 ≤ i) (h2 : i ≤ 1000000) : (varT i).plainB = true := by
  rw [Tm.plainB_eq]; unfold varT
  simp [Tm.nodeB, mk_k, mk_i, mk_j, mk_n, mk_kids, kidsN, numbersN, plains, h]
  exact decide_eq_true (by omega)
end Go.Proofs.Ytkdceahmknhojaa
