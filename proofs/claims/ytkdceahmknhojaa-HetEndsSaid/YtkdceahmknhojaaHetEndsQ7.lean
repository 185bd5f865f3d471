/-
  Facts and contracts that the proof of HetEnds uses.
-/
import Derived.Test.YtkdceahmknhojaaRows
import Derived.WalkKit
import Derived.Lib.Hide
import Derived.KernelRfl
import Derived.Deep.RegionWith
import Derived.Deep.RegionHeld3
import Derived.Deep.AppendLies
import Derived.Laws.Rows
import Derived.Laws.IdiomCopy
import Derived.Deep.Slices
import Derived.Lib.QuietBelow
import Derived.StillTailTactics
import Derived.BigQuiet
import Derived.IntWalk
import Derived.OwnWalk
import Derived.Deep.RegionLaw
import Derived.Deep.QuietTactic
import Derived.Deep.LoopGhost
import Derived.Deep.DeepCutAuto
import Derived.Deep.MidRow
import Derived.OrdersHeld
import Derived.Laws.Tables
import Derived.Laws.CopyOwn
import Derived.Laws.CopyRow
import Derived.Deep.RegionHeld
import Derived.ProofKit
import Derived.OpenShut
import Derived.Carry
import Derived.ChangeSlices
import Derived.JoinedOf
import Derived.Test.YtkdceahmknhojaaHetEndsQ6
namespace Go.Proofs.Ytkdceahmknhojaa
open Go.RowKit
set_option maxRecDepth 20000 in
set_option maxHeartbeats 4000000 in
theorem hetEnds_any (g : He) (h : He) (P : Nat → Prop) (w : World) (sga : Value) (sgb : Value) (sgx : Value) (sgy : Value) (sgh : Value) (sha : Value) (shb : Value) (shx : Value) (shy : Value) (shh : Value) (hfg : g.fine) (hlg : HQ w P g sga sgb sgx sgy sgh) (hfh : h.fine) (hlh : HQ w P h sha shb shx shy shh) : Calls Try.prog 10 #[hv g sga sgb sgx sgy sgh, hv h sha shb shx shy shh] w fun e w' => e = .returned (.bool true) ∧ Kept w w' := by
  have Gg := Lib.hid hfg
  clear hfg
  obtain ⟨hlga, hlgb, hlgx, hlgy, hlgh⟩ := hlg
  obtain ⟨aga, cga, Sga, rfl, -⟩ := hlga.out
  obtain ⟨agb, cgb, Sgb, rfl, -⟩ := hlgb.out
  obtain ⟨agx, cgx, Sgx, rfl, -⟩ := hlgx.out
  obtain ⟨agy, cgy, Sgy, rfl, -⟩ := hlgy.out
  obtain ⟨agh, cgh, Sgh, rfl, -⟩ := hlgh.out
  have Gh := Lib.hid hfh
  clear hfh
  obtain ⟨hlha, hlhb, hlhx, hlhy, hlhh⟩ := hlh
  obtain ⟨aha, cha, Sha, rfl, -⟩ := hlha.out
  obtain ⟨ahb, chb, Shb, rfl, -⟩ := hlhb.out
  obtain ⟨ahx, chx, Shx, rfl, -⟩ := hlhx.out
  obtain ⟨ahy, chy, Shy, rfl, -⟩ := hlhy.out
  obtain ⟨ahh, chh, Shh, rfl, -⟩ := hlhh.out
  obtain ⟨du, hu1, hu2⟩ := under_term
  obtain ⟨dh, dh1, dh2⟩ := under_of 51 (by kernel_rfl)
  obtain ⟨dr, dr1, dr2⟩ := under_of 45 (by kernel_rfl)
  unfold hv
  go_enter Try.func10, Try.ntmps10
  simp only [List.append_eq, List.cons_append, List.nil_append]
  go_upto_region 1 with fail
  refine at_code (fun V0 hV0 => ?_)
  obtain ⟨k3, x1, x2, z4⟩ := alloc2 hV0
  have Kk5 := Lib.hid k3
  clear k3
  have Hx1 := Lib.hid x1
  have Hx2 := Lib.hid x2
  have Z0 := Lib.hid z4
  clear z4 x1 x2 hV0
  have HLga : Hid (LiesQ V0 (Par w V0.heap.size [] P) g.a.kids _) := (par_in _ _ hlga).later Kk5.out
  clear hlga
  have HLgb : Hid (LiesQ V0 (Par w V0.heap.size [] P) g.b.kids _) := (par_in _ _ hlgb).later Kk5.out
  clear hlgb
  have HLgx : Hid (LiesQ V0 (Par w V0.heap.size [] P) g.x.kids _) := (par_in _ _ hlgx).later Kk5.out
  clear hlgx
  have HLgy : Hid (LiesQ V0 (Par w V0.heap.size [] P) g.y.kids _) := (par_in _ _ hlgy).later Kk5.out
  clear hlgy
  have HLgh : Hid (LiesQ V0 (Par w V0.heap.size [] P) g.h.kids _) := (par_in _ _ hlgh).later Kk5.out
  clear hlgh
  have HLha : Hid (LiesQ V0 (Par w V0.heap.size [] P) h.a.kids _) := (par_in _ _ hlha).later Kk5.out
  clear hlha
  have HLhb : Hid (LiesQ V0 (Par w V0.heap.size [] P) h.b.kids _) := (par_in _ _ hlhb).later Kk5.out
  clear hlhb
  have HLhx : Hid (LiesQ V0 (Par w V0.heap.size [] P) h.x.kids _) := (par_in _ _ hlhx).later Kk5.out
  clear hlhx
  have HLhy : Hid (LiesQ V0 (Par w V0.heap.size [] P) h.y.kids _) := (par_in _ _ hlhy).later Kk5.out
  clear hlhy
  have HLhh : Hid (LiesQ V0 (Par w V0.heap.size [] P) h.h.kids _) := (par_in _ _ hlhh).later Kk5.out
  clear hlhh
  have ld6 := partN_cell (r := V0.heap.size) Hx1.out trivial 0 (.int .i64 g.i) rfl
  have ld7 := partN_cell (r := V0.heap.size) Hx2.out trivial 0 (.int .i64 h.i) rfl
  have kvV0 : SeesN V0 V0.heap.size V0 := seesN_kept _ (kept_refl _)
  go_wp2_with (refine stop_load 45 (.tmp 2) rfl ?_)
  intro _
  refine wpList_load_part (w.heap.size) 0 45 (.tmp 2) #[.int .i64 g.i, .int .i64 g.a.k, .int .i64 g.a.i, .int .i64 g.a.j, .int .i64 g.a.n, (.slice aga g.a.kids.length cga), .int .i64 g.b.k, .int .i64 g.b.i, .int .i64 g.b.j, .int .i64 g.b.n, (.slice agb g.b.kids.length cgb), .int .i64 g.x.k, .int .i64 g.x.i, .int .i64 g.x.j, .int .i64 g.x.n, (.slice agx g.x.kids.length cgx), .int .i64 g.y.k, .int .i64 g.y.i, .int .i64 g.y.j, .int .i64 g.y.n, (.slice agy g.y.kids.length cgy), .int .i64 g.h.k, .int .i64 g.h.i, .int .i64 g.h.j, .int .i64 g.h.n, (.slice agh g.h.kids.length cgh)] dr Hx1.out (by rfl) rfl (by rfl) (by rfl) dr1 (by cases dr <;> first | rfl | exact dr2) (by kernel_rfl) ?_
  go_wp2_with fail
  clear kvV0
  refine (lheavy_any g (Par w V0.heap.size [] P) _ (.slice aga g.a.kids.length cga) (.slice agb g.b.kids.length cgb) (.slice agx g.x.kids.length cgx) (.slice agy g.y.kids.length cgy) (.slice agh g.h.kids.length cgh) ⟨Gg.out.1, Gg.out.2.1, Gg.out.2.2.1, Gg.out.2.2.2.1, Gg.out.2.2.2.2.1, Gg.out.2.2.2.2.2⟩ ⟨HLga.out, HLgb.out, HLgx.out, HLgy.out, HLgh.out⟩).mono ?_
  rintro e w8 ⟨gb10, rfl, hg11, k9⟩
  have Hhg11 := Lib.hid hg11
  clear hg11
  have Kk12 := Lib.hid k9
  clear k9
  cases gb10 with
  | false =>
    have HIhg11 := Lib.hid (Hhg11.out rfl)
    have kvV0 : SeesN V0 V0.heap.size w8 := seesN_kept _ Kk12.out
    go_wp2_with (refine stop_load 45 (.tmp 3) rfl ?_)
    intro _
    refine wpList_load_part (w.heap.size + 1) 0 45 (.tmp 3) #[.int .i64 h.i, .int .i64 h.a.k, .int .i64 h.a.i, .int .i64 h.a.j, .int .i64 h.a.n, (.slice aha h.a.kids.length cha), .int .i64 h.b.k, .int .i64 h.b.i, .int .i64 h.b.j, .int .i64 h.b.n, (.slice ahb h.b.kids.length chb), .int .i64 h.x.k, .int .i64 h.x.i, .int .i64 h.x.j, .int .i64 h.x.n, (.slice ahx h.x.kids.length chx), .int .i64 h.y.k, .int .i64 h.y.i, .int .i64 h.y.j, .int .i64 h.y.n, (.slice ahy h.y.kids.length chy), .int .i64 h.h.k, .int .i64 h.h.i, .int .i64 h.h.j, .int .i64 h.h.n, (.slice ahh h.h.kids.length chh)] dr (blk_at Hx2.out Kk12.out) (by rfl) rfl (by rfl) (by rfl) dr1 (by cases dr <;> first | rfl | exact dr2) (by kernel_rfl) ?_
    go_wp2_with fail
    clear kvV0
    refine (lheavy_any h (Par w V0.heap.size [] P) _ (.slice aha h.a.kids.length cha) (.slice ahb h.b.kids.length chb) (.slice ahx h.x.kids.length chx) (.slice ahy h.y.kids.length chy) (.slice ahh h.h.kids.length chh) ⟨Gh.out.1, Gh.out.2.1, Gh.out.2.2.1, Gh.out.2.2.2.1, Gh.out.2.2.2.2.1, Gh.out.2.2.2.2.2⟩ ⟨(HLha.out.later Kk12.out), (HLhb.out.later Kk12.out), (HLhx.out.later Kk12.out), (HLhy.out.later Kk12.out), (HLhh.out.later Kk12.out)⟩).mono ?_
    rintro e w13 ⟨gb15, rfl, hg16, k14⟩
    have Hhg16 := Lib.hid hg16
    clear hg16
    have Kk17 := Lib.hid k14
    clear k14
    cases gb15 with
    | false =>
      have HIhg16 := Lib.hid (Hhg16.out rfl)
      have kvV0 : SeesN V0 V0.heap.size w13 := seesN_kept _ (kept_trans Kk12.out Kk17.out)
      go_wp2_with (refine stop_load 45 (.tmp 2) rfl ?_)
      intro _
      refine wpList_load_part (w.heap.size) 0 45 (.tmp 2) #[.int .i64 g.i, .int .i64 g.a.k, .int .i64 g.a.i, .int .i64 g.a.j, .int .i64 g.a.n, (.slice aga g.a.kids.length cga), .int .i64 g.b.k, .int .i64 g.b.i, .int .i64 g.b.j, .int .i64 g.b.n, (.slice agb g.b.kids.length cgb), .int .i64 g.x.k, .int .i64 g.x.i, .int .i64 g.x.j, .int .i64 g.x.n, (.slice agx g.x.kids.length cgx), .int .i64 g.y.k, .int .i64 g.y.i, .int .i64 g.y.j, .int .i64 g.y.n, (.slice agy g.y.kids.length cgy), .int .i64 g.h.k, .int .i64 g.h.i, .int .i64 g.h.j, .int .i64 g.h.n, (.slice agh g.h.kids.length cgh)] dr (blk_at Hx1.out (kept_trans Kk12.out Kk17.out)) (by rfl) rfl (by rfl) (by rfl) dr1 (by cases dr <;> first | rfl | exact dr2) (by kernel_rfl) ?_
      go_wp2_with fail
      clear kvV0
      refine (rRight_any g (Par w V0.heap.size [] P) _ (.slice aga g.a.kids.length cga) (.slice agb g.b.kids.length cgb) (.slice agx g.x.kids.length cgx) (.slice agy g.y.kids.length cgy) (.slice agh g.h.kids.length cgh) ⟨Gg.out.1, Gg.out.2.1, Gg.out.2.2.1, Gg.out.2.2.2.1, Gg.out.2.2.2.2.1, Gg.out.2.2.2.2.2⟩ ⟨(HLga.out.later (kept_trans Kk12.out Kk17.out)), (HLgb.out.later (kept_trans Kk12.out Kk17.out)), (HLgx.out.later (kept_trans Kk12.out Kk17.out)), (HLgy.out.later (kept_trans Kk12.out Kk17.out)), (HLgh.out.later (kept_trans Kk12.out Kk17.out))⟩).mono ?_
      obtain ⟨rb21, hb20⟩ : ∃ qb, heR g = qb := ⟨_, rfl⟩
      rw [hb20]
      have Hhb20 := Lib.hid hb20
      clear hb20
      rintro e w18 ⟨rfl, k19⟩
      have Kk22 := Lib.hid k19
      clear k19
      cases rb21 with
      | false =>
        have kvV0 : SeesN V0 V0.heap.size w18 := seesN_kept _ (kept_trans Kk12.out (kept_trans Kk17.out Kk22.out))
        go_wp2
        go_ret
        exact ⟨rfl, (kept_trans Kk5.out (kept_trans Kk12.out (kept_trans Kk17.out Kk22.out)))⟩
      | true =>
        have ew23 : IntKind.i64.wrap (g.i + 1) = g.i + 1 := IntWalk.i64_in _ (by have := levN_true (heR_lev Hhb20.out); omega)
        have kvV0 : SeesN V0 V0.heap.size w18 := seesN_kept _ (kept_trans Kk12.out (kept_trans Kk17.out Kk22.out))
        go_wp2_with (refine stop_load 45 (.tmp 3) rfl ?_)
        intro _
        refine wpList_load_part (w.heap.size + 1) 0 45 (.tmp 3) #[.int .i64 h.i, .int .i64 h.a.k, .int .i64 h.a.i, .int .i64 h.a.j, .int .i64 h.a.n, (.slice aha h.a.kids.length cha), .int .i64 h.b.k, .int .i64 h.b.i, .int .i64 h.b.j, .int .i64 h.b.n, (.slice ahb h.b.kids.length chb), .int .i64 h.x.k, .int .i64 h.x.i, .int .i64 h.x.j, .int .i64 h.x.n, (.slice ahx h.x.kids.length chx), .int .i64 h.y.k, .int .i64 h.y.i, .int .i64 h.y.j, .int .i64 h.y.n, (.slice ahy h.y.kids.length chy), .int .i64 h.h.k, .int .i64 h.h.i, .int .i64 h.h.j, .int .i64 h.h.n, (.slice ahh h.h.kids.length chh)] dr (blk_at Hx2.out (kept_trans Kk12.out (kept_trans Kk17.out Kk22.out))) (by rfl) rfl (by rfl) (by rfl) dr1 (by cases dr <;> first | rfl | exact dr2) (by kernel_rfl) ?_
        go_wp2_with fail
        clear kvV0
        refine (rRight_any h (Par w V0.heap.size [] P) _ (.slice aha h.a.kids.length cha) (.slice ahb h.b.kids.length chb) (.slice ahx h.x.kids.length chx) (.slice ahy h.y.kids.length chy) (.slice ahh h.h.kids.length chh) ⟨Gh.out.1, Gh.out.2.1, Gh.out.2.2.1, Gh.out.2.2.2.1, Gh.out.2.2.2.2.1, Gh.out.2.2.2.2.2⟩ ⟨(HLha.out.later (kept_trans Kk12.out (kept_trans Kk17.out Kk22.out))), (HLhb.out.later (kept_trans Kk12.out (kept_trans Kk17.out Kk22.out))), (HLhx.out.later (kept_trans Kk12.out (kept_trans Kk17.out Kk22.out))), (HLhy.out.later (kept_trans Kk12.out (kept_trans Kk17.out Kk22.out))), (HLhh.out.later (kept_trans Kk12.out (kept_trans Kk17.out Kk22.out)))⟩).mono ?_
        obtain ⟨rb27, hb26⟩ : ∃ qb, heR h = qb := ⟨_, rfl⟩
        rw [hb26]
        have Hhb26 := Lib.hid hb26
        clear hb26
        rintro e w24 ⟨rfl, k25⟩
        have Kk28 := Lib.hid k25
        clear k25
        cases rb27 with
        | false =>
          have kvV0 : SeesN V0 V0.heap.size w24 := seesN_kept _ (kept_trans Kk12.out (kept_trans Kk17.out (kept_trans Kk22.out Kk28.out)))
          go_wp2
          go_ret
          exact ⟨rfl, (kept_trans Kk5.out (kept_trans Kk12.out (kept_trans Kk17.out (kept_trans Kk22.out Kk28.out))))⟩
        | true =>
          have ew29 : IntKind.i64.wrap (h.i + 1) = h.i + 1 := IntWalk.i64_in _ (by have := levN_true (heR_lev Hhb26.out); omega)
          have kvV0 : SeesN V0 V0.heap.size w24 := seesN_kept _ (kept_trans Kk12.out (kept_trans Kk17.out (kept_trans Kk22.out Kk28.out)))
          by_cases c30 : g.i = h.i
          · have ec30 : (g.i == h.i) = true := beq_iff_eq.2 c30
            have fc30 : (g.i != h.i) = false := by rw [bne, ec30]; rfl
            have Ec30 := Lib.hid ec30
            have Hc30 := Lib.hid c30
            clear c30
            go_wp2_with fail
            clear kvV0
            obtain ⟨W31, h32⟩ : ∃ x, World.drew w24 = x := ⟨_, rfl⟩
            have k33 : Kept w24 W31 := by rw [← h32]; exact kept_drew (kept_refl _)
            have Kk34 := Lib.hid k33
            clear k33
            refine wp_region_held_drew (S := SeesN W31 V0.heap.size) (by kernel_rfl) ?_ (fun hHeld => ?_)
            · (try dsimp only)
              rw [h32]
              exact seesN_kept _ (kept_refl _)
            rw [h32] at hHeld ⊢
            clear h32
            refine take_at 0 31 hetEndsr3_0 (yields_part (w.heap.size) 0 45 (.tmp 2) #[.int .i64 g.i, .int .i64 g.a.k, .int .i64 g.a.i, .int .i64 g.a.j, .int .i64 g.a.n, (.slice aga g.a.kids.length cga), .int .i64 g.b.k, .int .i64 g.b.i, .int .i64 g.b.j, .int .i64 g.b.n, (.slice agb g.b.kids.length cgb), .int .i64 g.x.k, .int .i64 g.x.i, .int .i64 g.x.j, .int .i64 g.x.n, (.slice agx g.x.kids.length cgx), .int .i64 g.y.k, .int .i64 g.y.i, .int .i64 g.y.j, .int .i64 g.y.n, (.slice agy g.y.kids.length cgy), .int .i64 g.h.k, .int .i64 g.h.i, .int .i64 g.h.j, .int .i64 g.h.n, (.slice agh g.h.kids.length cgh)] dr (fun _ h => seesN_blk Hx1.out trivial (seesN_of (kept_trans Kk12.out (kept_trans Kk17.out (kept_trans Kk22.out (kept_trans Kk28.out Kk34.out)))) h)) (by rfl) rfl (by rfl) (by rfl) dr1 (by cases dr <;> first | rfl | exact dr2) (by kernel_rfl)) ?_
            (try simp only [Act.put, List.setIfInBounds_toArray, List.set_cons_zero, List.set_cons_succ])
            refine take_at 3 34 hetEndsr3_3 (yields_part (w.heap.size) 0 45 (.tmp 2) #[.int .i64 g.i, .int .i64 g.a.k, .int .i64 g.a.i, .int .i64 g.a.j, .int .i64 g.a.n, (.slice aga g.a.kids.length cga), .int .i64 g.b.k, .int .i64 g.b.i, .int .i64 g.b.j, .int .i64 g.b.n, (.slice agb g.b.kids.length cgb), .int .i64 g.x.k, .int .i64 g.x.i, .int .i64 g.x.j, .int .i64 g.x.n, (.slice agx g.x.kids.length cgx), .int .i64 g.y.k, .int .i64 g.y.i, .int .i64 g.y.j, .int .i64 g.y.n, (.slice agy g.y.kids.length cgy), .int .i64 g.h.k, .int .i64 g.h.i, .int .i64 g.h.j, .int .i64 g.h.n, (.slice agh g.h.kids.length cgh)] dr (fun _ h => seesN_blk Hx1.out trivial (seesN_of (kept_trans Kk12.out (kept_trans Kk17.out (kept_trans Kk22.out (kept_trans Kk28.out Kk34.out)))) h)) (by rfl) rfl (by rfl) (by rfl) dr1 (by cases dr <;> first | rfl | exact dr2) (by kernel_rfl)) ?_
            (try simp only [Act.put, List.setIfInBounds_toArray, List.set_cons_zero, List.set_cons_succ])
            refine take_at 5 36 hetEndsr3_5 (yields_part (w.heap.size + 1) 0 45 (.tmp 3) #[.int .i64 h.i, .int .i64 h.a.k, .int .i64 h.a.i, .int .i64 h.a.j, .int .i64 h.a.n, (.slice aha h.a.kids.length cha), .int .i64 h.b.k, .int .i64 h.b.i, .int .i64 h.b.j, .int .i64 h.b.n, (.slice ahb h.b.kids.length chb), .int .i64 h.x.k, .int .i64 h.x.i, .int .i64 h.x.j, .int .i64 h.x.n, (.slice ahx h.x.kids.length chx), .int .i64 h.y.k, .int .i64 h.y.i, .int .i64 h.y.j, .int .i64 h.y.n, (.slice ahy h.y.kids.length chy), .int .i64 h.h.k, .int .i64 h.h.i, .int .i64 h.h.j, .int .i64 h.h.n, (.slice ahh h.h.kids.length chh)] dr (fun _ h => seesN_blk Hx2.out trivial (seesN_of (kept_trans Kk12.out (kept_trans Kk17.out (kept_trans Kk22.out (kept_trans Kk28.out Kk34.out)))) h)) (by rfl) rfl (by rfl) (by rfl) dr1 (by cases dr <;> first | rfl | exact dr2) (by kernel_rfl)) ?_
            (try simp only [Act.put, List.setIfInBounds_toArray, List.set_cons_zero, List.set_cons_succ])
            apply (via_joinACACACACACHACACACACACACACACACACACACACACACHACACACACACCC (K := fun w1345 a63 c64 a66 c67 a69 c70 a72 c73 a75 c76 U652 a663 c664 a666 c667 a669 c670 a672 c673 a675 c676 a863 c864 a866 c867 a869 c870 a872 c873 a875 c876 a1091 c1092 a1094 c1095 a1097 c1098 a1100 c1101 a1103 c1104 U1348 a1359 c1360 a1362 c1363 a1365 c1366 a1368 c1369 a1371 c1372 g489 g320 => (Kept W31 w1345) ∧ (turned g = U652) ∧ (chained g h = U1348) ∧ (LiesQ w1345 (Par w V0.heap.size (g320 :: (g489 :: [])) P) U652.a.kids (.slice a663 U652.a.kids.length c664)) ∧ (LiesQ w1345 (Par w V0.heap.size (g320 :: (g489 :: [])) P) U652.b.kids (.slice a666 U652.b.kids.length c667)) ∧ (LiesQ w1345 (Par w V0.heap.size (g320 :: (g489 :: [])) P) U652.x.kids (.slice a669 U652.x.kids.length c670)) ∧ (LiesQ w1345 (Par w V0.heap.size (g320 :: (g489 :: [])) P) U652.y.kids (.slice a672 U652.y.kids.length c673)) ∧ (LiesQ w1345 (Par w V0.heap.size (g320 :: (g489 :: [])) P) U652.h.kids (.slice a675 U652.h.kids.length c676)) ∧ (LiesQ w1345 (Par w V0.heap.size (g320 :: (g489 :: [])) P) U1348.a.kids (.slice a1359 U1348.a.kids.length c1360)) ∧ (LiesQ w1345 (Par w V0.heap.size (g320 :: (g489 :: [])) P) U1348.b.kids (.slice a1362 U1348.b.kids.length c1363)) ∧ (LiesQ w1345 (Par w V0.heap.size (g320 :: (g489 :: [])) P) U1348.x.kids (.slice a1365 U1348.x.kids.length c1366)) ∧ (LiesQ w1345 (Par w V0.heap.size (g320 :: (g489 :: [])) P) U1348.y.kids (.slice a1368 U1348.y.kids.length c1369)) ∧ (LiesQ w1345 (Par w V0.heap.size (g320 :: (g489 :: [])) P) U1348.h.kids (.slice a1371 U1348.h.kids.length c1372)) ∧ (w1345.heap[g489]? = some (.cells #[.int .i64 0, .int .i64 0, .int .i64 0, .int .i64 0, .int .i64 0, .slice none 0 0, .int .i64 0, .int .i64 0, .int .i64 0, .int .i64 0, .slice none 0 0, .int .i64 0, .int .i64 0, .int .i64 0, .int .i64 0, .slice none 0 0, .int .i64 0, .int .i64 0, .int .i64 0, .int .i64 0, .slice none 0 0, .int .i64 0, .int .i64 0, .int .i64 0, .int .i64 0, .slice none 0 0] 51 (0, 0))) ∧ (w1345.heap[g320]? = some (.cells #[.int .i64 0, .int .i64 0, .int .i64 0, .int .i64 0, .int .i64 0, .slice none 0 0, .int .i64 0, .int .i64 0, .int .i64 0, .int .i64 0, .slice none 0 0, .int .i64 0, .int .i64 0, .int .i64 0, .int .i64 0, .slice none 0 0, .int .i64 0, .int .i64 0, .int .i64 0, .int .i64 0, .slice none 0 0, .int .i64 0, .int .i64 0, .int .i64 0, .int .i64 0, .slice none 0 0] 51 (0, 0))) ∧ (V0.heap.size ≤ g489) ∧ (W31.heap.size ≤ g489) ∧ (W31.heap.size ≤ g489) ∧ (V0.heap.size ≤ g320) ∧ (W31.heap.size ≤ g320) ∧ (W31.heap.size ≤ g320) ∧ (g489 ≠ g320) ∧ (XLt (g320 :: (g489 :: [])) w1345)))
            intro HJj50
            apply (via_joinACACACACACHACACACACACACACACACACACACACACACHACACACACACC (K := fun W199 a63 c64 a66 c67 a69 c70 a72 c73 a75 c76 U82 a93 c94 a96 c97 a99 c100 a102 c103 a105 c106 a123 c124 a126 c127 a129 c130 a132 c133 a135 c136 a151 c152 a154 c155 a157 c158 a160 c161 a163 c164 U170 a181 c182 a184 c185 a187 c188 a190 c191 a193 c194 g204 => (Kept W31 W199) ∧ (turned g = U82) ∧ (chained g h = U170) ∧ (LiesQ W199 (Par w V0.heap.size (g204 :: []) P) U82.a.kids (.slice a93 U82.a.kids.length c94)) ∧ (LiesQ W199 (Par w V0.heap.size (g204 :: []) P) U82.b.kids (.slice a96 U82.b.kids.length c97)) ∧ (LiesQ W199 (Par w V0.heap.size (g204 :: []) P) U82.x.kids (.slice a99 U82.x.kids.length c100)) ∧ (LiesQ W199 (Par w V0.heap.size (g204 :: []) P) U82.y.kids (.slice a102 U82.y.kids.length c103)) ∧ (LiesQ W199 (Par w V0.heap.size (g204 :: []) P) U82.h.kids (.slice a105 U82.h.kids.length c106)) ∧ (LiesQ W199 (Par w V0.heap.size (g204 :: []) P) U170.a.kids (.slice a181 U170.a.kids.length c182)) ∧ (LiesQ W199 (Par w V0.heap.size (g204 :: []) P) U170.b.kids (.slice a184 U170.b.kids.length c185)) ∧ (LiesQ W199 (Par w V0.heap.size (g204 :: []) P) U170.x.kids (.slice a187 U170.x.kids.length c188)) ∧ (LiesQ W199 (Par w V0.heap.size (g204 :: []) P) U170.y.kids (.slice a190 U170.y.kids.length c191)) ∧ (LiesQ W199 (Par w V0.heap.size (g204 :: []) P) U170.h.kids (.slice a193 U170.h.kids.length c194)) ∧ (W199.heap[g204]? = some (.cells #[.int .i64 0, .int .i64 0, .int .i64 0, .int .i64 0, .int .i64 0, .slice none 0 0, .int .i64 0, .int .i64 0, .int .i64 0, .int .i64 0, .slice none 0 0, .int .i64 0, .int .i64 0, .int .i64 0, .int .i64 0, .slice none 0 0, .int .i64 0, .int .i64 0, .int .i64 0, .int .i64 0, .slice none 0 0, .int .i64 0, .int .i64 0, .int .i64 0, .int .i64 0, .slice none 0 0] 51 (0, 0))) ∧ (V0.heap.size ≤ g204) ∧ (W31.heap.size ≤ g204) ∧ (W31.heap.size ≤ g204) ∧ (XLt (g204 :: []) W199)))
            intro HJj49
            apply (via_joinACACACACACHACACACACACACACACACACACACACACACHACACACACACC (K := fun W212 a63 c64 a66 c67 a69 c70 a72 c73 a75 c76 U82 a93 c94 a96 c97 a99 c100 a102 c103 a105 c106 a123 c124 a126 c127 a129 c130 a132 c133 a135 c136 a151 c152 a154 c155 a157 c158 a160 c161 a163 c164 U170 a181 c182 a184 c185 a187 c188 a190 c191 a193 c194 g217 => (Kept W31 W212) ∧ (turned g = U82) ∧ (chained g h = U170) ∧ (LiesQ W212 (Par w V0.heap.size (g217 :: []) P) U82.a.kids (.slice a93 U82.a.kids.length c94)) ∧ (LiesQ W212 (Par w V0.heap.size (g217 :: []) P) U82.b.kids (.slice a96 U82.b.kids.length c97)) ∧ (LiesQ W212 (Par w V0.heap.size (g217 :: []) P) U82.x.kids (.slice a99 U82.x.kids.length c100)) ∧ (LiesQ W212 (Par w V0.heap.size (g217 :: []) P) U82.y.kids (.slice a102 U82.y.kids.length c103)) ∧ (LiesQ W212 (Par w V0.heap.size (g217 :: []) P) U82.h.kids (.slice a105 U82.h.kids.length c106)) ∧ (LiesQ W212 (Par w V0.heap.size (g217 :: []) P) U170.a.kids (.slice a181 U170.a.kids.length c182)) ∧ (LiesQ W212 (Par w V0.heap.size (g217 :: []) P) U170.b.kids (.slice a184 U170.b.kids.length c185)) ∧ (LiesQ W212 (Par w V0.heap.size (g217 :: []) P) U170.x.kids (.slice a187 U170.x.kids.length c188)) ∧ (LiesQ W212 (Par w V0.heap.size (g217 :: []) P) U170.y.kids (.slice a190 U170.y.kids.length c191)) ∧ (LiesQ W212 (Par w V0.heap.size (g217 :: []) P) U170.h.kids (.slice a193 U170.h.kids.length c194)) ∧ (W212.heap[g217]? = some (.cells #[.int .i64 0, .int .i64 0, .int .i64 0, .int .i64 0, .int .i64 0, .slice none 0 0, .int .i64 0, .int .i64 0, .int .i64 0, .int .i64 0, .slice none 0 0, .int .i64 0, .int .i64 0, .int .i64 0, .int .i64 0, .slice none 0 0, .int .i64 0, .int .i64 0, .int .i64 0, .int .i64 0, .slice none 0 0, .int .i64 0, .int .i64 0, .int .i64 0, .int .i64 0, .slice none 0 0] 51 (0, 0))) ∧ (V0.heap.size ≤ g217) ∧ (W31.heap.size ≤ g217) ∧ (W31.heap.size ≤ g217) ∧ (XLt (g217 :: []) W212)))
            intro HJj48
            apply (via_joinACACACACACHACACACACACACACACACACACACACACACCC (K := fun w1079 a63 c64 a66 c67 a69 c70 a72 c73 a75 c76 U652 a663 c664 a666 c667 a669 c670 a672 c673 a675 c676 a863 c864 a866 c867 a869 c870 a872 c873 a875 c876 a1091 c1092 a1094 c1095 a1097 c1098 a1100 c1101 a1103 c1104 g489 g320 => (Kept W31 w1079) ∧ (turned g = U652) ∧ (LiesQ w1079 (Par w V0.heap.size (g320 :: (g489 :: [])) P) U652.a.kids (.slice a663 U652.a.kids.length c664)) ∧ (LiesQ w1079 (Par w V0.heap.size (g320 :: (g489 :: [])) P) U652.b.kids (.slice a666 U652.b.kids.length c667)) ∧ (LiesQ w1079 (Par w V0.heap.size (g320 :: (g489 :: [])) P) U652.x.kids (.slice a669 U652.x.kids.length c670)) ∧ (LiesQ w1079 (Par w V0.heap.size (g320 :: (g489 :: [])) P) U652.y.kids (.slice a672 U652.y.kids.length c673)) ∧ (LiesQ w1079 (Par w V0.heap.size (g320 :: (g489 :: [])) P) U652.h.kids (.slice a675 U652.h.kids.length c676)) ∧ (LiesQ w1079 (Par w V0.heap.size (g320 :: (g489 :: [])) P) g.a.kids (.slice a863 g.a.kids.length c864)) ∧ (LiesQ w1079 (Par w V0.heap.size (g320 :: (g489 :: [])) P) g.b.kids (.slice a866 g.b.kids.length c867)) ∧ (LiesQ w1079 (Par w V0.heap.size (g320 :: (g489 :: [])) P) g.x.kids (.slice a869 g.x.kids.length c870)) ∧ (LiesQ w1079 (Par w V0.heap.size (g320 :: (g489 :: [])) P) g.y.kids (.slice a872 g.y.kids.length c873)) ∧ (LiesQ w1079 (Par w V0.heap.size (g320 :: (g489 :: [])) P) g.h.kids (.slice a875 g.h.kids.length c876)) ∧ (LiesQ w1079 (Par w V0.heap.size (g320 :: (g489 :: [])) P) h.a.kids (.slice a1091 h.a.kids.length c1092)) ∧ (LiesQ w1079 (Par w V0.heap.size (g320 :: (g489 :: [])) P) h.b.kids (.slice a1094 h.b.kids.length c1095)) ∧ (LiesQ w1079 (Par w V0.heap.size (g320 :: (g489 :: [])) P) h.x.kids (.slice a1097 h.x.kids.length c1098)) ∧ (LiesQ w1079 (Par w V0.heap.size (g320 :: (g489 :: [])) P) h.y.kids (.slice a1100 h.y.kids.length c1101)) ∧ (LiesQ w1079 (Par w V0.heap.size (g320 :: (g489 :: [])) P) h.h.kids (.slice a1103 h.h.kids.length c1104)) ∧ (w1079.heap[g489]? = some (.cells #[.int .i64 0, .int .i64 0, .int .i64 0, .int .i64 0, .int .i64 0, .slice none 0 0, .int .i64 0, .int .i64 0, .int .i64 0, .int .i64 0, .slice none 0 0, .int .i64 0, .int .i64 0, .int .i64 0, .int .i64 0, .slice none 0 0, .int .i64 0, .int .i64 0, .int .i64 0, .int .i64 0, .slice none 0 0, .int .i64 0, .int .i64 0, .int .i64 0, .int .i64 0, .slice none 0 0] 51 (0, 0))) ∧ (w1079.heap[g320]? = some (.cells #[.int .i64 0, .int .i64 0, .int .i64 0, .int .i64 0, .int .i64 0, .slice none 0 0, .int .i64 0, .int .i64 0, .int .i64 0, .int .i64 0, .slice none 0 0, .int .i64 0, .int .i64 0, .int .i64 0, .int .i64 0, .slice none 0 0, .int .i64 0, .int .i64 0, .int .i64 0, .int .i64 0, .slice none 0 0, .int .i64 0, .int .i64 0, .int .i64 0, .int .i64 0, .slice none 0 0] 51 (0, 0))) ∧ (V0.heap.size ≤ g489) ∧ (W31.heap.size ≤ g489) ∧ (W31.heap.size ≤ g489) ∧ (V0.heap.size ≤ g320) ∧ (W31.heap.size ≤ g320) ∧ (W31.heap.size ≤ g320) ∧ (g489 ≠ g320) ∧ (XLt (g320 :: (g489 :: [])) w1079)))
            intro HJj47
            apply (via_joinACACACACACHACACACACACACACACACACACACACACACC (K := fun W225 a63 c64 a66 c67 a69 c70 a72 c73 a75 c76 U82 a93 c94 a96 c97 a99 c100 a102 c103 a105 c106 a123 c124 a126 c127 a129 c130 a132 c133 a135 c136 a151 c152 a154 c155 a157 c158 a160 c161 a163 c164 g230 => (Kept W31 W225) ∧ (turned g = U82) ∧ (LiesQ W225 (Par w V0.heap.size (g230 :: []) P) U82.a.kids (.slice a93 U82.a.kids.length c94)) ∧ (LiesQ W225 (Par w V0.heap.size (g230 :: []) P) U82.b.kids (.slice a96 U82.b.kids.length c97)) ∧ (LiesQ W225 (Par w V0.heap.size (g230 :: []) P) U82.x.kids (.slice a99 U82.x.kids.length c100)) ∧ (LiesQ W225 (Par w V0.heap.size (g230 :: []) P) U82.y.kids (.slice a102 U82.y.kids.length c103)) ∧ (LiesQ W225 (Par w V0.heap.size (g230 :: []) P) U82.h.kids (.slice a105 U82.h.kids.length c106)) ∧ (LiesQ W225 (Par w V0.heap.size (g230 :: []) P) g.a.kids (.slice a123 g.a.kids.length c124)) ∧ (LiesQ W225 (Par w V0.heap.size (g230 :: []) P) g.b.kids (.slice a126 g.b.kids.length c127)) ∧ (LiesQ W225 (Par w V0.heap.size (g230 :: []) P) g.x.kids (.slice a129 g.x.kids.length c130)) ∧ (LiesQ W225 (Par w V0.heap.size (g230 :: []) P) g.y.kids (.slice a132 g.y.kids.length c133)) ∧ (LiesQ W225 (Par w V0.heap.size (g230 :: []) P) g.h.kids (.slice a135 g.h.kids.length c136)) ∧ (LiesQ W225 (Par w V0.heap.size (g230 :: []) P) h.a.kids (.slice a151 h.a.kids.length c152)) ∧ (LiesQ W225 (Par w V0.heap.size (g230 :: []) P) h.b.kids (.slice a154 h.b.kids.length c155)) ∧ (LiesQ W225 (Par w V0.heap.size (g230 :: []) P) h.x.kids (.slice a157 h.x.kids.length c158)) ∧ (LiesQ W225 (Par w V0.heap.size (g230 :: []) P) h.y.kids (.slice a160 h.y.kids.length c161)) ∧ (LiesQ W225 (Par w V0.heap.size (g230 :: []) P) h.h.kids (.slice a163 h.h.kids.length c164)) ∧ (W225.heap[g230]? = some (.cells #[.int .i64 0, .int .i64 0, .int .i64 0, .int .i64 0, .int .i64 0, .slice none 0 0, .int .i64 0, .int .i64 0, .int .i64 0, .int .i64 0, .slice none 0 0, .int .i64 0, .int .i64 0, .int .i64 0, .int .i64 0, .slice none 0 0, .int .i64 0, .int .i64 0, .int .i64 0, .int .i64 0, .slice none 0 0, .int .i64 0, .int .i64 0, .int .i64 0, .int .i64 0, .slice none 0 0] 51 (0, 0))) ∧ (V0.heap.size ≤ g230) ∧ (W31.heap.size ≤ g230) ∧ (W31.heap.size ≤ g230) ∧ (XLt (g230 :: []) W225)))
            intro HJj46
            apply (via_joinACACACACACHACACACACACACACACACACACACACACACC (K := fun W239 a63 c64 a66 c67 a69 c70 a72 c73 a75 c76 U82 a93 c94 a96 c97 a99 c100 a102 c103 a105 c106 a123 c124 a126 c127 a129 c130 a132 c133 a135 c136 a151 c152 a154 c155 a157 c158 a160 c161 a163 c164 g244 => (Kept W31 W239) ∧ (turned g = U82) ∧ (LiesQ W239 (Par w V0.heap.size (g244 :: []) P) U82.a.kids (.slice a93 U82.a.kids.length c94)) ∧ (LiesQ W239 (Par w V0.heap.size (g244 :: []) P) U82.b.kids (.slice a96 U82.b.kids.length c97)) ∧ (LiesQ W239 (Par w V0.heap.size (g244 :: []) P) U82.x.kids (.slice a99 U82.x.kids.length c100)) ∧ (LiesQ W239 (Par w V0.heap.size (g244 :: []) P) U82.y.kids (.slice a102 U82.y.kids.length c103)) ∧ (LiesQ W239 (Par w V0.heap.size (g244 :: []) P) U82.h.kids (.slice a105 U82.h.kids.length c106)) ∧ (LiesQ W239 (Par w V0.heap.size (g244 :: []) P) g.a.kids (.slice a123 g.a.kids.length c124)) ∧ (LiesQ W239 (Par w V0.heap.size (g244 :: []) P) g.b.kids (.slice a126 g.b.kids.length c127)) ∧ (LiesQ W239 (Par w V0.heap.size (g244 :: []) P) g.x.kids (.slice a129 g.x.kids.length c130)) ∧ (LiesQ W239 (Par w V0.heap.size (g244 :: []) P) g.y.kids (.slice a132 g.y.kids.length c133)) ∧ (LiesQ W239 (Par w V0.heap.size (g244 :: []) P) g.h.kids (.slice a135 g.h.kids.length c136)) ∧ (LiesQ W239 (Par w V0.heap.size (g244 :: []) P) h.a.kids (.slice a151 h.a.kids.length c152)) ∧ (LiesQ W239 (Par w V0.heap.size (g244 :: []) P) h.b.kids (.slice a154 h.b.kids.length c155)) ∧ (LiesQ W239 (Par w V0.heap.size (g244 :: []) P) h.x.kids (.slice a157 h.x.kids.length c158)) ∧ (LiesQ W239 (Par w V0.heap.size (g244 :: []) P) h.y.kids (.slice a160 h.y.kids.length c161)) ∧ (LiesQ W239 (Par w V0.heap.size (g244 :: []) P) h.h.kids (.slice a163 h.h.kids.length c164)) ∧ (W239.heap[g244]? = some (.cells #[.int .i64 0, .int .i64 0, .int .i64 0, .int .i64 0, .int .i64 0, .slice none 0 0, .int .i64 0, .int .i64 0, .int .i64 0, .int .i64 0, .slice none 0 0, .int .i64 0, .int .i64 0, .int .i64 0, .int .i64 0, .slice none 0 0, .int .i64 0, .int .i64 0, .int .i64 0, .int .i64 0, .slice none 0 0, .int .i64 0, .int .i64 0, .int .i64 0, .int .i64 0, .slice none 0 0] 51 (0, 0))) ∧ (V0.heap.size ≤ g244) ∧ (W31.heap.size ≤ g244) ∧ (W31.heap.size ≤ g244) ∧ (XLt (g244 :: []) W239)))
            intro HJj45
            apply (via_joinACACACACACHACACACACACACACACACACCC (K := fun w851 a63 c64 a66 c67 a69 c70 a72 c73 a75 c76 U652 a663 c664 a666 c667 a669 c670 a672 c673 a675 c676 a863 c864 a866 c867 a869 c870 a872 c873 a875 c876 g489 g320 => (Kept W31 w851) ∧ (turned g = U652) ∧ (LiesQ w851 (Par w V0.heap.size (g320 :: (g489 :: [])) P) U652.a.kids (.slice a663 U652.a.kids.length c664)) ∧ (LiesQ w851 (Par w V0.heap.size (g320 :: (g489 :: [])) P) U652.b.kids (.slice a666 U652.b.kids.length c667)) ∧ (LiesQ w851 (Par w V0.heap.size (g320 :: (g489 :: [])) P) U652.x.kids (.slice a669 U652.x.kids.length c670)) ∧ (LiesQ w851 (Par w V0.heap.size (g320 :: (g489 :: [])) P) U652.y.kids (.slice a672 U652.y.kids.length c673)) ∧ (LiesQ w851 (Par w V0.heap.size (g320 :: (g489 :: [])) P) U652.h.kids (.slice a675 U652.h.kids.length c676)) ∧ (LiesQ w851 (Par w V0.heap.size (g320 :: (g489 :: [])) P) g.a.kids (.slice a863 g.a.kids.length c864)) ∧ (LiesQ w851 (Par w V0.heap.size (g320 :: (g489 :: [])) P) g.b.kids (.slice a866 g.b.kids.length c867)) ∧ (LiesQ w851 (Par w V0.heap.size (g320 :: (g489 :: [])) P) g.x.kids (.slice a869 g.x.kids.length c870)) ∧ (LiesQ w851 (Par w V0.heap.size (g320 :: (g489 :: [])) P) g.y.kids (.slice a872 g.y.kids.length c873)) ∧ (LiesQ w851 (Par w V0.heap.size (g320 :: (g489 :: [])) P) g.h.kids (.slice a875 g.h.kids.length c876)) ∧ (w851.heap[g489]? = some (.cells #[.int .i64 0, .int .i64 0, .int .i64 0, .int .i64 0, .int .i64 0, .slice none 0 0, .int .i64 0, .int .i64 0, .int .i64 0, .int .i64 0, .slice none 0 0, .int .i64 0, .int .i64 0, .int .i64 0, .int .i64 0, .slice none 0 0, .int .i64 0, .int .i64 0, .int .i64 0, .int .i64 0, .slice none 0 0, .int .i64 0, .int .i64 0, .int .i64 0, .int .i64 0, .slice none 0 0] 51 (0, 0))) ∧ (w851.heap[g320]? = some (.cells #[.int .i64 0, .int .i64 0, .int .i64 0, .int .i64 0, .int .i64 0, .slice none 0 0, .int .i64 0, .int .i64 0, .int .i64 0, .int .i64 0, .slice none 0 0, .int .i64 0, .int .i64 0, .int .i64 0, .int .i64 0, .slice none 0 0, .int .i64 0, .int .i64 0, .int .i64 0, .int .i64 0, .slice none 0 0, .int .i64 0, .int .i64 0, .int .i64 0, .int .i64 0, .slice none 0 0] 51 (0, 0))) ∧ (V0.heap.size ≤ g489) ∧ (W31.heap.size ≤ g489) ∧ (W31.heap.size ≤ g489) ∧ (V0.heap.size ≤ g320) ∧ (W31.heap.size ≤ g320) ∧ (W31.heap.size ≤ g320) ∧ (g489 ≠ g320) ∧ (XLt (g320 :: (g489 :: [])) w851)))
            intro HJj44
            apply (via_joinACACACACACHACACACACACACACACACACC (K := fun W253 a63 c64 a66 c67 a69 c70 a72 c73 a75 c76 U82 a93 c94 a96 c97 a99 c100 a102 c103 a105 c106 a123 c124 a126 c127 a129 c130 a132 c133 a135 c136 g258 => (Kept W31 W253) ∧ (turned g = U82) ∧ (LiesQ W253 (Par w V0.heap.size (g258 :: []) P) U82.a.kids (.slice a93 U82.a.kids.length c94)) ∧ (LiesQ W253 (Par w V0.heap.size (g258 :: []) P) U82.b.kids (.slice a96 U82.b.kids.length c97)) ∧ (LiesQ W253 (Par w V0.heap.size (g258 :: []) P) U82.x.kids (.slice a99 U82.x.kids.length c100)) ∧ (LiesQ W253 (Par w V0.heap.size (g258 :: []) P) U82.y.kids (.slice a102 U82.y.kids.length c103)) ∧ (LiesQ W253 (Par w V0.heap.size (g258 :: []) P) U82.h.kids (.slice a105 U82.h.kids.length c106)) ∧ (LiesQ W253 (Par w V0.heap.size (g258 :: []) P) g.a.kids (.slice a123 g.a.kids.length c124)) ∧ (LiesQ W253 (Par w V0.heap.size (g258 :: []) P) g.b.kids (.slice a126 g.b.kids.length c127)) ∧ (LiesQ W253 (Par w V0.heap.size (g258 :: []) P) g.x.kids (.slice a129 g.x.kids.length c130)) ∧ (LiesQ W253 (Par w V0.heap.size (g258 :: []) P) g.y.kids (.slice a132 g.y.kids.length c133)) ∧ (LiesQ W253 (Par w V0.heap.size (g258 :: []) P) g.h.kids (.slice a135 g.h.kids.length c136)) ∧ (W253.heap[g258]? = some (.cells #[.int .i64 0, .int .i64 0, .int .i64 0, .int .i64 0, .int .i64 0, .slice none 0 0, .int .i64 0, .int .i64 0, .int .i64 0, .int .i64 0, .slice none 0 0, .int .i64 0, .int .i64 0, .int .i64 0, .int .i64 0, .slice none 0 0, .int .i64 0, .int .i64 0, .int .i64 0, .int .i64 0, .slice none 0 0, .int .i64 0, .int .i64 0, .int .i64 0, .int .i64 0, .slice none 0 0] 51 (0, 0))) ∧ (V0.heap.size ≤ g258) ∧ (W31.heap.size ≤ g258) ∧ (W31.heap.size ≤ g258) ∧ (XLt (g258 :: []) W253)))
            intro HJj43
            apply (via_joinACACACACACHACACACACACACACACACACC (K := fun W266 a63 c64 a66 c67 a69 c70 a72 c73 a75 c76 U82 a93 c94 a96 c97 a99 c100 a102 c103 a105 c106 a123 c124 a126 c127 a129 c130 a132 c133 a135 c136 g271 => (Kept W31 W266) ∧ (turned g = U82) ∧ (LiesQ W266 (Par w V0.heap.size (g271 :: []) P) U82.a.kids (.slice a93 U82.a.kids.length c94)) ∧ (LiesQ W266 (Par w V0.heap.size (g271 :: []) P) U82.b.kids (.slice a96 U82.b.kids.length c97)) ∧ (LiesQ W266 (Par w V0.heap.size (g271 :: []) P) U82.x.kids (.slice a99 U82.x.kids.length c100)) ∧ (LiesQ W266 (Par w V0.heap.size (g271 :: []) P) U82.y.kids (.slice a102 U82.y.kids.length c103)) ∧ (LiesQ W266 (Par w V0.heap.size (g271 :: []) P) U82.h.kids (.slice a105 U82.h.kids.length c106)) ∧ (LiesQ W266 (Par w V0.heap.size (g271 :: []) P) g.a.kids (.slice a123 g.a.kids.length c124)) ∧ (LiesQ W266 (Par w V0.heap.size (g271 :: []) P) g.b.kids (.slice a126 g.b.kids.length c127)) ∧ (LiesQ W266 (Par w V0.heap.size (g271 :: []) P) g.x.kids (.slice a129 g.x.kids.length c130)) ∧ (LiesQ W266 (Par w V0.heap.size (g271 :: []) P) g.y.kids (.slice a132 g.y.kids.length c133)) ∧ (LiesQ W266 (Par w V0.heap.size (g271 :: []) P) g.h.kids (.slice a135 g.h.kids.length c136)) ∧ (W266.heap[g271]? = some (.cells #[.int .i64 0, .int .i64 0, .int .i64 0, .int .i64 0, .int .i64 0, .slice none 0 0, .int .i64 0, .int .i64 0, .int .i64 0, .int .i64 0, .slice none 0 0, .int .i64 0, .int .i64 0, .int .i64 0, .int .i64 0, .slice none 0 0, .int .i64 0, .int .i64 0, .int .i64 0, .int .i64 0, .slice none 0 0, .int .i64 0, .int .i64 0, .int .i64 0, .int .i64 0, .slice none 0 0] 51 (0, 0))) ∧ (V0.heap.size ≤ g271) ∧ (W31.heap.size ≤ g271) ∧ (W31.heap.size ≤ g271) ∧ (XLt (g271 :: []) W266)))
            intro HJj42
            apply (via_joinACACACACACHACACACACACCC (K := fun w649 a63 c64 a66 c67 a69 c70 a72 c73 a75 c76 U652 a663 c664 a666 c667 a669 c670 a672 c673 a675 c676 g489 g320 => (Kept W31 w649) ∧ (turned g = U652) ∧ (LiesQ w649 (Par w V0.heap.size (g320 :: (g489 :: [])) P) U652.a.kids (.slice a663 U652.a.kids.length c664)) ∧ (LiesQ w649 (Par w V0.heap.size (g320 :: (g489 :: [])) P) U652.b.kids (.slice a666 U652.b.kids.length c667)) ∧ (LiesQ w649 (Par w V0.heap.size (g320 :: (g489 :: [])) P) U652.x.kids (.slice a669 U652.x.kids.length c670)) ∧ (LiesQ w649 (Par w V0.heap.size (g320 :: (g489 :: [])) P) U652.y.kids (.slice a672 U652.y.kids.length c673)) ∧ (LiesQ w649 (Par w V0.heap.size (g320 :: (g489 :: [])) P) U652.h.kids (.slice a675 U652.h.kids.length c676)) ∧ (w649.heap[g489]? = some (.cells #[.int .i64 0, .int .i64 0, .int .i64 0, .int .i64 0, .int .i64 0, .slice none 0 0, .int .i64 0, .int .i64 0, .int .i64 0, .int .i64 0, .slice none 0 0, .int .i64 0, .int .i64 0, .int .i64 0, .int .i64 0, .slice none 0 0, .int .i64 0, .int .i64 0, .int .i64 0, .int .i64 0, .slice none 0 0, .int .i64 0, .int .i64 0, .int .i64 0, .int .i64 0, .slice none 0 0] 51 (0, 0))) ∧ (w649.heap[g320]? = some (.cells #[.int .i64 0, .int .i64 0, .int .i64 0, .int .i64 0, .int .i64 0, .slice none 0 0, .int .i64 0, .int .i64 0, .int .i64 0, .int .i64 0, .slice none 0 0, .int .i64 0, .int .i64 0, .int .i64 0, .int .i64 0, .slice none 0 0, .int .i64 0, .int .i64 0, .int .i64 0, .int .i64 0, .slice none 0 0, .int .i64 0, .int .i64 0, .int .i64 0, .int .i64 0, .slice none 0 0] 51 (0, 0))) ∧ (V0.heap.size ≤ g489) ∧ (W31.heap.size ≤ g489) ∧ (W31.heap.size ≤ g489) ∧ (V0.heap.size ≤ g320) ∧ (W31.heap.size ≤ g320) ∧ (W31.heap.size ≤ g320) ∧ (g489 ≠ g320) ∧ (XLt (g320 :: (g489 :: [])) w649)))
            intro HJj41
            apply (via_joinACACACACACHACACACACACC (K := fun W279 a63 c64 a66 c67 a69 c70 a72 c73 a75 c76 U82 a93 c94 a96 c97 a99 c100 a102 c103 a105 c106 g284 => (Kept W31 W279) ∧ (turned g = U82) ∧ (LiesQ W279 (Par w V0.heap.size (g284 :: []) P) U82.a.kids (.slice a93 U82.a.kids.length c94)) ∧ (LiesQ W279 (Par w V0.heap.size (g284 :: []) P) U82.b.kids (.slice a96 U82.b.kids.length c97)) ∧ (LiesQ W279 (Par w V0.heap.size (g284 :: []) P) U82.x.kids (.slice a99 U82.x.kids.length c100)) ∧ (LiesQ W279 (Par w V0.heap.size (g284 :: []) P) U82.y.kids (.slice a102 U82.y.kids.length c103)) ∧ (LiesQ W279 (Par w V0.heap.size (g284 :: []) P) U82.h.kids (.slice a105 U82.h.kids.length c106)) ∧ (W279.heap[g284]? = some (.cells #[.int .i64 0, .int .i64 0, .int .i64 0, .int .i64 0, .int .i64 0, .slice none 0 0, .int .i64 0, .int .i64 0, .int .i64 0, .int .i64 0, .slice none 0 0, .int .i64 0, .int .i64 0, .int .i64 0, .int .i64 0, .slice none 0 0, .int .i64 0, .int .i64 0, .int .i64 0, .int .i64 0, .slice none 0 0, .int .i64 0, .int .i64 0, .int .i64 0, .int .i64 0, .slice none 0 0] 51 (0, 0))) ∧ (V0.heap.size ≤ g284) ∧ (W31.heap.size ≤ g284) ∧ (W31.heap.size ≤ g284) ∧ (XLt (g284 :: []) W279)))
            intro HJj40
            apply (via_joinACACACACACHACACACACACC (K := fun W291 a63 c64 a66 c67 a69 c70 a72 c73 a75 c76 U82 a93 c94 a96 c97 a99 c100 a102 c103 a105 c106 g296 => (Kept W31 W291) ∧ (turned g = U82) ∧ (LiesQ W291 (Par w V0.heap.size (g296 :: []) P) U82.a.kids (.slice a93 U82.a.kids.length c94)) ∧ (LiesQ W291 (Par w V0.heap.size (g296 :: []) P) U82.b.kids (.slice a96 U82.b.kids.length c97)) ∧ (LiesQ W291 (Par w V0.heap.size (g296 :: []) P) U82.x.kids (.slice a99 U82.x.kids.length c100)) ∧ (LiesQ W291 (Par w V0.heap.size (g296 :: []) P) U82.y.kids (.slice a102 U82.y.kids.length c103)) ∧ (LiesQ W291 (Par w V0.heap.size (g296 :: []) P) U82.h.kids (.slice a105 U82.h.kids.length c106)) ∧ (W291.heap[g296]? = some (.cells #[.int .i64 0, .int .i64 0, .int .i64 0, .int .i64 0, .int .i64 0, .slice none 0 0, .int .i64 0, .int .i64 0, .int .i64 0, .int .i64 0, .slice none 0 0, .int .i64 0, .int .i64 0, .int .i64 0, .int .i64 0, .slice none 0 0, .int .i64 0, .int .i64 0, .int .i64 0, .int .i64 0, .slice none 0 0, .int .i64 0, .int .i64 0, .int .i64 0, .int .i64 0, .slice none 0 0] 51 (0, 0))) ∧ (V0.heap.size ≤ g296) ∧ (W31.heap.size ≤ g296) ∧ (W31.heap.size ≤ g296) ∧ (XLt (g296 :: []) W291)))
            intro HJj39
            apply (via_joinACACACACACCC (K := fun W484 a63 c64 a66 c67 a69 c70 a72 c73 a75 c76 g489 g320 => (Kept W31 W484) ∧ (LiesQ W484 (Par w V0.heap.size (g320 :: (g489 :: [])) P) g.a.kids (.slice a63 g.a.kids.length c64)) ∧ (LiesQ W484 (Par w V0.heap.size (g320 :: (g489 :: [])) P) g.b.kids (.slice a66 g.b.kids.length c67)) ∧ (LiesQ W484 (Par w V0.heap.size (g320 :: (g489 :: [])) P) g.x.kids (.slice a69 g.x.kids.length c70)) ∧ (LiesQ W484 (Par w V0.heap.size (g320 :: (g489 :: [])) P) g.y.kids (.slice a72 g.y.kids.length c73)) ∧ (LiesQ W484 (Par w V0.heap.size (g320 :: (g489 :: [])) P) g.h.kids (.slice a75 g.h.kids.length c76)) ∧ (W484.heap[g489]? = some (.cells #[.int .i64 0, .int .i64 0, .int .i64 0, .int .i64 0, .int .i64 0, .slice none 0 0, .int .i64 0, .int .i64 0, .int .i64 0, .int .i64 0, .slice none 0 0, .int .i64 0, .int .i64 0, .int .i64 0, .int .i64 0, .slice none 0 0, .int .i64 0, .int .i64 0, .int .i64 0, .int .i64 0, .slice none 0 0, .int .i64 0, .int .i64 0, .int .i64 0, .int .i64 0, .slice none 0 0] 51 (0, 0))) ∧ (W484.heap[g320]? = some (.cells #[.int .i64 0, .int .i64 0, .int .i64 0, .int .i64 0, .int .i64 0, .slice none 0 0, .int .i64 0, .int .i64 0, .int .i64 0, .int .i64 0, .slice none 0 0, .int .i64 0, .int .i64 0, .int .i64 0, .int .i64 0, .slice none 0 0, .int .i64 0, .int .i64 0, .int .i64 0, .int .i64 0, .slice none 0 0, .int .i64 0, .int .i64 0, .int .i64 0, .int .i64 0, .slice none 0 0] 51 (0, 0))) ∧ (V0.heap.size ≤ g489) ∧ (W31.heap.size ≤ g489) ∧ (W31.heap.size ≤ g489) ∧ (V0.heap.size ≤ g320) ∧ (W31.heap.size ≤ g320) ∧ (W31.heap.size ≤ g320) ∧ (g489 ≠ g320) ∧ (XLt (g320 :: (g489 :: [])) W484)))
            intro HJj38
            apply (via_joinACACACACACC (K := fun W303 a63 c64 a66 c67 a69 c70 a72 c73 a75 c76 g308 => (Kept W31 W303) ∧ (LiesQ W303 (Par w V0.heap.size (g308 :: []) P) g.a.kids (.slice a63 g.a.kids.length c64)) ∧ (LiesQ W303 (Par w V0.heap.size (g308 :: []) P) g.b.kids (.slice a66 g.b.kids.length c67)) ∧ (LiesQ W303 (Par w V0.heap.size (g308 :: []) P) g.x.kids (.slice a69 g.x.kids.length c70)) ∧ (LiesQ W303 (Par w V0.heap.size (g308 :: []) P) g.y.kids (.slice a72 g.y.kids.length c73)) ∧ (LiesQ W303 (Par w V0.heap.size (g308 :: []) P) g.h.kids (.slice a75 g.h.kids.length c76)) ∧ (W303.heap[g308]? = some (.cells #[.int .i64 0, .int .i64 0, .int .i64 0, .int .i64 0, .int .i64 0, .slice none 0 0, .int .i64 0, .int .i64 0, .int .i64 0, .int .i64 0, .slice none 0 0, .int .i64 0, .int .i64 0, .int .i64 0, .int .i64 0, .slice none 0 0, .int .i64 0, .int .i64 0, .int .i64 0, .int .i64 0, .slice none 0 0, .int .i64 0, .int .i64 0, .int .i64 0, .int .i64 0, .slice none 0 0] 51 (0, 0))) ∧ (V0.heap.size ≤ g308) ∧ (W31.heap.size ≤ g308) ∧ (W31.heap.size ≤ g308) ∧ (XLt (g308 :: []) W303)))
            intro HJj37
            apply (via_joinCC (K := fun W366 g332 g371 => (Kept W31 W366) ∧ (W366.heap[g332]? = some (.cells #[.int .i64 0, .int .i64 0, .int .i64 0, .int .i64 0, .int .i64 0, .slice none 0 0, .int .i64 0, .int .i64 0, .int .i64 0, .int .i64 0, .slice none 0 0, .int .i64 0, .int .i64 0, .int .i64 0, .int .i64 0, .slice none 0 0, .int .i64 0, .int .i64 0, .int .i64 0, .int .i64 0, .slice none 0 0, .int .i64 0, .int .i64 0, .int .i64 0, .int .i64 0, .slice none 0 0] 51 (0, 0))) ∧ (W366.heap[g371]? = some (.cells #[.int .i64 0, .int .i64 0, .int .i64 0, .int .i64 0, .int .i64 0, .slice none 0 0, .int .i64 0, .int .i64 0, .int .i64 0, .int .i64 0, .slice none 0 0, .int .i64 0, .int .i64 0, .int .i64 0, .int .i64 0, .slice none 0 0, .int .i64 0, .int .i64 0, .int .i64 0, .int .i64 0, .slice none 0 0, .int .i64 0, .int .i64 0, .int .i64 0, .int .i64 0, .slice none 0 0] 51 (0, 0))) ∧ (V0.heap.size ≤ g332) ∧ (W31.heap.size ≤ g332) ∧ (W31.heap.size ≤ g332) ∧ (V0.heap.size ≤ g371) ∧ (W31.heap.size ≤ g371) ∧ (W31.heap.size ≤ g371) ∧ (g332 ≠ g371) ∧ (XLt (g371 :: (g332 :: [])) W366)))
            intro HJj36
            apply (via_joinACACACACACC (K := fun W315 a63 c64 a66 c67 a69 c70 a72 c73 a75 c76 g320 => (Kept W31 W315) ∧ (LiesQ W315 (Par w V0.heap.size (g320 :: []) P) g.a.kids (.slice a63 g.a.kids.length c64)) ∧ (LiesQ W315 (Par w V0.heap.size (g320 :: []) P) g.b.kids (.slice a66 g.b.kids.length c67)) ∧ (LiesQ W315 (Par w V0.heap.size (g320 :: []) P) g.x.kids (.slice a69 g.x.kids.length c70)) ∧ (LiesQ W315 (Par w V0.heap.size (g320 :: []) P) g.y.kids (.slice a72 g.y.kids.length c73)) ∧ (LiesQ W315 (Par w V0.heap.size (g320 :: []) P) g.h.kids (.slice a75 g.h.kids.length c76)) ∧ (W315.heap[g320]? = some (.cells #[.int .i64 0, .int .i64 0, .int .i64 0, .int .i64 0, .int .i64 0, .slice none 0 0, .int .i64 0, .int .i64 0, .int .i64 0, .int .i64 0, .slice none 0 0, .int .i64 0, .int .i64 0, .int .i64 0, .int .i64 0, .slice none 0 0, .int .i64 0, .int .i64 0, .int .i64 0, .int .i64 0, .slice none 0 0, .int .i64 0, .int .i64 0, .int .i64 0, .int .i64 0, .slice none 0 0] 51 (0, 0))) ∧ (V0.heap.size ≤ g320) ∧ (W31.heap.size ≤ g320) ∧ (W31.heap.size ≤ g320) ∧ (XLt (g320 :: []) W315)))
            intro HJj35
            · refine wpAnyH_ready (rs := [1, 8, 9]) (by kernel_rfl) (by simp) ?_
              refine AllReadyH.cons (o := hetEndsr3_1) rfl (fun K hK => ?_) ?_
              · unfold hetEndsr3_1
                go_simp
                refine (lours_any g (Par w V0.heap.size [] P) _ (.slice aga g.a.kids.length cga) (.slice agb g.b.kids.length cgb) (.slice agx g.x.kids.length cgx) (.slice agy g.y.kids.length cgy) (.slice agh g.h.kids.length cgh) ⟨Gg.out.1, Gg.out.2.1, Gg.out.2.2.1, Gg.out.2.2.2.1, Gg.out.2.2.2.2.1, Gg.out.2.2.2.2.2⟩ ⟨(HLga.out.later (kept_trans Kk12.out (kept_trans Kk17.out (kept_trans Kk22.out (kept_trans Kk28.out Kk34.out))))), (HLgb.out.later (kept_trans Kk12.out (kept_trans Kk17.out (kept_trans Kk22.out (kept_trans Kk28.out Kk34.out))))), (HLgx.out.later (kept_trans Kk12.out (kept_trans Kk17.out (kept_trans Kk22.out (kept_trans Kk28.out Kk34.out))))), (HLgy.out.later (kept_trans Kk12.out (kept_trans Kk17.out (kept_trans Kk22.out (kept_trans Kk28.out Kk34.out))))), (HLgh.out.later (kept_trans Kk12.out (kept_trans Kk17.out (kept_trans Kk22.out (kept_trans Kk28.out Kk34.out)))))⟩).mono ?_
                rintro e w51 ⟨s53, s54, s55, s56, s57, rfl, ⟨hl58, hl59, hl60, hl61, hl62⟩, k52⟩
                obtain ⟨a63, c64, S65, rfl, -⟩ := hl58.out
                obtain ⟨a66, c67, S68, rfl, -⟩ := hl59.out
                obtain ⟨a69, c70, S71, rfl, -⟩ := hl60.out
                obtain ⟨a72, c73, S74, rfl, -⟩ := hl61.out
                obtain ⟨a75, c76, S77, rfl, -⟩ := hl62.out
                have Kk78 := Lib.hid k52
                clear k52
                have Hhl58 : Hid (LiesQ w51 (Par w V0.heap.size [] P) g.a.kids _) := par_give hl58 (Below.size (kept_trans Kk12.out (kept_trans Kk17.out (kept_trans Kk22.out (kept_trans Kk28.out Kk34.out))))) (xlt_nil _)
                have Hhl59 : Hid (LiesQ w51 (Par w V0.heap.size [] P) g.b.kids _) := par_give hl59 (Below.size (kept_trans Kk12.out (kept_trans Kk17.out (kept_trans Kk22.out (kept_trans Kk28.out Kk34.out))))) (xlt_nil _)
                have Hhl60 : Hid (LiesQ w51 (Par w V0.heap.size [] P) g.x.kids _) := par_give hl60 (Below.size (kept_trans Kk12.out (kept_trans Kk17.out (kept_trans Kk22.out (kept_trans Kk28.out Kk34.out))))) (xlt_nil _)
                have Hhl61 : Hid (LiesQ w51 (Par w V0.heap.size [] P) g.y.kids _) := par_give hl61 (Below.size (kept_trans Kk12.out (kept_trans Kk17.out (kept_trans Kk22.out (kept_trans Kk28.out Kk34.out))))) (xlt_nil _)
                have Hhl62 : Hid (LiesQ w51 (Par w V0.heap.size [] P) g.h.kids _) := par_give hl62 (Below.size (kept_trans Kk12.out (kept_trans Kk17.out (kept_trans Kk22.out (kept_trans Kk28.out Kk34.out))))) (xlt_nil _)
                clear hl58 hl59 hl60 hl61 hl62
                (try clear hHeld)
                refine hK.out _ _ ?_ (fun hHeld => ?_)
                · (try dsimp only)
                  exact seesN_kept _ Kk78.out
                clear hK K
                (try simp only [Act.put, List.setIfInBounds_toArray, List.set_cons_zero, List.set_cons_succ])
                refine wpAnyH_ready (rs := [2, 8, 9]) (by kernel_rfl) (by simp) ?_
                refine AllReadyH.cons (o := hetEndsr3_2) rfl (fun K hK => ?_) ?_
                · unfold hetEndsr3_2
                  go_simp
                  have hq81 := hturn_any g (Par w V0.heap.size [] P) w51 (.slice a63 g.a.kids.length c64) (.slice a66 g.b.kids.length c67) (.slice a69 g.x.kids.length c70) (.slice a72 g.y.kids.length c73) (.slice a75 g.h.kids.length c76) ⟨((show He.fine g from ⟨Gg.out.1, Gg.out.2.1, Gg.out.2.2.1, Gg.out.2.2.2.1, Gg.out.2.2.2.2.1, Gg.out.2.2.2.2.2⟩)).1, ((show He.fine g from ⟨Gg.out.1, Gg.out.2.1, Gg.out.2.2.1, Gg.out.2.2.2.1, Gg.out.2.2.2.2.1, Gg.out.2.2.2.2.2⟩)).2.1, ((show He.fine g from ⟨Gg.out.1, Gg.out.2.1, Gg.out.2.2.1, Gg.out.2.2.2.1, Gg.out.2.2.2.2.1, Gg.out.2.2.2.2.2⟩)).2.2.1, ((show He.fine g from ⟨Gg.out.1, Gg.out.2.1, Gg.out.2.2.1, Gg.out.2.2.2.1, Gg.out.2.2.2.2.1, Gg.out.2.2.2.2.2⟩)).2.2.2.1, ((show He.fine g from ⟨Gg.out.1, Gg.out.2.1, Gg.out.2.2.1, Gg.out.2.2.2.1, Gg.out.2.2.2.2.1, Gg.out.2.2.2.2.2⟩)).2.2.2.2.1, ((show He.fine g from ⟨Gg.out.1, Gg.out.2.1, Gg.out.2.2.1, Gg.out.2.2.2.1, Gg.out.2.2.2.2.1, Gg.out.2.2.2.2.2⟩)).2.2.2.2.2⟩ ⟨Hhl58.out, Hhl59.out, Hhl60.out, Hhl61.out, Hhl62.out⟩
                  rw [turn_good Hhb20.out] at hq81
                  refine hq81.mono ?_
                  clear hq81
                  obtain ⟨U82, hU82⟩ : ∃ qu, turned g = qu := ⟨_, rfl⟩
                  rw [hU82]
                  have HU82 := Lib.hid hU82
                  clear hU82
                  rintro e w79 ⟨s83, s84, s85, s86, s87, rfl, ⟨hl88, hl89, hl90, hl91, hl92⟩, k80⟩
                  obtain ⟨a93, c94, S95, rfl, -⟩ := hl88.out
                  obtain ⟨a96, c97, S98, rfl, -⟩ := hl89.out
                  obtain ⟨a99, c100, S101, rfl, -⟩ := hl90.out
                  obtain ⟨a102, c103, S104, rfl, -⟩ := hl91.out
                  obtain ⟨a105, c106, S107, rfl, -⟩ := hl92.out
                  have Kk108 := Lib.hid k80
                  clear k80
                  have Hhl88 : Hid (LiesQ w79 (Par w V0.heap.size [] P) U82.a.kids _) := par_give hl88 (Below.size (kept_trans Kk12.out (kept_trans Kk17.out (kept_trans Kk22.out (kept_trans Kk28.out (kept_trans Kk34.out Kk78.out)))))) (xlt_nil _)
                  have Hhl89 : Hid (LiesQ w79 (Par w V0.heap.size [] P) U82.b.kids _) := par_give hl89 (Below.size (kept_trans Kk12.out (kept_trans Kk17.out (kept_trans Kk22.out (kept_trans Kk28.out (kept_trans Kk34.out Kk78.out)))))) (xlt_nil _)
                  have Hhl90 : Hid (LiesQ w79 (Par w V0.heap.size [] P) U82.x.kids _) := par_give hl90 (Below.size (kept_trans Kk12.out (kept_trans Kk17.out (kept_trans Kk22.out (kept_trans Kk28.out (kept_trans Kk34.out Kk78.out)))))) (xlt_nil _)
                  have Hhl91 : Hid (LiesQ w79 (Par w V0.heap.size [] P) U82.y.kids _) := par_give hl91 (Below.size (kept_trans Kk12.out (kept_trans Kk17.out (kept_trans Kk22.out (kept_trans Kk28.out (kept_trans Kk34.out Kk78.out)))))) (xlt_nil _)
                  have Hhl92 : Hid (LiesQ w79 (Par w V0.heap.size [] P) U82.h.kids _) := par_give hl92 (Below.size (kept_trans Kk12.out (kept_trans Kk17.out (kept_trans Kk22.out (kept_trans Kk28.out (kept_trans Kk34.out Kk78.out)))))) (xlt_nil _)
                  clear hl88 hl89 hl90 hl91 hl92
                  have fi109 : (U82.i == g.i) = true := by rw [← HU82.out]; exact beq_iff_eq.2 rfl
                  have fi110 : (U82.i != g.i) = false := by rw [← HU82.out]; exact bne_eq_false_iff_eq.2 rfl
                  (try clear hHeld)
                  refine hK.out _ _ ?_ (fun hHeld => ?_)
                  · (try dsimp only)
                    exact seesN_kept _ (kept_trans Kk78.out Kk108.out)
                  clear hK K
                  (try simp only [Act.put, List.setIfInBounds_toArray, List.set_cons_zero, List.set_cons_succ])
                  refine wpAnyH_ready (rs := [4, 8, 9]) (by kernel_rfl) (by simp) ?_
                  refine AllReadyH.cons (o := hetEndsr3_4) rfl (fun K hK => ?_) ?_
                  · unfold hetEndsr3_4
                    go_simp
                    refine (lours_any g (Par w V0.heap.size [] P) _ (.slice aga g.a.kids.length cga) (.slice agb g.b.kids.length cgb) (.slice agx g.x.kids.length cgx) (.slice agy g.y.kids.length cgy) (.slice agh g.h.kids.length cgh) ⟨Gg.out.1, Gg.out.2.1, Gg.out.2.2.1, Gg.out.2.2.2.1, Gg.out.2.2.2.2.1, Gg.out.2.2.2.2.2⟩ ⟨(HLga.out.later (kept_trans Kk12.out (kept_trans Kk17.out (kept_trans Kk22.out (kept_trans Kk28.out (kept_trans Kk34.out (kept_trans Kk78.out Kk108.out))))))), (HLgb.out.later (kept_trans Kk12.out (kept_trans Kk17.out (kept_trans Kk22.out (kept_trans Kk28.out (kept_trans Kk34.out (kept_trans Kk78.out Kk108.out))))))), (HLgx.out.later (kept_trans Kk12.out (kept_trans Kk17.out (kept_trans Kk22.out (kept_trans Kk28.out (kept_trans Kk34.out (kept_trans Kk78.out Kk108.out))))))), (HLgy.out.later (kept_trans Kk12.out (kept_trans Kk17.out (kept_trans Kk22.out (kept_trans Kk28.out (kept_trans Kk34.out (kept_trans Kk78.out Kk108.out))))))), (HLgh.out.later (kept_trans Kk12.out (kept_trans Kk17.out (kept_trans Kk22.out (kept_trans Kk28.out (kept_trans Kk34.out (kept_trans Kk78.out Kk108.out)))))))⟩).mono ?_
                    rintro e w111 ⟨s113, s114, s115, s116, s117, rfl, ⟨hl118, hl119, hl120, hl121, hl122⟩, k112⟩
                    obtain ⟨a123, c124, S125, rfl, -⟩ := hl118.out
                    obtain ⟨a126, c127, S128, rfl, -⟩ := hl119.out
                    obtain ⟨a129, c130, S131, rfl, -⟩ := hl120.out
                    obtain ⟨a132, c133, S134, rfl, -⟩ := hl121.out
                    obtain ⟨a135, c136, S137, rfl, -⟩ := hl122.out
                    have Kk138 := Lib.hid k112
                    clear k112
                    have Hhl118 : Hid (LiesQ w111 (Par w V0.heap.size [] P) g.a.kids _) := par_give hl118 (Below.size (kept_trans Kk12.out (kept_trans Kk17.out (kept_trans Kk22.out (kept_trans Kk28.out (kept_trans Kk34.out (kept_trans Kk78.out Kk108.out))))))) (xlt_nil _)
                    have Hhl119 : Hid (LiesQ w111 (Par w V0.heap.size [] P) g.b.kids _) := par_give hl119 (Below.size (kept_trans Kk12.out (kept_trans Kk17.out (kept_trans Kk22.out (kept_trans Kk28.out (kept_trans Kk34.out (kept_trans Kk78.out Kk108.out))))))) (xlt_nil _)
                    have Hhl120 : Hid (LiesQ w111 (Par w V0.heap.size [] P) g.x.kids _) := par_give hl120 (Below.size (kept_trans Kk12.out (kept_trans Kk17.out (kept_trans Kk22.out (kept_trans Kk28.out (kept_trans Kk34.out (kept_trans Kk78.out Kk108.out))))))) (xlt_nil _)
                    have Hhl121 : Hid (LiesQ w111 (Par w V0.heap.size [] P) g.y.kids _) := par_give hl121 (Below.size (kept_trans Kk12.out (kept_trans Kk17.out (kept_trans Kk22.out (kept_trans Kk28.out (kept_trans Kk34.out (kept_trans Kk78.out Kk108.out))))))) (xlt_nil _)
                    have Hhl122 : Hid (LiesQ w111 (Par w V0.heap.size [] P) g.h.kids _) := par_give hl122 (Below.size (kept_trans Kk12.out (kept_trans Kk17.out (kept_trans Kk22.out (kept_trans Kk28.out (kept_trans Kk34.out (kept_trans Kk78.out Kk108.out))))))) (xlt_nil _)
                    clear hl118 hl119 hl120 hl121 hl122
                    (try clear hHeld)
                    refine hK.out _ _ ?_ (fun hHeld => ?_)
                    · (try dsimp only)
                      exact seesN_kept _ (kept_trans Kk78.out (kept_trans Kk108.out Kk138.out))
                    clear hK K
                    (try simp only [Act.put, List.setIfInBounds_toArray, List.set_cons_zero, List.set_cons_succ])
                    refine wpAnyH_ready (rs := [6, 8, 9]) (by kernel_rfl) (by simp) ?_
                    refine AllReadyH.cons (o := hetEndsr3_6) rfl (fun K hK => ?_) ?_
                    · unfold hetEndsr3_6
                      go_simp
                      refine (lours_any h (Par w V0.heap.size [] P) _ (.slice aha h.a.kids.length cha) (.slice ahb h.b.kids.length chb) (.slice ahx h.x.kids.length chx) (.slice ahy h.y.kids.length chy) (.slice ahh h.h.kids.length chh) ⟨Gh.out.1, Gh.out.2.1, Gh.out.2.2.1, Gh.out.2.2.2.1, Gh.out.2.2.2.2.1, Gh.out.2.2.2.2.2⟩ ⟨(HLha.out.later (kept_trans Kk12.out (kept_trans Kk17.out (kept_trans Kk22.out (kept_trans Kk28.out (kept_trans Kk34.out (kept_trans Kk78.out (kept_trans Kk108.out Kk138.out)))))))), (HLhb.out.later (kept_trans Kk12.out (kept_trans Kk17.out (kept_trans Kk22.out (kept_trans Kk28.out (kept_trans Kk34.out (kept_trans Kk78.out (kept_trans Kk108.out Kk138.out)))))))), (HLhx.out.later (kept_trans Kk12.out (kept_trans Kk17.out (kept_trans Kk22.out (kept_trans Kk28.out (kept_trans Kk34.out (kept_trans Kk78.out (kept_trans Kk108.out Kk138.out)))))))), (HLhy.out.later (kept_trans Kk12.out (kept_trans Kk17.out (kept_trans Kk22.out (kept_trans Kk28.out (kept_trans Kk34.out (kept_trans Kk78.out (kept_trans Kk108.out Kk138.out)))))))), (HLhh.out.later (kept_trans Kk12.out (kept_trans Kk17.out (kept_trans Kk22.out (kept_trans Kk28.out (kept_trans Kk34.out (kept_trans Kk78.out (kept_trans Kk108.out Kk138.out))))))))⟩).mono ?_
                      rintro e w139 ⟨s141, s142, s143, s144, s145, rfl, ⟨hl146, hl147, hl148, hl149, hl150⟩, k140⟩
                      obtain ⟨a151, c152, S153, rfl, -⟩ := hl146.out
                      obtain ⟨a154, c155, S156, rfl, -⟩ := hl147.out
                      obtain ⟨a157, c158, S159, rfl, -⟩ := hl148.out
                      obtain ⟨a160, c161, S162, rfl, -⟩ := hl149.out
                      obtain ⟨a163, c164, S165, rfl, -⟩ := hl150.out
                      have Kk166 := Lib.hid k140
                      clear k140
                      have Hhl146 : Hid (LiesQ w139 (Par w V0.heap.size [] P) h.a.kids _) := par_give hl146 (Below.size (kept_trans Kk12.out (kept_trans Kk17.out (kept_trans Kk22.out (kept_trans Kk28.out (kept_trans Kk34.out (kept_trans Kk78.out (kept_trans Kk108.out Kk138.out)))))))) (xlt_nil _)
                      have Hhl147 : Hid (LiesQ w139 (Par w V0.heap.size [] P) h.b.kids _) := par_give hl147 (Below.size (kept_trans Kk12.out (kept_trans Kk17.out (kept_trans Kk22.out (kept_trans Kk28.out (kept_trans Kk34.out (kept_trans Kk78.out (kept_trans Kk108.out Kk138.out)))))))) (xlt_nil _)
                      have Hhl148 : Hid (LiesQ w139 (Par w V0.heap.size [] P) h.x.kids _) := par_give hl148 (Below.size (kept_trans Kk12.out (kept_trans Kk17.out (kept_trans Kk22.out (kept_trans Kk28.out (kept_trans Kk34.out (kept_trans Kk78.out (kept_trans Kk108.out Kk138.out)))))))) (xlt_nil _)
                      have Hhl149 : Hid (LiesQ w139 (Par w V0.heap.size [] P) h.y.kids _) := par_give hl149 (Below.size (kept_trans Kk12.out (kept_trans Kk17.out (kept_trans Kk22.out (kept_trans Kk28.out (kept_trans Kk34.out (kept_trans Kk78.out (kept_trans Kk108.out Kk138.out)))))))) (xlt_nil _)
                      have Hhl150 : Hid (LiesQ w139 (Par w V0.heap.size [] P) h.h.kids _) := par_give hl150 (Below.size (kept_trans Kk12.out (kept_trans Kk17.out (kept_trans Kk22.out (kept_trans Kk28.out (kept_trans Kk34.out (kept_trans Kk78.out (kept_trans Kk108.out Kk138.out)))))))) (xlt_nil _)
                      clear hl146 hl147 hl148 hl149 hl150
                      (try clear hHeld)
                      refine hK.out _ _ ?_ (fun hHeld => ?_)
                      · (try dsimp only)
                        exact seesN_kept _ (kept_trans Kk78.out (kept_trans Kk108.out (kept_trans Kk138.out Kk166.out)))
                      clear hK K
                      (try simp only [Act.put, List.setIfInBounds_toArray, List.set_cons_zero, List.set_cons_succ])
                      refine wpAnyH_ready (rs := [7, 8, 9]) (by kernel_rfl) (by simp) ?_
                      refine AllReadyH.cons (o := hetEndsr3_7) rfl (fun K hK => ?_) ?_
                      · unfold hetEndsr3_7
                        go_simp
                        have hq169 := hthen_any g h (Par w V0.heap.size [] P) w139 (.slice a123 g.a.kids.length c124) (.slice a126 g.b.kids.length c127) (.slice a129 g.x.kids.length c130) (.slice a132 g.y.kids.length c133) (.slice a135 g.h.kids.length c136) (.slice a151 h.a.kids.length c152) (.slice a154 h.b.kids.length c155) (.slice a157 h.x.kids.length c158) (.slice a160 h.y.kids.length c161) (.slice a163 h.h.kids.length c164) ⟨((show He.fine g from ⟨Gg.out.1, Gg.out.2.1, Gg.out.2.2.1, Gg.out.2.2.2.1, Gg.out.2.2.2.2.1, Gg.out.2.2.2.2.2⟩)).1, ((show He.fine g from ⟨Gg.out.1, Gg.out.2.1, Gg.out.2.2.1, Gg.out.2.2.2.1, Gg.out.2.2.2.2.1, Gg.out.2.2.2.2.2⟩)).2.1, ((show He.fine g from ⟨Gg.out.1, Gg.out.2.1, Gg.out.2.2.1, Gg.out.2.2.2.1, Gg.out.2.2.2.2.1, Gg.out.2.2.2.2.2⟩)).2.2.1, ((show He.fine g from ⟨Gg.out.1, Gg.out.2.1, Gg.out.2.2.1, Gg.out.2.2.2.1, Gg.out.2.2.2.2.1, Gg.out.2.2.2.2.2⟩)).2.2.2.1, ((show He.fine g from ⟨Gg.out.1, Gg.out.2.1, Gg.out.2.2.1, Gg.out.2.2.2.1, Gg.out.2.2.2.2.1, Gg.out.2.2.2.2.2⟩)).2.2.2.2.1, ((show He.fine g from ⟨Gg.out.1, Gg.out.2.1, Gg.out.2.2.1, Gg.out.2.2.2.1, Gg.out.2.2.2.2.1, Gg.out.2.2.2.2.2⟩)).2.2.2.2.2⟩ ⟨(Hhl118.out.later Kk166.out), (Hhl119.out.later Kk166.out), (Hhl120.out.later Kk166.out), (Hhl121.out.later Kk166.out), (Hhl122.out.later Kk166.out)⟩ ⟨((show He.fine h from ⟨Gh.out.1, Gh.out.2.1, Gh.out.2.2.1, Gh.out.2.2.2.1, Gh.out.2.2.2.2.1, Gh.out.2.2.2.2.2⟩)).1, ((show He.fine h from ⟨Gh.out.1, Gh.out.2.1, Gh.out.2.2.1, Gh.out.2.2.2.1, Gh.out.2.2.2.2.1, Gh.out.2.2.2.2.2⟩)).2.1, ((show He.fine h from ⟨Gh.out.1, Gh.out.2.1, Gh.out.2.2.1, Gh.out.2.2.2.1, Gh.out.2.2.2.2.1, Gh.out.2.2.2.2.2⟩)).2.2.1, ((show He.fine h from ⟨Gh.out.1, Gh.out.2.1, Gh.out.2.2.1, Gh.out.2.2.2.1, Gh.out.2.2.2.2.1, Gh.out.2.2.2.2.2⟩)).2.2.2.1, ((show He.fine h from ⟨Gh.out.1, Gh.out.2.1, Gh.out.2.2.1, Gh.out.2.2.2.1, Gh.out.2.2.2.2.1, Gh.out.2.2.2.2.2⟩)).2.2.2.2.1, ((show He.fine h from ⟨Gh.out.1, Gh.out.2.1, Gh.out.2.2.1, Gh.out.2.2.2.1, Gh.out.2.2.2.2.1, Gh.out.2.2.2.2.2⟩)).2.2.2.2.2⟩ ⟨Hhl146.out, Hhl147.out, Hhl148.out, Hhl149.out, Hhl150.out⟩
                        rw [then_good Hhb20.out Hhb26.out Hc30.out] at hq169
                        refine hq169.mono ?_
                        clear hq169
                        obtain ⟨U170, hU170⟩ : ∃ qu, chained g h = qu := ⟨_, rfl⟩
                        rw [hU170]
                        have HU170 := Lib.hid hU170
                        clear hU170
                        rintro e w167 ⟨s171, s172, s173, s174, s175, rfl, ⟨hl176, hl177, hl178, hl179, hl180⟩, k168⟩
                        obtain ⟨a181, c182, S183, rfl, -⟩ := hl176.out
                        obtain ⟨a184, c185, S186, rfl, -⟩ := hl177.out
                        obtain ⟨a187, c188, S189, rfl, -⟩ := hl178.out
                        obtain ⟨a190, c191, S192, rfl, -⟩ := hl179.out
                        obtain ⟨a193, c194, S195, rfl, -⟩ := hl180.out
                        have Kk196 := Lib.hid k168
                        clear k168
                        have Hhl176 : Hid (LiesQ w167 (Par w V0.heap.size [] P) U170.a.kids _) := par_give hl176 (Below.size (kept_trans Kk12.out (kept_trans Kk17.out (kept_trans Kk22.out (kept_trans Kk28.out (kept_trans Kk34.out (kept_trans Kk78.out (kept_trans Kk108.out (kept_trans Kk138.out Kk166.out))))))))) (xlt_nil _)
                        have Hhl177 : Hid (LiesQ w167 (Par w V0.heap.size [] P) U170.b.kids _) := par_give hl177 (Below.size (kept_trans Kk12.out (kept_trans Kk17.out (kept_trans Kk22.out (kept_trans Kk28.out (kept_trans Kk34.out (kept_trans Kk78.out (kept_trans Kk108.out (kept_trans Kk138.out Kk166.out))))))))) (xlt_nil _)
                        have Hhl178 : Hid (LiesQ w167 (Par w V0.heap.size [] P) U170.x.kids _) := par_give hl178 (Below.size (kept_trans Kk12.out (kept_trans Kk17.out (kept_trans Kk22.out (kept_trans Kk28.out (kept_trans Kk34.out (kept_trans Kk78.out (kept_trans Kk108.out (kept_trans Kk138.out Kk166.out))))))))) (xlt_nil _)
                        have Hhl179 : Hid (LiesQ w167 (Par w V0.heap.size [] P) U170.y.kids _) := par_give hl179 (Below.size (kept_trans Kk12.out (kept_trans Kk17.out (kept_trans Kk22.out (kept_trans Kk28.out (kept_trans Kk34.out (kept_trans Kk78.out (kept_trans Kk108.out (kept_trans Kk138.out Kk166.out))))))))) (xlt_nil _)
                        have Hhl180 : Hid (LiesQ w167 (Par w V0.heap.size [] P) U170.h.kids _) := par_give hl180 (Below.size (kept_trans Kk12.out (kept_trans Kk17.out (kept_trans Kk22.out (kept_trans Kk28.out (kept_trans Kk34.out (kept_trans Kk78.out (kept_trans Kk108.out (kept_trans Kk138.out Kk166.out))))))))) (xlt_nil _)
                        clear hl176 hl177 hl178 hl179 hl180
                        have fi197 : (U170.i == g.i) = true := by rw [← HU170.out]; exact beq_iff_eq.2 rfl
                        have fi198 : (U170.i != g.i) = false := by rw [← HU170.out]; exact bne_eq_false_iff_eq.2 rfl
                        (try clear hHeld)
                        refine hK.out _ _ ?_ (fun hHeld => ?_)
                        · (try dsimp only)
                          exact seesN_kept _ (kept_trans Kk78.out (kept_trans Kk108.out (kept_trans Kk138.out (kept_trans Kk166.out Kk196.out))))
                        clear hK K
                        (try simp only [Act.put, List.setIfInBounds_toArray, List.set_cons_zero, List.set_cons_succ])
                        refine wpAnyH_ready (rs := [8, 9]) (by kernel_rfl) (by simp) ?_
                        refine AllReadyH.cons (o := hetEndsr3_8) rfl (fun K hK => ?_) ?_
                        · unfold hetEndsr3_8
                          go_simp
                          refine at_K (fun W199 hW199 => ?_)
                          obtain ⟨k201, x200, z202⟩ := alloc1 hW199
                          have Kk203 := Lib.hid k201
                          clear k201
                          obtain ⟨g204, hg205⟩ : ∃ q, w167.heap.size = q := ⟨_, rfl⟩
                          rw [hg205] at x200 ⊢
                          have Hx200 := Lib.hid x200
                          have Hz202 := Lib.hid z202
                          clear x200 z202 hW199
                          have HG206 : Hid (V0.heap.size ≤ g204) := (by show _ ≤ _; rw [← hg205]; exact (Below.size (kept_trans Kk12.out (kept_trans Kk17.out (kept_trans Kk22.out (kept_trans Kk28.out (kept_trans Kk34.out (kept_trans Kk78.out (kept_trans Kk108.out (kept_trans Kk138.out (kept_trans Kk166.out Kk196.out)))))))))))
                          have XL207 : Hid (XLt (g204 :: []) W199) := (by show XLt _ _; rw [← hg205]; exact xlt_more (xlt_nil _) Kk203.out (by have := Hz202.out; omega))
                          have HP208 : Hid (w167.heap.size ≤ g204) := (by show _ ≤ _; rw [← hg205]; exact Nat.le_refl _)
                          have HD209 : Hid (W31.heap.size ≤ g204) := (by show _ ≤ _; rw [← hg205]; exact Below.size (kept_trans Kk78.out (kept_trans Kk108.out (kept_trans Kk138.out (kept_trans Kk166.out Kk196.out)))))
                          clear hg205
                          (try clear hHeld)
                          refine hK.out _ _ ?_ (fun hHeld => ?_)
                          · (try dsimp only)
                            exact seesN_kept _ (kept_trans Kk78.out (kept_trans Kk108.out (kept_trans Kk138.out (kept_trans Kk166.out (kept_trans Kk196.out Kk203.out)))))
                          clear hK K
                          (try simp only [Act.put, List.setIfInBounds_toArray, List.set_cons_zero, List.set_cons_succ])
                          have pg210 : ∀ (l : List Tm) (s : Value), LiesQ w79 (Par w V0.heap.size [] P) l s → LiesQ W199 (Par w V0.heap.size (g204 :: []) P) l s := fun _ _ h => par_grow h (kept_trans Kk138.out (kept_trans Kk166.out (kept_trans Kk196.out Kk203.out))) (List.forall_mem_cons.2 ⟨(Or.inr (Nat.le_trans (Below.size (kept_trans Kk138.out (kept_trans Kk166.out Kk196.out))) HP208.out)), (fun _ h => nomatch h)⟩)
                          have pg211 : ∀ (l : List Tm) (s : Value), LiesQ w167 (Par w V0.heap.size [] P) l s → LiesQ W199 (Par w V0.heap.size (g204 :: []) P) l s := fun _ _ h => par_grow h Kk203.out (List.forall_mem_cons.2 ⟨(Or.inr HP208.out), (fun _ h => nomatch h)⟩)
                          exact HJj49 W199 a63 c64 a66 c67 a69 c70 a72 c73 a75 c76 U82 a93 c94 a96 c97 a99 c100 a102 c103 a105 c106 a123 c124 a126 c127 a129 c130 a132 c133 a135 c136 a151 c152 a154 c155 a157 c158 a160 c161 a163 c164 U170 a181 c182 a184 c185 a187 c188 a190 c191 a193 c194 g204 ⟨(kept_trans Kk78.out (kept_trans Kk108.out (kept_trans Kk138.out (kept_trans Kk166.out (kept_trans Kk196.out Kk203.out))))), HU82.out, HU170.out, (pg210 _ _ Hhl88.out), (pg210 _ _ Hhl89.out), (pg210 _ _ Hhl90.out), (pg210 _ _ Hhl91.out), (pg210 _ _ Hhl92.out), (pg211 _ _ Hhl176.out), (pg211 _ _ Hhl177.out), (pg211 _ _ Hhl178.out), (pg211 _ _ Hhl179.out), (pg211 _ _ Hhl180.out), Hx200.out, HG206.out, (Nat.le_trans (Below.size (kept_trans Kk78.out (kept_trans Kk108.out (kept_trans Kk138.out (kept_trans Kk166.out Kk196.out))))) HP208.out), HD209.out, XL207.out⟩
                        refine AllReadyH.cons (o := hetEndsr3_9) rfl (fun K hK => ?_) ?_
                        · unfold hetEndsr3_9
                          go_simp
                          refine at_K (fun W212 hW212 => ?_)
                          obtain ⟨k214, x213, z215⟩ := alloc1 hW212
                          have Kk216 := Lib.hid k214
                          clear k214
                          obtain ⟨g217, hg218⟩ : ∃ q, w167.heap.size = q := ⟨_, rfl⟩
                          rw [hg218] at x213 ⊢
                          have Hx213 := Lib.hid x213
                          have Hz215 := Lib.hid z215
                          clear x213 z215 hW212
                          have HG219 : Hid (V0.heap.size ≤ g217) := (by show _ ≤ _; rw [← hg218]; exact (Below.size (kept_trans Kk12.out (kept_trans Kk17.out (kept_trans Kk22.out (kept_trans Kk28.out (kept_trans Kk34.out (kept_trans Kk78.out (kept_trans Kk108.out (kept_trans Kk138.out (kept_trans Kk166.out Kk196.out)))))))))))
                          have XL220 : Hid (XLt (g217 :: []) W212) := (by show XLt _ _; rw [← hg218]; exact xlt_more (xlt_nil _) Kk216.out (by have := Hz215.out; omega))
                          have HP221 : Hid (w167.heap.size ≤ g217) := (by show _ ≤ _; rw [← hg218]; exact Nat.le_refl _)
                          have HD222 : Hid (W31.heap.size ≤ g217) := (by show _ ≤ _; rw [← hg218]; exact Below.size (kept_trans Kk78.out (kept_trans Kk108.out (kept_trans Kk138.out (kept_trans Kk166.out Kk196.out)))))
                          clear hg218
                          (try clear hHeld)
                          refine hK.out _ _ ?_ (fun hHeld => ?_)
                          · (try dsimp only)
                            exact seesN_kept _ (kept_trans Kk78.out (kept_trans Kk108.out (kept_trans Kk138.out (kept_trans Kk166.out (kept_trans Kk196.out Kk216.out)))))
                          clear hK K
                          (try simp only [Act.put, List.setIfInBounds_toArray, List.set_cons_zero, List.set_cons_succ])
                          have pg223 : ∀ (l : List Tm) (s : Value), LiesQ w79 (Par w V0.heap.size [] P) l s → LiesQ W212 (Par w V0.heap.size (g217 :: []) P) l s := fun _ _ h => par_grow h (kept_trans Kk138.out (kept_trans Kk166.out (kept_trans Kk196.out Kk216.out))) (List.forall_mem_cons.2 ⟨(Or.inr (Nat.le_trans (Below.size (kept_trans Kk138.out (kept_trans Kk166.out Kk196.out))) HP221.out)), (fun _ h => nomatch h)⟩)
                          have pg224 : ∀ (l : List Tm) (s : Value), LiesQ w167 (Par w V0.heap.size [] P) l s → LiesQ W212 (Par w V0.heap.size (g217 :: []) P) l s := fun _ _ h => par_grow h Kk216.out (List.forall_mem_cons.2 ⟨(Or.inr HP221.out), (fun _ h => nomatch h)⟩)
                          exact HJj48 W212 a63 c64 a66 c67 a69 c70 a72 c73 a75 c76 U82 a93 c94 a96 c97 a99 c100 a102 c103 a105 c106 a123 c124 a126 c127 a129 c130 a132 c133 a135 c136 a151 c152 a154 c155 a157 c158 a160 c161 a163 c164 U170 a181 c182 a184 c185 a187 c188 a190 c191 a193 c194 g217 ⟨(kept_trans Kk78.out (kept_trans Kk108.out (kept_trans Kk138.out (kept_trans Kk166.out (kept_trans Kk196.out Kk216.out))))), HU82.out, HU170.out, (pg223 _ _ Hhl88.out), (pg223 _ _ Hhl89.out), (pg223 _ _ Hhl90.out), (pg223 _ _ Hhl91.out), (pg223 _ _ Hhl92.out), (pg224 _ _ Hhl176.out), (pg224 _ _ Hhl177.out), (pg224 _ _ Hhl178.out), (pg224 _ _ Hhl179.out), (pg224 _ _ Hhl180.out), Hx213.out, HG219.out, (Nat.le_trans (Below.size (kept_trans Kk78.out (kept_trans Kk108.out (kept_trans Kk138.out (kept_trans Kk166.out Kk196.out))))) HP221.out), HD222.out, XL220.out⟩
                        exact AllReadyH.nil
                      refine AllReadyH.cons (o := hetEndsr3_8) rfl (fun K hK => ?_) ?_
                      · unfold hetEndsr3_8
                        go_simp
                        refine at_K (fun W225 hW225 => ?_)
                        obtain ⟨k227, x226, z228⟩ := alloc1 hW225
                        have Kk229 := Lib.hid k227
                        clear k227
                        obtain ⟨g230, hg231⟩ : ∃ q, w139.heap.size = q := ⟨_, rfl⟩
                        rw [hg231] at x226 ⊢
                        have Hx226 := Lib.hid x226
                        have Hz228 := Lib.hid z228
                        clear x226 z228 hW225
                        have HG232 : Hid (V0.heap.size ≤ g230) := (by show _ ≤ _; rw [← hg231]; exact (Below.size (kept_trans Kk12.out (kept_trans Kk17.out (kept_trans Kk22.out (kept_trans Kk28.out (kept_trans Kk34.out (kept_trans Kk78.out (kept_trans Kk108.out (kept_trans Kk138.out Kk166.out))))))))))
                        have XL233 : Hid (XLt (g230 :: []) W225) := (by show XLt _ _; rw [← hg231]; exact xlt_more (xlt_nil _) Kk229.out (by have := Hz228.out; omega))
                        have HP234 : Hid (w139.heap.size ≤ g230) := (by show _ ≤ _; rw [← hg231]; exact Nat.le_refl _)
                        have HD235 : Hid (W31.heap.size ≤ g230) := (by show _ ≤ _; rw [← hg231]; exact Below.size (kept_trans Kk78.out (kept_trans Kk108.out (kept_trans Kk138.out Kk166.out))))
                        clear hg231
                        (try clear hHeld)
                        refine hK.out _ _ ?_ (fun hHeld => ?_)
                        · (try dsimp only)
                          exact seesN_kept _ (kept_trans Kk78.out (kept_trans Kk108.out (kept_trans Kk138.out (kept_trans Kk166.out Kk229.out))))
                        clear hK K
                        (try simp only [Act.put, List.setIfInBounds_toArray, List.set_cons_zero, List.set_cons_succ])
                        have pg236 : ∀ (l : List Tm) (s : Value), LiesQ w79 (Par w V0.heap.size [] P) l s → LiesQ W225 (Par w V0.heap.size (g230 :: []) P) l s := fun _ _ h => par_grow h (kept_trans Kk138.out (kept_trans Kk166.out Kk229.out)) (List.forall_mem_cons.2 ⟨(Or.inr (Nat.le_trans (Below.size (kept_trans Kk138.out Kk166.out)) HP234.out)), (fun _ h => nomatch h)⟩)
                        have pg237 : ∀ (l : List Tm) (s : Value), LiesQ w111 (Par w V0.heap.size [] P) l s → LiesQ W225 (Par w V0.heap.size (g230 :: []) P) l s := fun _ _ h => par_grow h (kept_trans Kk166.out Kk229.out) (List.forall_mem_cons.2 ⟨(Or.inr (Nat.le_trans (Below.size Kk166.out) HP234.out)), (fun _ h => nomatch h)⟩)
                        have pg238 : ∀ (l : List Tm) (s : Value), LiesQ w139 (Par w V0.heap.size [] P) l s → LiesQ W225 (Par w V0.heap.size (g230 :: []) P) l s := fun _ _ h => par_grow h Kk229.out (List.forall_mem_cons.2 ⟨(Or.inr HP234.out), (fun _ h => nomatch h)⟩)
                        exact HJj46 W225 a63 c64 a66 c67 a69 c70 a72 c73 a75 c76 U82 a93 c94 a96 c97 a99 c100 a102 c103 a105 c106 a123 c124 a126 c127 a129 c130 a132 c133 a135 c136 a151 c152 a154 c155 a157 c158 a160 c161 a163 c164 g230 ⟨(kept_trans Kk78.out (kept_trans Kk108.out (kept_trans Kk138.out (kept_trans Kk166.out Kk229.out)))), HU82.out, (pg236 _ _ Hhl88.out), (pg236 _ _ Hhl89.out), (pg236 _ _ Hhl90.out), (pg236 _ _ Hhl91.out), (pg236 _ _ Hhl92.out), (pg237 _ _ Hhl118.out), (pg237 _ _ Hhl119.out), (pg237 _ _ Hhl120.out), (pg237 _ _ Hhl121.out), (pg237 _ _ Hhl122.out), (pg238 _ _ Hhl146.out), (pg238 _ _ Hhl147.out), (pg238 _ _ Hhl148.out), (pg238 _ _ Hhl149.out), (pg238 _ _ Hhl150.out), Hx226.out, HG232.out, (Nat.le_trans (Below.size (kept_trans Kk78.out (kept_trans Kk108.out (kept_trans Kk138.out Kk166.out)))) HP234.out), HD235.out, XL233.out⟩
                      refine AllReadyH.cons (o := hetEndsr3_9) rfl (fun K hK => ?_) ?_
                      · unfold hetEndsr3_9
                        go_simp
                        refine at_K (fun W239 hW239 => ?_)
                        obtain ⟨k241, x240, z242⟩ := alloc1 hW239
                        have Kk243 := Lib.hid k241
                        clear k241
                        obtain ⟨g244, hg245⟩ : ∃ q, w139.heap.size = q := ⟨_, rfl⟩
                        rw [hg245] at x240 ⊢
                        have Hx240 := Lib.hid x240
                        have Hz242 := Lib.hid z242
                        clear x240 z242 hW239
                        have HG246 : Hid (V0.heap.size ≤ g244) := (by show _ ≤ _; rw [← hg245]; exact (Below.size (kept_trans Kk12.out (kept_trans Kk17.out (kept_trans Kk22.out (kept_trans Kk28.out (kept_trans Kk34.out (kept_trans Kk78.out (kept_trans Kk108.out (kept_trans Kk138.out Kk166.out))))))))))
                        have XL247 : Hid (XLt (g244 :: []) W239) := (by show XLt _ _; rw [← hg245]; exact xlt_more (xlt_nil _) Kk243.out (by have := Hz242.out; omega))
                        have HP248 : Hid (w139.heap.size ≤ g244) := (by show _ ≤ _; rw [← hg245]; exact Nat.le_refl _)
                        have HD249 : Hid (W31.heap.size ≤ g244) := (by show _ ≤ _; rw [← hg245]; exact Below.size (kept_trans Kk78.out (kept_trans Kk108.out (kept_trans Kk138.out Kk166.out))))
                        clear hg245
                        (try clear hHeld)
                        refine hK.out _ _ ?_ (fun hHeld => ?_)
                        · (try dsimp only)
                          exact seesN_kept _ (kept_trans Kk78.out (kept_trans Kk108.out (kept_trans Kk138.out (kept_trans Kk166.out Kk243.out))))
                        clear hK K
                        (try simp only [Act.put, List.setIfInBounds_toArray, List.set_cons_zero, List.set_cons_succ])
                        have pg250 : ∀ (l : List Tm) (s : Value), LiesQ w79 (Par w V0.heap.size [] P) l s → LiesQ W239 (Par w V0.heap.size (g244 :: []) P) l s := fun _ _ h => par_grow h (kept_trans Kk138.out (kept_trans Kk166.out Kk243.out)) (List.forall_mem_cons.2 ⟨(Or.inr (Nat.le_trans (Below.size (kept_trans Kk138.out Kk166.out)) HP248.out)), (fun _ h => nomatch h)⟩)
                        have pg251 : ∀ (l : List Tm) (s : Value), LiesQ w111 (Par w V0.heap.size [] P) l s → LiesQ W239 (Par w V0.heap.size (g244 :: []) P) l s := fun _ _ h => par_grow h (kept_trans Kk166.out Kk243.out) (List.forall_mem_cons.2 ⟨(Or.inr (Nat.le_trans (Below.size Kk166.out) HP248.out)), (fun _ h => nomatch h)⟩)
                        have pg252 : ∀ (l : List Tm) (s : Value), LiesQ w139 (Par w V0.heap.size [] P) l s → LiesQ W239 (Par w V0.heap.size (g244 :: []) P) l s := fun _ _ h => par_grow h Kk243.out (List.forall_mem_cons.2 ⟨(Or.inr HP248.out), (fun _ h => nomatch h)⟩)
                        exact HJj45 W239 a63 c64 a66 c67 a69 c70 a72 c73 a75 c76 U82 a93 c94 a96 c97 a99 c100 a102 c103 a105 c106 a123 c124 a126 c127 a129 c130 a132 c133 a135 c136 a151 c152 a154 c155 a157 c158 a160 c161 a163 c164 g244 ⟨(kept_trans Kk78.out (kept_trans Kk108.out (kept_trans Kk138.out (kept_trans Kk166.out Kk243.out)))), HU82.out, (pg250 _ _ Hhl88.out), (pg250 _ _ Hhl89.out), (pg250 _ _ Hhl90.out), (pg250 _ _ Hhl91.out), (pg250 _ _ Hhl92.out), (pg251 _ _ Hhl118.out), (pg251 _ _ Hhl119.out), (pg251 _ _ Hhl120.out), (pg251 _ _ Hhl121.out), (pg251 _ _ Hhl122.out), (pg252 _ _ Hhl146.out), (pg252 _ _ Hhl147.out), (pg252 _ _ Hhl148.out), (pg252 _ _ Hhl149.out), (pg252 _ _ Hhl150.out), Hx240.out, HG246.out, (Nat.le_trans (Below.size (kept_trans Kk78.out (kept_trans Kk108.out (kept_trans Kk138.out Kk166.out)))) HP248.out), HD249.out, XL247.out⟩
                      exact AllReadyH.nil
                    refine AllReadyH.cons (o := hetEndsr3_8) rfl (fun K hK => ?_) ?_
                    · unfold hetEndsr3_8
                      go_simp
                      refine at_K (fun W253 hW253 => ?_)
                      obtain ⟨k255, x254, z256⟩ := alloc1 hW253
                      have Kk257 := Lib.hid k255
                      clear k255
                      obtain ⟨g258, hg259⟩ : ∃ q, w111.heap.size = q := ⟨_, rfl⟩
                      rw [hg259] at x254 ⊢
                      have Hx254 := Lib.hid x254
                      have Hz256 := Lib.hid z256
                      clear x254 z256 hW253
                      have HG260 : Hid (V0.heap.size ≤ g258) := (by show _ ≤ _; rw [← hg259]; exact (Below.size (kept_trans Kk12.out (kept_trans Kk17.out (kept_trans Kk22.out (kept_trans Kk28.out (kept_trans Kk34.out (kept_trans Kk78.out (kept_trans Kk108.out Kk138.out)))))))))
                      have XL261 : Hid (XLt (g258 :: []) W253) := (by show XLt _ _; rw [← hg259]; exact xlt_more (xlt_nil _) Kk257.out (by have := Hz256.out; omega))
                      have HP262 : Hid (w111.heap.size ≤ g258) := (by show _ ≤ _; rw [← hg259]; exact Nat.le_refl _)
                      have HD263 : Hid (W31.heap.size ≤ g258) := (by show _ ≤ _; rw [← hg259]; exact Below.size (kept_trans Kk78.out (kept_trans Kk108.out Kk138.out)))
                      clear hg259
                      (try clear hHeld)
                      refine hK.out _ _ ?_ (fun hHeld => ?_)
                      · (try dsimp only)
                        exact seesN_kept _ (kept_trans Kk78.out (kept_trans Kk108.out (kept_trans Kk138.out Kk257.out)))
                      clear hK K
                      (try simp only [Act.put, List.setIfInBounds_toArray, List.set_cons_zero, List.set_cons_succ])
                      have pg264 : ∀ (l : List Tm) (s : Value), LiesQ w79 (Par w V0.heap.size [] P) l s → LiesQ W253 (Par w V0.heap.size (g258 :: []) P) l s := fun _ _ h => par_grow h (kept_trans Kk138.out Kk257.out) (List.forall_mem_cons.2 ⟨(Or.inr (Nat.le_trans (Below.size Kk138.out) HP262.out)), (fun _ h => nomatch h)⟩)
                      have pg265 : ∀ (l : List Tm) (s : Value), LiesQ w111 (Par w V0.heap.size [] P) l s → LiesQ W253 (Par w V0.heap.size (g258 :: []) P) l s := fun _ _ h => par_grow h Kk257.out (List.forall_mem_cons.2 ⟨(Or.inr HP262.out), (fun _ h => nomatch h)⟩)
                      exact HJj43 W253 a63 c64 a66 c67 a69 c70 a72 c73 a75 c76 U82 a93 c94 a96 c97 a99 c100 a102 c103 a105 c106 a123 c124 a126 c127 a129 c130 a132 c133 a135 c136 g258 ⟨(kept_trans Kk78.out (kept_trans Kk108.out (kept_trans Kk138.out Kk257.out))), HU82.out, (pg264 _ _ Hhl88.out), (pg264 _ _ Hhl89.out), (pg264 _ _ Hhl90.out), (pg264 _ _ Hhl91.out), (pg264 _ _ Hhl92.out), (pg265 _ _ Hhl118.out), (pg265 _ _ Hhl119.out), (pg265 _ _ Hhl120.out), (pg265 _ _ Hhl121.out), (pg265 _ _ Hhl122.out), Hx254.out, HG260.out, (Nat.le_trans (Below.size (kept_trans Kk78.out (kept_trans Kk108.out Kk138.out))) HP262.out), HD263.out, XL261.out⟩
                    refine AllReadyH.cons (o := hetEndsr3_9) rfl (fun K hK => ?_) ?_
                    · unfold hetEndsr3_9
                      go_simp
                      refine at_K (fun W266 hW266 => ?_)
                      obtain ⟨k268, x267, z269⟩ := alloc1 hW266
                      have Kk270 := Lib.hid k268
                      clear k268
                      obtain ⟨g271, hg272⟩ : ∃ q, w111.heap.size = q := ⟨_, rfl⟩
                      rw [hg272] at x267 ⊢
                      have Hx267 := Lib.hid x267
                      have Hz269 := Lib.hid z269
                      clear x267 z269 hW266
                      have HG273 : Hid (V0.heap.size ≤ g271) := (by show _ ≤ _; rw [← hg272]; exact (Below.size (kept_trans Kk12.out (kept_trans Kk17.out (kept_trans Kk22.out (kept_trans Kk28.out (kept_trans Kk34.out (kept_trans Kk78.out (kept_trans Kk108.out Kk138.out)))))))))
                      have XL274 : Hid (XLt (g271 :: []) W266) := (by show XLt _ _; rw [← hg272]; exact xlt_more (xlt_nil _) Kk270.out (by have := Hz269.out; omega))
                      have HP275 : Hid (w111.heap.size ≤ g271) := (by show _ ≤ _; rw [← hg272]; exact Nat.le_refl _)
                      have HD276 : Hid (W31.heap.size ≤ g271) := (by show _ ≤ _; rw [← hg272]; exact Below.size (kept_trans Kk78.out (kept_trans Kk108.out Kk138.out)))
                      clear hg272
                      (try clear hHeld)
                      refine hK.out _ _ ?_ (fun hHeld => ?_)
                      · (try dsimp only)
                        exact seesN_kept _ (kept_trans Kk78.out (kept_trans Kk108.out (kept_trans Kk138.out Kk270.out)))
                      clear hK K
                      (try simp only [Act.put, List.setIfInBounds_toArray, List.set_cons_zero, List.set_cons_succ])
                      have pg277 : ∀ (l : List Tm) (s : Value), LiesQ w79 (Par w V0.heap.size [] P) l s → LiesQ W266 (Par w V0.heap.size (g271 :: []) P) l s := fun _ _ h => par_grow h (kept_trans Kk138.out Kk270.out) (List.forall_mem_cons.2 ⟨(Or.inr (Nat.le_trans (Below.size Kk138.out) HP275.out)), (fun _ h => nomatch h)⟩)
                      have pg278 : ∀ (l : List Tm) (s : Value), LiesQ w111 (Par w V0.heap.size [] P) l s → LiesQ W266 (Par w V0.heap.size (g271 :: []) P) l s := fun _ _ h => par_grow h Kk270.out (List.forall_mem_cons.2 ⟨(Or.inr HP275.out), (fun _ h => nomatch h)⟩)
                      exact HJj42 W266 a63 c64 a66 c67 a69 c70 a72 c73 a75 c76 U82 a93 c94 a96 c97 a99 c100 a102 c103 a105 c106 a123 c124 a126 c127 a129 c130 a132 c133 a135 c136 g271 ⟨(kept_trans Kk78.out (kept_trans Kk108.out (kept_trans Kk138.out Kk270.out))), HU82.out, (pg277 _ _ Hhl88.out), (pg277 _ _ Hhl89.out), (pg277 _ _ Hhl90.out), (pg277 _ _ Hhl91.out), (pg277 _ _ Hhl92.out), (pg278 _ _ Hhl118.out), (pg278 _ _ Hhl119.out), (pg278 _ _ Hhl120.out), (pg278 _ _ Hhl121.out), (pg278 _ _ Hhl122.out), Hx267.out, HG273.out, (Nat.le_trans (Below.size (kept_trans Kk78.out (kept_trans Kk108.out Kk138.out))) HP275.out), HD276.out, XL274.out⟩
                    exact AllReadyH.nil
                  refine AllReadyH.cons (o := hetEndsr3_8) rfl (fun K hK => ?_) ?_
                  · unfold hetEndsr3_8
                    go_simp
                    refine at_K (fun W279 hW279 => ?_)
                    obtain ⟨k281, x280, z282⟩ := alloc1 hW279
                    have Kk283 := Lib.hid k281
                    clear k281
                    obtain ⟨g284, hg285⟩ : ∃ q, w79.heap.size = q := ⟨_, rfl⟩
                    rw [hg285] at x280 ⊢
                    have Hx280 := Lib.hid x280
                    have Hz282 := Lib.hid z282
                    clear x280 z282 hW279
                    have HG286 : Hid (V0.heap.size ≤ g284) := (by show _ ≤ _; rw [← hg285]; exact (Below.size (kept_trans Kk12.out (kept_trans Kk17.out (kept_trans Kk22.out (kept_trans Kk28.out (kept_trans Kk34.out (kept_trans Kk78.out Kk108.out))))))))
                    have XL287 : Hid (XLt (g284 :: []) W279) := (by show XLt _ _; rw [← hg285]; exact xlt_more (xlt_nil _) Kk283.out (by have := Hz282.out; omega))
                    have HP288 : Hid (w79.heap.size ≤ g284) := (by show _ ≤ _; rw [← hg285]; exact Nat.le_refl _)
                    have HD289 : Hid (W31.heap.size ≤ g284) := (by show _ ≤ _; rw [← hg285]; exact Below.size (kept_trans Kk78.out Kk108.out))
                    clear hg285
                    (try clear hHeld)
                    refine hK.out _ _ ?_ (fun hHeld => ?_)
                    · (try dsimp only)
                      exact seesN_kept _ (kept_trans Kk78.out (kept_trans Kk108.out Kk283.out))
                    clear hK K
                    (try simp only [Act.put, List.setIfInBounds_toArray, List.set_cons_zero, List.set_cons_succ])
                    have pg290 : ∀ (l : List Tm) (s : Value), LiesQ w79 (Par w V0.heap.size [] P) l s → LiesQ W279 (Par w V0.heap.size (g284 :: []) P) l s := fun _ _ h => par_grow h Kk283.out (List.forall_mem_cons.2 ⟨(Or.inr HP288.out), (fun _ h => nomatch h)⟩)
                    exact HJj40 W279 a63 c64 a66 c67 a69 c70 a72 c73 a75 c76 U82 a93 c94 a96 c97 a99 c100 a102 c103 a105 c106 g284 ⟨(kept_trans Kk78.out (kept_trans Kk108.out Kk283.out)), HU82.out, (pg290 _ _ Hhl88.out), (pg290 _ _ Hhl89.out), (pg290 _ _ Hhl90.out), (pg290 _ _ Hhl91.out), (pg290 _ _ Hhl92.out), Hx280.out, HG286.out, (Nat.le_trans (Below.size (kept_trans Kk78.out Kk108.out)) HP288.out), HD289.out, XL287.out⟩
                  refine AllReadyH.cons (o := hetEndsr3_9) rfl (fun K hK => ?_) ?_
                  · unfold hetEndsr3_9
                    go_simp
                    refine at_K (fun W291 hW291 => ?_)
                    obtain ⟨k293, x292, z294⟩ := alloc1 hW291
                    have Kk295 := Lib.hid k293
                    clear k293
                    obtain ⟨g296, hg297⟩ : ∃ q, w79.heap.size = q := ⟨_, rfl⟩
                    rw [hg297] at x292 ⊢
                    have Hx292 := Lib.hid x292
                    have Hz294 := Lib.hid z294
                    clear x292 z294 hW291
                    have HG298 : Hid (V0.heap.size ≤ g296) := (by show _ ≤ _; rw [← hg297]; exact (Below.size (kept_trans Kk12.out (kept_trans Kk17.out (kept_trans Kk22.out (kept_trans Kk28.out (kept_trans Kk34.out (kept_trans Kk78.out Kk108.out))))))))
                    have XL299 : Hid (XLt (g296 :: []) W291) := (by show XLt _ _; rw [← hg297]; exact xlt_more (xlt_nil _) Kk295.out (by have := Hz294.out; omega))
                    have HP300 : Hid (w79.heap.size ≤ g296) := (by show _ ≤ _; rw [← hg297]; exact Nat.le_refl _)
                    have HD301 : Hid (W31.heap.size ≤ g296) := (by show _ ≤ _; rw [← hg297]; exact Below.size (kept_trans Kk78.out Kk108.out))
                    clear hg297
                    (try clear hHeld)
                    refine hK.out _ _ ?_ (fun hHeld => ?_)
                    · (try dsimp only)
                      exact seesN_kept _ (kept_trans Kk78.out (kept_trans Kk108.out Kk295.out))
                    clear hK K
                    (try simp only [Act.put, List.setIfInBounds_toArray, List.set_cons_zero, List.set_cons_succ])
                    have pg302 : ∀ (l : List Tm) (s : Value), LiesQ w79 (Par w V0.heap.size [] P) l s → LiesQ W291 (Par w V0.heap.size (g296 :: []) P) l s := fun _ _ h => par_grow h Kk295.out (List.forall_mem_cons.2 ⟨(Or.inr HP300.out), (fun _ h => nomatch h)⟩)
                    exact HJj39 W291 a63 c64 a66 c67 a69 c70 a72 c73 a75 c76 U82 a93 c94 a96 c97 a99 c100 a102 c103 a105 c106 g296 ⟨(kept_trans Kk78.out (kept_trans Kk108.out Kk295.out)), HU82.out, (pg302 _ _ Hhl88.out), (pg302 _ _ Hhl89.out), (pg302 _ _ Hhl90.out), (pg302 _ _ Hhl91.out), (pg302 _ _ Hhl92.out), Hx292.out, HG298.out, (Nat.le_trans (Below.size (kept_trans Kk78.out Kk108.out)) HP300.out), HD301.out, XL299.out⟩
                  exact AllReadyH.nil
                refine AllReadyH.cons (o := hetEndsr3_8) rfl (fun K hK => ?_) ?_
                · unfold hetEndsr3_8
                  go_simp
                  refine at_K (fun W303 hW303 => ?_)
                  obtain ⟨k305, x304, z306⟩ := alloc1 hW303
                  have Kk307 := Lib.hid k305
                  clear k305
                  obtain ⟨g308, hg309⟩ : ∃ q, w51.heap.size = q := ⟨_, rfl⟩
                  rw [hg309] at x304 ⊢
                  have Hx304 := Lib.hid x304
                  have Hz306 := Lib.hid z306
                  clear x304 z306 hW303
                  have HG310 : Hid (V0.heap.size ≤ g308) := (by show _ ≤ _; rw [← hg309]; exact (Below.size (kept_trans Kk12.out (kept_trans Kk17.out (kept_trans Kk22.out (kept_trans Kk28.out (kept_trans Kk34.out Kk78.out)))))))
                  have XL311 : Hid (XLt (g308 :: []) W303) := (by show XLt _ _; rw [← hg309]; exact xlt_more (xlt_nil _) Kk307.out (by have := Hz306.out; omega))
                  have HP312 : Hid (w51.heap.size ≤ g308) := (by show _ ≤ _; rw [← hg309]; exact Nat.le_refl _)
                  have HD313 : Hid (W31.heap.size ≤ g308) := (by show _ ≤ _; rw [← hg309]; exact Below.size Kk78.out)
                  clear hg309
                  (try clear hHeld)
                  refine hK.out _ _ ?_ (fun hHeld => ?_)
                  · (try dsimp only)
                    exact seesN_kept _ (kept_trans Kk78.out Kk307.out)
                  clear hK K
                  (try simp only [Act.put, List.setIfInBounds_toArray, List.set_cons_zero, List.set_cons_succ])
                  have pg314 : ∀ (l : List Tm) (s : Value), LiesQ w51 (Par w V0.heap.size [] P) l s → LiesQ W303 (Par w V0.heap.size (g308 :: []) P) l s := fun _ _ h => par_grow h Kk307.out (List.forall_mem_cons.2 ⟨(Or.inr HP312.out), (fun _ h => nomatch h)⟩)
                  exact HJj37 W303 a63 c64 a66 c67 a69 c70 a72 c73 a75 c76 g308 ⟨(kept_trans Kk78.out Kk307.out), (pg314 _ _ Hhl58.out), (pg314 _ _ Hhl59.out), (pg314 _ _ Hhl60.out), (pg314 _ _ Hhl61.out), (pg314 _ _ Hhl62.out), Hx304.out, HG310.out, (Nat.le_trans (Below.size Kk78.out) HP312.out), HD313.out, XL311.out⟩
                refine AllReadyH.cons (o := hetEndsr3_9) rfl (fun K hK => ?_) ?_
                · unfold hetEndsr3_9
                  go_simp
                  refine at_K (fun W315 hW315 => ?_)
                  obtain ⟨k317, x316, z318⟩ := alloc1 hW315
                  have Kk319 := Lib.hid k317
                  clear k317
                  obtain ⟨g320, hg321⟩ : ∃ q, w51.heap.size = q := ⟨_, rfl⟩
                  rw [hg321] at x316 ⊢
                  have Hx316 := Lib.hid x316
                  have Hz318 := Lib.hid z318
                  clear x316 z318 hW315
                  have HG322 : Hid (V0.heap.size ≤ g320) := (by show _ ≤ _; rw [← hg321]; exact (Below.size (kept_trans Kk12.out (kept_trans Kk17.out (kept_trans Kk22.out (kept_trans Kk28.out (kept_trans Kk34.out Kk78.out)))))))
                  have XL323 : Hid (XLt (g320 :: []) W315) := (by show XLt _ _; rw [← hg321]; exact xlt_more (xlt_nil _) Kk319.out (by have := Hz318.out; omega))
                  have HP324 : Hid (w51.heap.size ≤ g320) := (by show _ ≤ _; rw [← hg321]; exact Nat.le_refl _)
                  have HD325 : Hid (W31.heap.size ≤ g320) := (by show _ ≤ _; rw [← hg321]; exact Below.size Kk78.out)
                  clear hg321
                  (try clear hHeld)
                  refine hK.out _ _ ?_ (fun hHeld => ?_)
                  · (try dsimp only)
                    exact seesN_kept _ (kept_trans Kk78.out Kk319.out)
                  clear hK K
                  (try simp only [Act.put, List.setIfInBounds_toArray, List.set_cons_zero, List.set_cons_succ])
                  have pg326 : ∀ (l : List Tm) (s : Value), LiesQ w51 (Par w V0.heap.size [] P) l s → LiesQ W315 (Par w V0.heap.size (g320 :: []) P) l s := fun _ _ h => par_grow h Kk319.out (List.forall_mem_cons.2 ⟨(Or.inr HP324.out), (fun _ h => nomatch h)⟩)
                  exact HJj35 W315 a63 c64 a66 c67 a69 c70 a72 c73 a75 c76 g320 ⟨(kept_trans Kk78.out Kk319.out), (pg326 _ _ Hhl58.out), (pg326 _ _ Hhl59.out), (pg326 _ _ Hhl60.out), (pg326 _ _ Hhl61.out), (pg326 _ _ Hhl62.out), Hx316.out, HG322.out, (Nat.le_trans (Below.size Kk78.out) HP324.out), HD325.out, XL323.out⟩
                exact AllReadyH.nil
              refine AllReadyH.cons (o := hetEndsr3_8) rfl (fun K hK => ?_) ?_
              · unfold hetEndsr3_8
                go_simp
                refine at_K (fun W327 hW327 => ?_)
                obtain ⟨k329, x328, z330⟩ := alloc1 hW327
                have Kk331 := Lib.hid k329
                clear k329
                obtain ⟨g332, hg333⟩ : ∃ q, W31.heap.size = q := ⟨_, rfl⟩
                rw [hg333] at x328 ⊢
                have Hx328 := Lib.hid x328
                have Hz330 := Lib.hid z330
                clear x328 z330 hW327
                have HG334 : Hid (V0.heap.size ≤ g332) := (by show _ ≤ _; rw [← hg333]; exact (Below.size (kept_trans Kk12.out (kept_trans Kk17.out (kept_trans Kk22.out (kept_trans Kk28.out Kk34.out))))))
                have XL335 : Hid (XLt (g332 :: []) W327) := (by show XLt _ _; rw [← hg333]; exact xlt_more (xlt_nil _) Kk331.out (by have := Hz330.out; omega))
                have HP336 : Hid (W31.heap.size ≤ g332) := (by show _ ≤ _; rw [← hg333]; exact Nat.le_refl _)
                have HD337 : Hid (W31.heap.size ≤ g332) := (by show _ ≤ _; rw [← hg333]; exact Below.size (kept_refl _))
                clear hg333
                (try clear hHeld)
                refine hK.out _ _ ?_ (fun hHeld => ?_)
                · (try dsimp only)
                  exact seesN_kept _ Kk331.out
                clear hK K
                (try simp only [Act.put, List.setIfInBounds_toArray, List.set_cons_zero, List.set_cons_succ])
                refine wpAnyH_ready (rs := [1, 9]) (by kernel_rfl) (by simp) ?_
                refine AllReadyH.cons (o := hetEndsr3_1) rfl (fun K hK => ?_) ?_
                · unfold hetEndsr3_1
                  go_simp
                  refine (lours_any g (Par w V0.heap.size (g332 :: []) P) _ (.slice aga g.a.kids.length cga) (.slice agb g.b.kids.length cgb) (.slice agx g.x.kids.length cgx) (.slice agy g.y.kids.length cgy) (.slice agh g.h.kids.length cgh) ⟨Gg.out.1, Gg.out.2.1, Gg.out.2.2.1, Gg.out.2.2.2.1, Gg.out.2.2.2.2.1, Gg.out.2.2.2.2.2⟩ ⟨(par_grow HLga.out (kept_trans Kk12.out (kept_trans Kk17.out (kept_trans Kk22.out (kept_trans Kk28.out (kept_trans Kk34.out Kk331.out))))) (List.forall_mem_cons.2 ⟨(Or.inr (Nat.le_trans (Below.size (kept_trans Kk12.out (kept_trans Kk17.out (kept_trans Kk22.out (kept_trans Kk28.out Kk34.out))))) HP336.out)), (fun _ h => nomatch h)⟩)), (par_grow HLgb.out (kept_trans Kk12.out (kept_trans Kk17.out (kept_trans Kk22.out (kept_trans Kk28.out (kept_trans Kk34.out Kk331.out))))) (List.forall_mem_cons.2 ⟨(Or.inr (Nat.le_trans (Below.size (kept_trans Kk12.out (kept_trans Kk17.out (kept_trans Kk22.out (kept_trans Kk28.out Kk34.out))))) HP336.out)), (fun _ h => nomatch h)⟩)), (par_grow HLgx.out (kept_trans Kk12.out (kept_trans Kk17.out (kept_trans Kk22.out (kept_trans Kk28.out (kept_trans Kk34.out Kk331.out))))) (List.forall_mem_cons.2 ⟨(Or.inr (Nat.le_trans (Below.size (kept_trans Kk12.out (kept_trans Kk17.out (kept_trans Kk22.out (kept_trans Kk28.out Kk34.out))))) HP336.out)), (fun _ h => nomatch h)⟩)), (par_grow HLgy.out (kept_trans Kk12.out (kept_trans Kk17.out (kept_trans Kk22.out (kept_trans Kk28.out (kept_trans Kk34.out Kk331.out))))) (List.forall_mem_cons.2 ⟨(Or.inr (Nat.le_trans (Below.size (kept_trans Kk12.out (kept_trans Kk17.out (kept_trans Kk22.out (kept_trans Kk28.out Kk34.out))))) HP336.out)), (fun _ h => nomatch h)⟩)), (par_grow HLgh.out (kept_trans Kk12.out (kept_trans Kk17.out (kept_trans Kk22.out (kept_trans Kk28.out (kept_trans Kk34.out Kk331.out))))) (List.forall_mem_cons.2 ⟨(Or.inr (Nat.le_trans (Below.size (kept_trans Kk12.out (kept_trans Kk17.out (kept_trans Kk22.out (kept_trans Kk28.out Kk34.out))))) HP336.out)), (fun _ h => nomatch h)⟩))⟩).mono ?_
                  rintro e w338 ⟨s340, s341, s342, s343, s344, rfl, ⟨hl345, hl346, hl347, hl348, hl349⟩, k339⟩
                  obtain ⟨a350, c351, S352, rfl, -⟩ := hl345.out
                  obtain ⟨a353, c354, S355, rfl, -⟩ := hl346.out
                  obtain ⟨a356, c357, S358, rfl, -⟩ := hl347.out
                  obtain ⟨a359, c360, S361, rfl, -⟩ := hl348.out
                  obtain ⟨a362, c363, S364, rfl, -⟩ := hl349.out
                  have Kk365 := Lib.hid k339
                  clear k339
                  have Hhl345 : Hid (LiesQ w338 (Par w V0.heap.size (g332 :: []) P) g.a.kids _) := par_give hl345 (Below.size (kept_trans Kk12.out (kept_trans Kk17.out (kept_trans Kk22.out (kept_trans Kk28.out (kept_trans Kk34.out Kk331.out)))))) XL335.out
                  have Hhl346 : Hid (LiesQ w338 (Par w V0.heap.size (g332 :: []) P) g.b.kids _) := par_give hl346 (Below.size (kept_trans Kk12.out (kept_trans Kk17.out (kept_trans Kk22.out (kept_trans Kk28.out (kept_trans Kk34.out Kk331.out)))))) XL335.out
                  have Hhl347 : Hid (LiesQ w338 (Par w V0.heap.size (g332 :: []) P) g.x.kids _) := par_give hl347 (Below.size (kept_trans Kk12.out (kept_trans Kk17.out (kept_trans Kk22.out (kept_trans Kk28.out (kept_trans Kk34.out Kk331.out)))))) XL335.out
                  have Hhl348 : Hid (LiesQ w338 (Par w V0.heap.size (g332 :: []) P) g.y.kids _) := par_give hl348 (Below.size (kept_trans Kk12.out (kept_trans Kk17.out (kept_trans Kk22.out (kept_trans Kk28.out (kept_trans Kk34.out Kk331.out)))))) XL335.out
                  have Hhl349 : Hid (LiesQ w338 (Par w V0.heap.size (g332 :: []) P) g.h.kids _) := par_give hl349 (Below.size (kept_trans Kk12.out (kept_trans Kk17.out (kept_trans Kk22.out (kept_trans Kk28.out (kept_trans Kk34.out Kk331.out)))))) XL335.out
                  clear hl345 hl346 hl347 hl348 hl349
                  (try clear hHeld)
                  refine hK.out _ _ ?_ (fun hHeld => ?_)
                  · (try dsimp only)
                    exact seesN_kept _ (kept_trans Kk331.out Kk365.out)
                  clear hK K
                  (try simp only [Act.put, List.setIfInBounds_toArray, List.set_cons_zero, List.set_cons_succ])
                  exact HJj37 w338 a350 c351 a353 c354 a356 c357 a359 c360 a362 c363 g332 ⟨(kept_trans Kk331.out Kk365.out), Hhl345.out, Hhl346.out, Hhl347.out, Hhl348.out, Hhl349.out, (blk_at Hx328.out Kk365.out), HG334.out, (Nat.le_trans (Below.size (kept_refl _)) HP336.out), HD337.out, (xlt_later XL335.out Kk365.out)⟩
                refine AllReadyH.cons (o := hetEndsr3_9) rfl (fun K hK => ?_) ?_
                · unfold hetEndsr3_9
                  go_simp
                  refine at_K (fun W366 hW366 => ?_)
                  obtain ⟨k368, x367, z369⟩ := alloc1 hW366
                  have Kk370 := Lib.hid k368
                  clear k368
                  obtain ⟨g371, hg372⟩ : ∃ q, W327.heap.size = q := ⟨_, rfl⟩
                  rw [hg372] at x367 ⊢
                  have Hx367 := Lib.hid x367
                  have Hz369 := Lib.hid z369
                  clear x367 z369 hW366
                  have HG373 : Hid (V0.heap.size ≤ g371) := (by show _ ≤ _; rw [← hg372]; exact (Below.size (kept_trans Kk12.out (kept_trans Kk17.out (kept_trans Kk22.out (kept_trans Kk28.out (kept_trans Kk34.out Kk331.out)))))))
                  have AP374 : Hid (g332 < g371) := (by show _ < _; rw [← hg372]; exact block_lt Hx328.out)
                  have XL375 : Hid (XLt (g371 :: (g332 :: [])) W366) := (by show XLt _ _; rw [← hg372]; exact xlt_more XL335.out Kk370.out (by have := Hz369.out; omega))
                  have HP376 : Hid (W327.heap.size ≤ g371) := (by show _ ≤ _; rw [← hg372]; exact Nat.le_refl _)
                  have HD377 : Hid (W31.heap.size ≤ g371) := (by show _ ≤ _; rw [← hg372]; exact Below.size Kk331.out)
                  clear hg372
                  (try clear hHeld)
                  refine hK.out _ _ ?_ (fun hHeld => ?_)
                  · (try dsimp only)
                    exact seesN_kept _ (kept_trans Kk331.out Kk370.out)
                  clear hK K
                  (try simp only [Act.put, List.setIfInBounds_toArray, List.set_cons_zero, List.set_cons_succ])
                  exact HJj36 W366 g332 g371 ⟨(kept_trans Kk331.out Kk370.out), (blk_at Hx328.out Kk370.out), Hx367.out, HG334.out, (Nat.le_trans (Below.size (kept_refl _)) HP336.out), HD337.out, HG373.out, (Nat.le_trans (Below.size Kk331.out) HP376.out), HD377.out, (by have := AP374.out; omega), XL375.out⟩
                exact AllReadyH.nil
              refine AllReadyH.cons (o := hetEndsr3_9) rfl (fun K hK => ?_) ?_
              · unfold hetEndsr3_9
                go_simp
                refine at_K (fun W378 hW378 => ?_)
                obtain ⟨k380, x379, z381⟩ := alloc1 hW378
                have Kk382 := Lib.hid k380
                clear k380
                obtain ⟨g383, hg384⟩ : ∃ q, W31.heap.size = q := ⟨_, rfl⟩
                rw [hg384] at x379 ⊢
                have Hx379 := Lib.hid x379
                have Hz381 := Lib.hid z381
                clear x379 z381 hW378
                have HG385 : Hid (V0.heap.size ≤ g383) := (by show _ ≤ _; rw [← hg384]; exact (Below.size (kept_trans Kk12.out (kept_trans Kk17.out (kept_trans Kk22.out (kept_trans Kk28.out Kk34.out))))))
                have XL386 : Hid (XLt (g383 :: []) W378) := (by show XLt _ _; rw [← hg384]; exact xlt_more (xlt_nil _) Kk382.out (by have := Hz381.out; omega))
                have HP387 : Hid (W31.heap.size ≤ g383) := (by show _ ≤ _; rw [← hg384]; exact Nat.le_refl _)
                have HD388 : Hid (W31.heap.size ≤ g383) := (by show _ ≤ _; rw [← hg384]; exact Below.size (kept_refl _))
                clear hg384
                (try clear hHeld)
                refine hK.out _ _ ?_ (fun hHeld => ?_)
                · (try dsimp only)
                  exact seesN_kept _ Kk382.out
                clear hK K
                (try simp only [Act.put, List.setIfInBounds_toArray, List.set_cons_zero, List.set_cons_succ])
                refine wpAnyH_ready (rs := [1, 8]) (by kernel_rfl) (by simp) ?_
                refine AllReadyH.cons (o := hetEndsr3_1) rfl (fun K hK => ?_) ?_
                · unfold hetEndsr3_1
                  go_simp
                  refine (lours_any g (Par w V0.heap.size (g383 :: []) P) _ (.slice aga g.a.kids.length cga) (.slice agb g.b.kids.length cgb) (.slice agx g.x.kids.length cgx) (.slice agy g.y.kids.length cgy) (.slice agh g.h.kids.length cgh) ⟨Gg.out.1, Gg.out.2.1, Gg.out.2.2.1, Gg.out.2.2.2.1, Gg.out.2.2.2.2.1, Gg.out.2.2.2.2.2⟩ ⟨(par_grow HLga.out (kept_trans Kk12.out (kept_trans Kk17.out (kept_trans Kk22.out (kept_trans Kk28.out (kept_trans Kk34.out Kk382.out))))) (List.forall_mem_cons.2 ⟨(Or.inr (Nat.le_trans (Below.size (kept_trans Kk12.out (kept_trans Kk17.out (kept_trans Kk22.out (kept_trans Kk28.out Kk34.out))))) HP387.out)), (fun _ h => nomatch h)⟩)), (par_grow HLgb.out (kept_trans Kk12.out (kept_trans Kk17.out (kept_trans Kk22.out (kept_trans Kk28.out (kept_trans Kk34.out Kk382.out))))) (List.forall_mem_cons.2 ⟨(Or.inr (Nat.le_trans (Below.size (kept_trans Kk12.out (kept_trans Kk17.out (kept_trans Kk22.out (kept_trans Kk28.out Kk34.out))))) HP387.out)), (fun _ h => nomatch h)⟩)), (par_grow HLgx.out (kept_trans Kk12.out (kept_trans Kk17.out (kept_trans Kk22.out (kept_trans Kk28.out (kept_trans Kk34.out Kk382.out))))) (List.forall_mem_cons.2 ⟨(Or.inr (Nat.le_trans (Below.size (kept_trans Kk12.out (kept_trans Kk17.out (kept_trans Kk22.out (kept_trans Kk28.out Kk34.out))))) HP387.out)), (fun _ h => nomatch h)⟩)), (par_grow HLgy.out (kept_trans Kk12.out (kept_trans Kk17.out (kept_trans Kk22.out (kept_trans Kk28.out (kept_trans Kk34.out Kk382.out))))) (List.forall_mem_cons.2 ⟨(Or.inr (Nat.le_trans (Below.size (kept_trans Kk12.out (kept_trans Kk17.out (kept_trans Kk22.out (kept_trans Kk28.out Kk34.out))))) HP387.out)), (fun _ h => nomatch h)⟩)), (par_grow HLgh.out (kept_trans Kk12.out (kept_trans Kk17.out (kept_trans Kk22.out (kept_trans Kk28.out (kept_trans Kk34.out Kk382.out))))) (List.forall_mem_cons.2 ⟨(Or.inr (Nat.le_trans (Below.size (kept_trans Kk12.out (kept_trans Kk17.out (kept_trans Kk22.out (kept_trans Kk28.out Kk34.out))))) HP387.out)), (fun _ h => nomatch h)⟩))⟩).mono ?_
                  rintro e w389 ⟨s391, s392, s393, s394, s395, rfl, ⟨hl396, hl397, hl398, hl399, hl400⟩, k390⟩
                  obtain ⟨a401, c402, S403, rfl, -⟩ := hl396.out
                  obtain ⟨a404, c405, S406, rfl, -⟩ := hl397.out
                  obtain ⟨a407, c408, S409, rfl, -⟩ := hl398.out
                  obtain ⟨a410, c411, S412, rfl, -⟩ := hl399.out
                  obtain ⟨a413, c414, S415, rfl, -⟩ := hl400.out
                  have Kk416 := Lib.hid k390
                  clear k390
                  have Hhl396 : Hid (LiesQ w389 (Par w V0.heap.size (g383 :: []) P) g.a.kids _) := par_give hl396 (Below.size (kept_trans Kk12.out (kept_trans Kk17.out (kept_trans Kk22.out (kept_trans Kk28.out (kept_trans Kk34.out Kk382.out)))))) XL386.out
                  have Hhl397 : Hid (LiesQ w389 (Par w V0.heap.size (g383 :: []) P) g.b.kids _) := par_give hl397 (Below.size (kept_trans Kk12.out (kept_trans Kk17.out (kept_trans Kk22.out (kept_trans Kk28.out (kept_trans Kk34.out Kk382.out)))))) XL386.out
                  have Hhl398 : Hid (LiesQ w389 (Par w V0.heap.size (g383 :: []) P) g.x.kids _) := par_give hl398 (Below.size (kept_trans Kk12.out (kept_trans Kk17.out (kept_trans Kk22.out (kept_trans Kk28.out (kept_trans Kk34.out Kk382.out)))))) XL386.out
                  have Hhl399 : Hid (LiesQ w389 (Par w V0.heap.size (g383 :: []) P) g.y.kids _) := par_give hl399 (Below.size (kept_trans Kk12.out (kept_trans Kk17.out (kept_trans Kk22.out (kept_trans Kk28.out (kept_trans Kk34.out Kk382.out)))))) XL386.out
                  have Hhl400 : Hid (LiesQ w389 (Par w V0.heap.size (g383 :: []) P) g.h.kids _) := par_give hl400 (Below.size (kept_trans Kk12.out (kept_trans Kk17.out (kept_trans Kk22.out (kept_trans Kk28.out (kept_trans Kk34.out Kk382.out)))))) XL386.out
                  clear hl396 hl397 hl398 hl399 hl400
                  (try clear hHeld)
                  refine hK.out _ _ ?_ (fun hHeld => ?_)
                  · (try dsimp only)
                    exact seesN_kept _ (kept_trans Kk382.out Kk416.out)
                  clear hK K
                  (try simp only [Act.put, List.setIfInBounds_toArray, List.set_cons_zero, List.set_cons_succ])
                  exact HJj35 w389 a401 c402 a404 c405 a407 c408 a410 c411 a413 c414 g383 ⟨(kept_trans Kk382.out Kk416.out), Hhl396.out, Hhl397.out, Hhl398.out, Hhl399.out, Hhl400.out, (blk_at Hx379.out Kk416.out), HG385.out, (Nat.le_trans (Below.size (kept_refl _)) HP387.out), HD388.out, (xlt_later XL386.out Kk416.out)⟩
                refine AllReadyH.cons (o := hetEndsr3_8) rfl (fun K hK => ?_) ?_
                · unfold hetEndsr3_8
                  go_simp
                  refine at_K (fun W417 hW417 => ?_)
                  obtain ⟨k419, x418, z420⟩ := alloc1 hW417
                  have Kk421 := Lib.hid k419
                  clear k419
                  obtain ⟨g422, hg423⟩ : ∃ q, W378.heap.size = q := ⟨_, rfl⟩
                  rw [hg423] at x418 ⊢
                  have Hx418 := Lib.hid x418
                  have Hz420 := Lib.hid z420
                  clear x418 z420 hW417
                  have HG424 : Hid (V0.heap.size ≤ g422) := (by show _ ≤ _; rw [← hg423]; exact (Below.size (kept_trans Kk12.out (kept_trans Kk17.out (kept_trans Kk22.out (kept_trans Kk28.out (kept_trans Kk34.out Kk382.out)))))))
                  have AP425 : Hid (g383 < g422) := (by show _ < _; rw [← hg423]; exact block_lt Hx379.out)
                  have XL426 : Hid (XLt (g422 :: (g383 :: [])) W417) := (by show XLt _ _; rw [← hg423]; exact xlt_more XL386.out Kk421.out (by have := Hz420.out; omega))
                  have HP427 : Hid (W378.heap.size ≤ g422) := (by show _ ≤ _; rw [← hg423]; exact Nat.le_refl _)
                  have HD428 : Hid (W31.heap.size ≤ g422) := (by show _ ≤ _; rw [← hg423]; exact Below.size Kk382.out)
                  clear hg423
                  (try clear hHeld)
                  refine hK.out _ _ ?_ (fun hHeld => ?_)
                  · (try dsimp only)
                    exact seesN_kept _ (kept_trans Kk382.out Kk421.out)
                  clear hK K
                  (try simp only [Act.put, List.setIfInBounds_toArray, List.set_cons_zero, List.set_cons_succ])
                  exact HJj36 W417 g422 g383 ⟨(kept_trans Kk382.out Kk421.out), Hx418.out, (blk_at Hx379.out Kk421.out), HG424.out, (Nat.le_trans (Below.size Kk382.out) HP427.out), HD428.out, HG385.out, (Nat.le_trans (Below.size (kept_refl _)) HP387.out), HD388.out, (by have := AP425.out; omega), (xlt_x XL426.out (List.forall_mem_cons.2 ⟨(List.mem_cons_of_mem _ (List.mem_cons_self ..)), (List.forall_mem_cons.2 ⟨(List.mem_cons_self ..), (fun _ h => nomatch h)⟩)⟩))⟩
                exact AllReadyH.nil
              exact AllReadyH.nil
            · intro W315 a63 c64 a66 c67 a69 c70 a72 c73 a75 c76 g320 k429
              obtain ⟨q430, q431, q432, q433, q434, q435, q436, q437, q438, q439, q440⟩ := k429
              have Kk441 := Lib.hid q430
              have HL442 := Lib.hid q431
              have HL443 := Lib.hid q432
              have HL444 := Lib.hid q433
              have HL445 := Lib.hid q434
              have HL446 := Lib.hid q435
              have HX447 := Lib.hid q436
              have HG448 := Lib.hid q437
              have HP449 := Lib.hid q438
              have HD450 := Lib.hid q439
              have XL451 := Lib.hid q440
              clear q430 q431 q432 q433 q434 q435 q436 q437 q438 q439 q440
              have hHeld : SeesN W31 V0.heap.size W315 := seesN_kept _ Kk441.out
              refine wpAnyH_ready (rs := [2, 8]) (by kernel_rfl) (by simp) ?_
              refine AllReadyH.cons (o := hetEndsr3_2) rfl (fun K hK => ?_) ?_
              · unfold hetEndsr3_2
                go_simp
                have hq454 := hturn_any g (Par w V0.heap.size (g320 :: []) P) W315 (.slice a63 g.a.kids.length c64) (.slice a66 g.b.kids.length c67) (.slice a69 g.x.kids.length c70) (.slice a72 g.y.kids.length c73) (.slice a75 g.h.kids.length c76) ⟨((show He.fine g from ⟨Gg.out.1, Gg.out.2.1, Gg.out.2.2.1, Gg.out.2.2.2.1, Gg.out.2.2.2.2.1, Gg.out.2.2.2.2.2⟩)).1, ((show He.fine g from ⟨Gg.out.1, Gg.out.2.1, Gg.out.2.2.1, Gg.out.2.2.2.1, Gg.out.2.2.2.2.1, Gg.out.2.2.2.2.2⟩)).2.1, ((show He.fine g from ⟨Gg.out.1, Gg.out.2.1, Gg.out.2.2.1, Gg.out.2.2.2.1, Gg.out.2.2.2.2.1, Gg.out.2.2.2.2.2⟩)).2.2.1, ((show He.fine g from ⟨Gg.out.1, Gg.out.2.1, Gg.out.2.2.1, Gg.out.2.2.2.1, Gg.out.2.2.2.2.1, Gg.out.2.2.2.2.2⟩)).2.2.2.1, ((show He.fine g from ⟨Gg.out.1, Gg.out.2.1, Gg.out.2.2.1, Gg.out.2.2.2.1, Gg.out.2.2.2.2.1, Gg.out.2.2.2.2.2⟩)).2.2.2.2.1, ((show He.fine g from ⟨Gg.out.1, Gg.out.2.1, Gg.out.2.2.1, Gg.out.2.2.2.1, Gg.out.2.2.2.2.1, Gg.out.2.2.2.2.2⟩)).2.2.2.2.2⟩ ⟨HL442.out, HL443.out, HL444.out, HL445.out, HL446.out⟩
                rw [turn_good Hhb20.out] at hq454
                refine hq454.mono ?_
                clear hq454
                obtain ⟨U455, hU455⟩ : ∃ qu, turned g = qu := ⟨_, rfl⟩
                rw [hU455]
                have HU455 := Lib.hid hU455
                clear hU455
                rintro e w452 ⟨s456, s457, s458, s459, s460, rfl, ⟨hl461, hl462, hl463, hl464, hl465⟩, k453⟩
                obtain ⟨a466, c467, S468, rfl, -⟩ := hl461.out
                obtain ⟨a469, c470, S471, rfl, -⟩ := hl462.out
                obtain ⟨a472, c473, S474, rfl, -⟩ := hl463.out
                obtain ⟨a475, c476, S477, rfl, -⟩ := hl464.out
                obtain ⟨a478, c479, S480, rfl, -⟩ := hl465.out
                have Kk481 := Lib.hid k453
                clear k453
                have Hhl461 : Hid (LiesQ w452 (Par w V0.heap.size (g320 :: []) P) U455.a.kids _) := par_give hl461 (Below.size (kept_trans Kk12.out (kept_trans Kk17.out (kept_trans Kk22.out (kept_trans Kk28.out (kept_trans Kk34.out Kk441.out)))))) XL451.out
                have Hhl462 : Hid (LiesQ w452 (Par w V0.heap.size (g320 :: []) P) U455.b.kids _) := par_give hl462 (Below.size (kept_trans Kk12.out (kept_trans Kk17.out (kept_trans Kk22.out (kept_trans Kk28.out (kept_trans Kk34.out Kk441.out)))))) XL451.out
                have Hhl463 : Hid (LiesQ w452 (Par w V0.heap.size (g320 :: []) P) U455.x.kids _) := par_give hl463 (Below.size (kept_trans Kk12.out (kept_trans Kk17.out (kept_trans Kk22.out (kept_trans Kk28.out (kept_trans Kk34.out Kk441.out)))))) XL451.out
                have Hhl464 : Hid (LiesQ w452 (Par w V0.heap.size (g320 :: []) P) U455.y.kids _) := par_give hl464 (Below.size (kept_trans Kk12.out (kept_trans Kk17.out (kept_trans Kk22.out (kept_trans Kk28.out (kept_trans Kk34.out Kk441.out)))))) XL451.out
                have Hhl465 : Hid (LiesQ w452 (Par w V0.heap.size (g320 :: []) P) U455.h.kids _) := par_give hl465 (Below.size (kept_trans Kk12.out (kept_trans Kk17.out (kept_trans Kk22.out (kept_trans Kk28.out (kept_trans Kk34.out Kk441.out)))))) XL451.out
                clear hl461 hl462 hl463 hl464 hl465
                have fi482 : (U455.i == g.i) = true := by rw [← HU455.out]; exact beq_iff_eq.2 rfl
                have fi483 : (U455.i != g.i) = false := by rw [← HU455.out]; exact bne_eq_false_iff_eq.2 rfl
                (try clear hHeld)
                refine hK.out _ _ ?_ (fun hHeld => ?_)
                · (try dsimp only)
                  exact seesN_kept _ (kept_trans Kk441.out Kk481.out)
                clear hK K
                (try simp only [Act.put, List.setIfInBounds_toArray, List.set_cons_zero, List.set_cons_succ])
                exact HJj39 w452 a63 c64 a66 c67 a69 c70 a72 c73 a75 c76 U455 a466 c467 a469 c470 a472 c473 a475 c476 a478 c479 g320 ⟨(kept_trans Kk441.out Kk481.out), HU455.out, Hhl461.out, Hhl462.out, Hhl463.out, Hhl464.out, Hhl465.out, (blk_at HX447.out Kk481.out), HG448.out, (Nat.le_trans (Below.size (kept_refl _)) HP449.out), HD450.out, (xlt_later XL451.out Kk481.out)⟩
              refine AllReadyH.cons (o := hetEndsr3_8) rfl (fun K hK => ?_) ?_
              · unfold hetEndsr3_8
                go_simp
                refine at_K (fun W484 hW484 => ?_)
                obtain ⟨k486, x485, z487⟩ := alloc1 hW484
                have Kk488 := Lib.hid k486
                clear k486
                obtain ⟨g489, hg490⟩ : ∃ q, W315.heap.size = q := ⟨_, rfl⟩
                rw [hg490] at x485 ⊢
                have Hx485 := Lib.hid x485
                have Hz487 := Lib.hid z487
                clear x485 z487 hW484
                have HG491 : Hid (V0.heap.size ≤ g489) := (by show _ ≤ _; rw [← hg490]; exact (Below.size (kept_trans Kk12.out (kept_trans Kk17.out (kept_trans Kk22.out (kept_trans Kk28.out (kept_trans Kk34.out Kk441.out)))))))
                have AP492 : Hid (g320 < g489) := (by show _ < _; rw [← hg490]; exact block_lt HX447.out)
                have XL493 : Hid (XLt (g489 :: (g320 :: [])) W484) := (by show XLt _ _; rw [← hg490]; exact xlt_more XL451.out Kk488.out (by have := Hz487.out; omega))
                have HP494 : Hid (W315.heap.size ≤ g489) := (by show _ ≤ _; rw [← hg490]; exact Nat.le_refl _)
                have HD495 : Hid (W31.heap.size ≤ g489) := (by show _ ≤ _; rw [← hg490]; exact Below.size Kk441.out)
                clear hg490
                (try clear hHeld)
                refine hK.out _ _ ?_ (fun hHeld => ?_)
                · (try dsimp only)
                  exact seesN_kept _ (kept_trans Kk441.out Kk488.out)
                clear hK K
                (try simp only [Act.put, List.setIfInBounds_toArray, List.set_cons_zero, List.set_cons_succ])
                have pg496 : ∀ (l : List Tm) (s : Value), LiesQ W315 (Par w V0.heap.size (g320 :: []) P) l s → LiesQ W484 (Par w V0.heap.size (g320 :: (g489 :: [])) P) l s := fun _ _ h => par_grow h Kk488.out (List.forall_mem_cons.2 ⟨(Or.inl (List.mem_cons_self ..)), (List.forall_mem_cons.2 ⟨(Or.inr HP494.out), (fun _ h => nomatch h)⟩)⟩)
                exact HJj38 W484 a63 c64 a66 c67 a69 c70 a72 c73 a75 c76 g489 g320 ⟨(kept_trans Kk441.out Kk488.out), (pg496 _ _ HL442.out), (pg496 _ _ HL443.out), (pg496 _ _ HL444.out), (pg496 _ _ HL445.out), (pg496 _ _ HL446.out), Hx485.out, (blk_at HX447.out Kk488.out), HG491.out, (Nat.le_trans (Below.size Kk441.out) HP494.out), HD495.out, HG448.out, (Nat.le_trans (Below.size (kept_refl _)) HP449.out), HD450.out, (by have := AP492.out; omega), (xlt_x XL493.out (List.forall_mem_cons.2 ⟨(List.mem_cons_of_mem _ (List.mem_cons_self ..)), (List.forall_mem_cons.2 ⟨(List.mem_cons_self ..), (fun _ h => nomatch h)⟩)⟩))⟩
              exact AllReadyH.nil
            · intro W366 g332 g371 k497
              obtain ⟨q498, q499, q500, q501, q502, q503, q504, q505, q506, q507, q508⟩ := k497
              have Kk509 := Lib.hid q498
              have HX510 := Lib.hid q499
              have HX511 := Lib.hid q500
              have HG512 := Lib.hid q501
              have HP513 := Lib.hid q502
              have HD514 := Lib.hid q503
              have HG515 := Lib.hid q504
              have HP516 := Lib.hid q505
              have HD517 := Lib.hid q506
              have AP518 := Lib.hid q507
              have XL519 := Lib.hid q508
              clear q498 q499 q500 q501 q502 q503 q504 q505 q506 q507 q508
              have hHeld : SeesN W31 V0.heap.size W366 := seesN_kept _ Kk509.out
              refine wpAnyH_ready (rs := [1]) (by kernel_rfl) (by simp) ?_
              refine AllReadyH.cons (o := hetEndsr3_1) rfl (fun K hK => ?_) ?_
              · unfold hetEndsr3_1
                go_simp
                refine (lours_any g (Par w V0.heap.size (g371 :: (g332 :: [])) P) _ (.slice aga g.a.kids.length cga) (.slice agb g.b.kids.length cgb) (.slice agx g.x.kids.length cgx) (.slice agy g.y.kids.length cgy) (.slice agh g.h.kids.length cgh) ⟨Gg.out.1, Gg.out.2.1, Gg.out.2.2.1, Gg.out.2.2.2.1, Gg.out.2.2.2.2.1, Gg.out.2.2.2.2.2⟩ ⟨(par_grow HLga.out (kept_trans Kk12.out (kept_trans Kk17.out (kept_trans Kk22.out (kept_trans Kk28.out (kept_trans Kk34.out Kk509.out))))) (List.forall_mem_cons.2 ⟨(Or.inr (Nat.le_trans (Below.size (kept_trans Kk12.out (kept_trans Kk17.out (kept_trans Kk22.out (kept_trans Kk28.out Kk34.out))))) HP516.out)), (List.forall_mem_cons.2 ⟨(Or.inr (Nat.le_trans (Below.size (kept_trans Kk12.out (kept_trans Kk17.out (kept_trans Kk22.out (kept_trans Kk28.out Kk34.out))))) HP513.out)), (fun _ h => nomatch h)⟩)⟩)), (par_grow HLgb.out (kept_trans Kk12.out (kept_trans Kk17.out (kept_trans Kk22.out (kept_trans Kk28.out (kept_trans Kk34.out Kk509.out))))) (List.forall_mem_cons.2 ⟨(Or.inr (Nat.le_trans (Below.size (kept_trans Kk12.out (kept_trans Kk17.out (kept_trans Kk22.out (kept_trans Kk28.out Kk34.out))))) HP516.out)), (List.forall_mem_cons.2 ⟨(Or.inr (Nat.le_trans (Below.size (kept_trans Kk12.out (kept_trans Kk17.out (kept_trans Kk22.out (kept_trans Kk28.out Kk34.out))))) HP513.out)), (fun _ h => nomatch h)⟩)⟩)), (par_grow HLgx.out (kept_trans Kk12.out (kept_trans Kk17.out (kept_trans Kk22.out (kept_trans Kk28.out (kept_trans Kk34.out Kk509.out))))) (List.forall_mem_cons.2 ⟨(Or.inr (Nat.le_trans (Below.size (kept_trans Kk12.out (kept_trans Kk17.out (kept_trans Kk22.out (kept_trans Kk28.out Kk34.out))))) HP516.out)), (List.forall_mem_cons.2 ⟨(Or.inr (Nat.le_trans (Below.size (kept_trans Kk12.out (kept_trans Kk17.out (kept_trans Kk22.out (kept_trans Kk28.out Kk34.out))))) HP513.out)), (fun _ h => nomatch h)⟩)⟩)), (par_grow HLgy.out (kept_trans Kk12.out (kept_trans Kk17.out (kept_trans Kk22.out (kept_trans Kk28.out (kept_trans Kk34.out Kk509.out))))) (List.forall_mem_cons.2 ⟨(Or.inr (Nat.le_trans (Below.size (kept_trans Kk12.out (kept_trans Kk17.out (kept_trans Kk22.out (kept_trans Kk28.out Kk34.out))))) HP516.out)), (List.forall_mem_cons.2 ⟨(Or.inr (Nat.le_trans (Below.size (kept_trans Kk12.out (kept_trans Kk17.out (kept_trans Kk22.out (kept_trans Kk28.out Kk34.out))))) HP513.out)), (fun _ h => nomatch h)⟩)⟩)), (par_grow HLgh.out (kept_trans Kk12.out (kept_trans Kk17.out (kept_trans Kk22.out (kept_trans Kk28.out (kept_trans Kk34.out Kk509.out))))) (List.forall_mem_cons.2 ⟨(Or.inr (Nat.le_trans (Below.size (kept_trans Kk12.out (kept_trans Kk17.out (kept_trans Kk22.out (kept_trans Kk28.out Kk34.out))))) HP516.out)), (List.forall_mem_cons.2 ⟨(Or.inr (Nat.le_trans (Below.size (kept_trans Kk12.out (kept_trans Kk17.out (kept_trans Kk22.out (kept_trans Kk28.out Kk34.out))))) HP513.out)), (fun _ h => nomatch h)⟩)⟩))⟩).mono ?_
                rintro e w520 ⟨s522, s523, s524, s525, s526, rfl, ⟨hl527, hl528, hl529, hl530, hl531⟩, k521⟩
                obtain ⟨a532, c533, S534, rfl, -⟩ := hl527.out
                obtain ⟨a535, c536, S537, rfl, -⟩ := hl528.out
                obtain ⟨a538, c539, S540, rfl, -⟩ := hl529.out
                obtain ⟨a541, c542, S543, rfl, -⟩ := hl530.out
                obtain ⟨a544, c545, S546, rfl, -⟩ := hl531.out
                have Kk547 := Lib.hid k521
                clear k521
                have Hhl527 : Hid (LiesQ w520 (Par w V0.heap.size (g371 :: (g332 :: [])) P) g.a.kids _) := par_give hl527 (Below.size (kept_trans Kk12.out (kept_trans Kk17.out (kept_trans Kk22.out (kept_trans Kk28.out (kept_trans Kk34.out Kk509.out)))))) XL519.out
                have Hhl528 : Hid (LiesQ w520 (Par w V0.heap.size (g371 :: (g332 :: [])) P) g.b.kids _) := par_give hl528 (Below.size (kept_trans Kk12.out (kept_trans Kk17.out (kept_trans Kk22.out (kept_trans Kk28.out (kept_trans Kk34.out Kk509.out)))))) XL519.out
                have Hhl529 : Hid (LiesQ w520 (Par w V0.heap.size (g371 :: (g332 :: [])) P) g.x.kids _) := par_give hl529 (Below.size (kept_trans Kk12.out (kept_trans Kk17.out (kept_trans Kk22.out (kept_trans Kk28.out (kept_trans Kk34.out Kk509.out)))))) XL519.out
                have Hhl530 : Hid (LiesQ w520 (Par w V0.heap.size (g371 :: (g332 :: [])) P) g.y.kids _) := par_give hl530 (Below.size (kept_trans Kk12.out (kept_trans Kk17.out (kept_trans Kk22.out (kept_trans Kk28.out (kept_trans Kk34.out Kk509.out)))))) XL519.out
                have Hhl531 : Hid (LiesQ w520 (Par w V0.heap.size (g371 :: (g332 :: [])) P) g.h.kids _) := par_give hl531 (Below.size (kept_trans Kk12.out (kept_trans Kk17.out (kept_trans Kk22.out (kept_trans Kk28.out (kept_trans Kk34.out Kk509.out)))))) XL519.out
                clear hl527 hl528 hl529 hl530 hl531
                (try clear hHeld)
                refine hK.out _ _ ?_ (fun hHeld => ?_)
                · (try dsimp only)
                  exact seesN_kept _ (kept_trans Kk509.out Kk547.out)
                clear hK K
                (try simp only [Act.put, List.setIfInBounds_toArray, List.set_cons_zero, List.set_cons_succ])
                exact HJj38 w520 a532 c533 a535 c536 a538 c539 a541 c542 a544 c545 g332 g371 ⟨(kept_trans Kk509.out Kk547.out), Hhl527.out, Hhl528.out, Hhl529.out, Hhl530.out, Hhl531.out, (blk_at HX510.out Kk547.out), (blk_at HX511.out Kk547.out), HG512.out, (Nat.le_trans (Below.size (kept_refl _)) HP513.out), HD514.out, HG515.out, (Nat.le_trans (Below.size (kept_refl _)) HP516.out), HD517.out, (by have := AP518.out; omega), (xlt_later XL519.out Kk547.out)⟩
              exact AllReadyH.nil
            · intro W303 a63 c64 a66 c67 a69 c70 a72 c73 a75 c76 g308 k548
              obtain ⟨q549, q550, q551, q552, q553, q554, q555, q556, q557, q558, q559⟩ := k548
              have Kk560 := Lib.hid q549
              have HL561 := Lib.hid q550
              have HL562 := Lib.hid q551
              have HL563 := Lib.hid q552
              have HL564 := Lib.hid q553
              have HL565 := Lib.hid q554
              have HX566 := Lib.hid q555
              have HG567 := Lib.hid q556
              have HP568 := Lib.hid q557
              have HD569 := Lib.hid q558
              have XL570 := Lib.hid q559
              clear q549 q550 q551 q552 q553 q554 q555 q556 q557 q558 q559
              have hHeld : SeesN W31 V0.heap.size W303 := seesN_kept _ Kk560.out
              refine wpAnyH_ready (rs := [2, 9]) (by kernel_rfl) (by simp) ?_
              refine AllReadyH.cons (o := hetEndsr3_2) rfl (fun K hK => ?_) ?_
              · unfold hetEndsr3_2
                go_simp
                have hq573 := hturn_any g (Par w V0.heap.size (g308 :: []) P) W303 (.slice a63 g.a.kids.length c64) (.slice a66 g.b.kids.length c67) (.slice a69 g.x.kids.length c70) (.slice a72 g.y.kids.length c73) (.slice a75 g.h.kids.length c76) ⟨((show He.fine g from ⟨Gg.out.1, Gg.out.2.1, Gg.out.2.2.1, Gg.out.2.2.2.1, Gg.out.2.2.2.2.1, Gg.out.2.2.2.2.2⟩)).1, ((show He.fine g from ⟨Gg.out.1, Gg.out.2.1, Gg.out.2.2.1, Gg.out.2.2.2.1, Gg.out.2.2.2.2.1, Gg.out.2.2.2.2.2⟩)).2.1, ((show He.fine g from ⟨Gg.out.1, Gg.out.2.1, Gg.out.2.2.1, Gg.out.2.2.2.1, Gg.out.2.2.2.2.1, Gg.out.2.2.2.2.2⟩)).2.2.1, ((show He.fine g from ⟨Gg.out.1, Gg.out.2.1, Gg.out.2.2.1, Gg.out.2.2.2.1, Gg.out.2.2.2.2.1, Gg.out.2.2.2.2.2⟩)).2.2.2.1, ((show He.fine g from ⟨Gg.out.1, Gg.out.2.1, Gg.out.2.2.1, Gg.out.2.2.2.1, Gg.out.2.2.2.2.1, Gg.out.2.2.2.2.2⟩)).2.2.2.2.1, ((show He.fine g from ⟨Gg.out.1, Gg.out.2.1, Gg.out.2.2.1, Gg.out.2.2.2.1, Gg.out.2.2.2.2.1, Gg.out.2.2.2.2.2⟩)).2.2.2.2.2⟩ ⟨HL561.out, HL562.out, HL563.out, HL564.out, HL565.out⟩
                rw [turn_good Hhb20.out] at hq573
                refine hq573.mono ?_
                clear hq573
                obtain ⟨U574, hU574⟩ : ∃ qu, turned g = qu := ⟨_, rfl⟩
                rw [hU574]
                have HU574 := Lib.hid hU574
                clear hU574
                rintro e w571 ⟨s575, s576, s577, s578, s579, rfl, ⟨hl580, hl581, hl582, hl583, hl584⟩, k572⟩
                obtain ⟨a585, c586, S587, rfl, -⟩ := hl580.out
                obtain ⟨a588, c589, S590, rfl, -⟩ := hl581.out
                obtain ⟨a591, c592, S593, rfl, -⟩ := hl582.out
                obtain ⟨a594, c595, S596, rfl, -⟩ := hl583.out
                obtain ⟨a597, c598, S599, rfl, -⟩ := hl584.out
                have Kk600 := Lib.hid k572
                clear k572
                have Hhl580 : Hid (LiesQ w571 (Par w V0.heap.size (g308 :: []) P) U574.a.kids _) := par_give hl580 (Below.size (kept_trans Kk12.out (kept_trans Kk17.out (kept_trans Kk22.out (kept_trans Kk28.out (kept_trans Kk34.out Kk560.out)))))) XL570.out
                have Hhl581 : Hid (LiesQ w571 (Par w V0.heap.size (g308 :: []) P) U574.b.kids _) := par_give hl581 (Below.size (kept_trans Kk12.out (kept_trans Kk17.out (kept_trans Kk22.out (kept_trans Kk28.out (kept_trans Kk34.out Kk560.out)))))) XL570.out
                have Hhl582 : Hid (LiesQ w571 (Par w V0.heap.size (g308 :: []) P) U574.x.kids _) := par_give hl582 (Below.size (kept_trans Kk12.out (kept_trans Kk17.out (kept_trans Kk22.out (kept_trans Kk28.out (kept_trans Kk34.out Kk560.out)))))) XL570.out
                have Hhl583 : Hid (LiesQ w571 (Par w V0.heap.size (g308 :: []) P) U574.y.kids _) := par_give hl583 (Below.size (kept_trans Kk12.out (kept_trans Kk17.out (kept_trans Kk22.out (kept_trans Kk28.out (kept_trans Kk34.out Kk560.out)))))) XL570.out
                have Hhl584 : Hid (LiesQ w571 (Par w V0.heap.size (g308 :: []) P) U574.h.kids _) := par_give hl584 (Below.size (kept_trans Kk12.out (kept_trans Kk17.out (kept_trans Kk22.out (kept_trans Kk28.out (kept_trans Kk34.out Kk560.out)))))) XL570.out
                clear hl580 hl581 hl582 hl583 hl584
                have fi601 : (U574.i == g.i) = true := by rw [← HU574.out]; exact beq_iff_eq.2 rfl
                have fi602 : (U574.i != g.i) = false := by rw [← HU574.out]; exact bne_eq_false_iff_eq.2 rfl
                (try clear hHeld)
                refine hK.out _ _ ?_ (fun hHeld => ?_)
                · (try dsimp only)
                  exact seesN_kept _ (kept_trans Kk560.out Kk600.out)
                clear hK K
                (try simp only [Act.put, List.setIfInBounds_toArray, List.set_cons_zero, List.set_cons_succ])
                exact HJj40 w571 a63 c64 a66 c67 a69 c70 a72 c73 a75 c76 U574 a585 c586 a588 c589 a591 c592 a594 c595 a597 c598 g308 ⟨(kept_trans Kk560.out Kk600.out), HU574.out, Hhl580.out, Hhl581.out, Hhl582.out, Hhl583.out, Hhl584.out, (blk_at HX566.out Kk600.out), HG567.out, (Nat.le_trans (Below.size (kept_refl _)) HP568.out), HD569.out, (xlt_later XL570.out Kk600.out)⟩
              refine AllReadyH.cons (o := hetEndsr3_9) rfl (fun K hK => ?_) ?_
              · unfold hetEndsr3_9
                go_simp
                refine at_K (fun W603 hW603 => ?_)
                obtain ⟨k605, x604, z606⟩ := alloc1 hW603
                have Kk607 := Lib.hid k605
                clear k605
                obtain ⟨g608, hg609⟩ : ∃ q, W303.heap.size = q := ⟨_, rfl⟩
                rw [hg609] at x604 ⊢
                have Hx604 := Lib.hid x604
                have Hz606 := Lib.hid z606
                clear x604 z606 hW603
                have HG610 : Hid (V0.heap.size ≤ g608) := (by show _ ≤ _; rw [← hg609]; exact (Below.size (kept_trans Kk12.out (kept_trans Kk17.out (kept_trans Kk22.out (kept_trans Kk28.out (kept_trans Kk34.out Kk560.out)))))))
                have AP611 : Hid (g308 < g608) := (by show _ < _; rw [← hg609]; exact block_lt HX566.out)
                have XL612 : Hid (XLt (g608 :: (g308 :: [])) W603) := (by show XLt _ _; rw [← hg609]; exact xlt_more XL570.out Kk607.out (by have := Hz606.out; omega))
                have HP613 : Hid (W303.heap.size ≤ g608) := (by show _ ≤ _; rw [← hg609]; exact Nat.le_refl _)
                have HD614 : Hid (W31.heap.size ≤ g608) := (by show _ ≤ _; rw [← hg609]; exact Below.size Kk560.out)
                clear hg609
                (try clear hHeld)
                refine hK.out _ _ ?_ (fun hHeld => ?_)
                · (try dsimp only)
                  exact seesN_kept _ (kept_trans Kk560.out Kk607.out)
                clear hK K
                (try simp only [Act.put, List.setIfInBounds_toArray, List.set_cons_zero, List.set_cons_succ])
                have pg615 : ∀ (l : List Tm) (s : Value), LiesQ W303 (Par w V0.heap.size (g308 :: []) P) l s → LiesQ W603 (Par w V0.heap.size (g608 :: (g308 :: [])) P) l s := fun _ _ h => par_grow h Kk607.out (List.forall_mem_cons.2 ⟨(Or.inr HP613.out), (List.forall_mem_cons.2 ⟨(Or.inl (List.mem_cons_self ..)), (fun _ h => nomatch h)⟩)⟩)
                exact HJj38 W603 a63 c64 a66 c67 a69 c70 a72 c73 a75 c76 g308 g608 ⟨(kept_trans Kk560.out Kk607.out), (pg615 _ _ HL561.out), (pg615 _ _ HL562.out), (pg615 _ _ HL563.out), (pg615 _ _ HL564.out), (pg615 _ _ HL565.out), (blk_at HX566.out Kk607.out), Hx604.out, HG567.out, (Nat.le_trans (Below.size (kept_refl _)) HP568.out), HD569.out, HG610.out, (Nat.le_trans (Below.size Kk560.out) HP613.out), HD614.out, (by have := AP611.out; omega), XL612.out⟩
              exact AllReadyH.nil
            · intro W484 a63 c64 a66 c67 a69 c70 a72 c73 a75 c76 g489 g320 k616
              obtain ⟨q617, q618, q619, q620, q621, q622, q623, q624, q625, q626, q627, q628, q629, q630, q631, q632⟩ := k616
              have Kk633 := Lib.hid q617
              have HL634 := Lib.hid q618
              have HL635 := Lib.hid q619
              have HL636 := Lib.hid q620
              have HL637 := Lib.hid q621
              have HL638 := Lib.hid q622
              have HX639 := Lib.hid q623
              have HX640 := Lib.hid q624
              have HG641 := Lib.hid q625
              have HP642 := Lib.hid q626
              have HD643 := Lib.hid q627
              have HG644 := Lib.hid q628
              have HP645 := Lib.hid q629
              have HD646 := Lib.hid q630
              have AP647 := Lib.hid q631
              have XL648 := Lib.hid q632
              clear q617 q618 q619 q620 q621 q622 q623 q624 q625 q626 q627 q628 q629 q630 q631 q632
              have hHeld : SeesN W31 V0.heap.size W484 := seesN_kept _ Kk633.out
              refine wpAnyH_ready (rs := [2]) (by kernel_rfl) (by simp) ?_
              refine AllReadyH.cons (o := hetEndsr3_2) rfl (fun K hK => ?_) ?_
              · unfold hetEndsr3_2
                go_simp
                have hq651 := hturn_any g (Par w V0.heap.size (g320 :: (g489 :: [])) P) W484 (.slice a63 g.a.kids.length c64) (.slice a66 g.b.kids.length c67) (.slice a69 g.x.kids.length c70) (.slice a72 g.y.kids.length c73) (.slice a75 g.h.kids.length c76) ⟨((show He.fine g from ⟨Gg.out.1, Gg.out.2.1, Gg.out.2.2.1, Gg.out.2.2.2.1, Gg.out.2.2.2.2.1, Gg.out.2.2.2.2.2⟩)).1, ((show He.fine g from ⟨Gg.out.1, Gg.out.2.1, Gg.out.2.2.1, Gg.out.2.2.2.1, Gg.out.2.2.2.2.1, Gg.out.2.2.2.2.2⟩)).2.1, ((show He.fine g from ⟨Gg.out.1, Gg.out.2.1, Gg.out.2.2.1, Gg.out.2.2.2.1, Gg.out.2.2.2.2.1, Gg.out.2.2.2.2.2⟩)).2.2.1, ((show He.fine g from ⟨Gg.out.1, Gg.out.2.1, Gg.out.2.2.1, Gg.out.2.2.2.1, Gg.out.2.2.2.2.1, Gg.out.2.2.2.2.2⟩)).2.2.2.1, ((show He.fine g from ⟨Gg.out.1, Gg.out.2.1, Gg.out.2.2.1, Gg.out.2.2.2.1, Gg.out.2.2.2.2.1, Gg.out.2.2.2.2.2⟩)).2.2.2.2.1, ((show He.fine g from ⟨Gg.out.1, Gg.out.2.1, Gg.out.2.2.1, Gg.out.2.2.2.1, Gg.out.2.2.2.2.1, Gg.out.2.2.2.2.2⟩)).2.2.2.2.2⟩ ⟨HL634.out, HL635.out, HL636.out, HL637.out, HL638.out⟩
                rw [turn_good Hhb20.out] at hq651
                refine hq651.mono ?_
                clear hq651
                obtain ⟨U652, hU652⟩ : ∃ qu, turned g = qu := ⟨_, rfl⟩
                rw [hU652]
                have HU652 := Lib.hid hU652
                clear hU652
                rintro e w649 ⟨s653, s654, s655, s656, s657, rfl, ⟨hl658, hl659, hl660, hl661, hl662⟩, k650⟩
                obtain ⟨a663, c664, S665, rfl, -⟩ := hl658.out
                obtain ⟨a666, c667, S668, rfl, -⟩ := hl659.out
                obtain ⟨a669, c670, S671, rfl, -⟩ := hl660.out
                obtain ⟨a672, c673, S674, rfl, -⟩ := hl661.out
                obtain ⟨a675, c676, S677, rfl, -⟩ := hl662.out
                have Kk678 := Lib.hid k650
                clear k650
                have Hhl658 : Hid (LiesQ w649 (Par w V0.heap.size (g320 :: (g489 :: [])) P) U652.a.kids _) := par_give hl658 (Below.size (kept_trans Kk12.out (kept_trans Kk17.out (kept_trans Kk22.out (kept_trans Kk28.out (kept_trans Kk34.out Kk633.out)))))) XL648.out
                have Hhl659 : Hid (LiesQ w649 (Par w V0.heap.size (g320 :: (g489 :: [])) P) U652.b.kids _) := par_give hl659 (Below.size (kept_trans Kk12.out (kept_trans Kk17.out (kept_trans Kk22.out (kept_trans Kk28.out (kept_trans Kk34.out Kk633.out)))))) XL648.out
                have Hhl660 : Hid (LiesQ w649 (Par w V0.heap.size (g320 :: (g489 :: [])) P) U652.x.kids _) := par_give hl660 (Below.size (kept_trans Kk12.out (kept_trans Kk17.out (kept_trans Kk22.out (kept_trans Kk28.out (kept_trans Kk34.out Kk633.out)))))) XL648.out
                have Hhl661 : Hid (LiesQ w649 (Par w V0.heap.size (g320 :: (g489 :: [])) P) U652.y.kids _) := par_give hl661 (Below.size (kept_trans Kk12.out (kept_trans Kk17.out (kept_trans Kk22.out (kept_trans Kk28.out (kept_trans Kk34.out Kk633.out)))))) XL648.out
                have Hhl662 : Hid (LiesQ w649 (Par w V0.heap.size (g320 :: (g489 :: [])) P) U652.h.kids _) := par_give hl662 (Below.size (kept_trans Kk12.out (kept_trans Kk17.out (kept_trans Kk22.out (kept_trans Kk28.out (kept_trans Kk34.out Kk633.out)))))) XL648.out
                clear hl658 hl659 hl660 hl661 hl662
                have fi679 : (U652.i == g.i) = true := by rw [← HU652.out]; exact beq_iff_eq.2 rfl
                have fi680 : (U652.i != g.i) = false := by rw [← HU652.out]; exact bne_eq_false_iff_eq.2 rfl
                (try clear hHeld)
                refine hK.out _ _ ?_ (fun hHeld => ?_)
                · (try dsimp only)
                  exact seesN_kept _ (kept_trans Kk633.out Kk678.out)
                clear hK K
                (try simp only [Act.put, List.setIfInBounds_toArray, List.set_cons_zero, List.set_cons_succ])
                exact HJj41 w649 a63 c64 a66 c67 a69 c70 a72 c73 a75 c76 U652 a663 c664 a666 c667 a669 c670 a672 c673 a675 c676 g489 g320 ⟨(kept_trans Kk633.out Kk678.out), HU652.out, Hhl658.out, Hhl659.out, Hhl660.out, Hhl661.out, Hhl662.out, (blk_at HX639.out Kk678.out), (blk_at HX640.out Kk678.out), HG641.out, (Nat.le_trans (Below.size (kept_refl _)) HP642.out), HD643.out, HG644.out, (Nat.le_trans (Below.size (kept_refl _)) HP645.out), HD646.out, (by have := AP647.out; omega), (xlt_later XL648.out Kk678.out)⟩
              exact AllReadyH.nil
            · intro W291 a63 c64 a66 c67 a69 c70 a72 c73 a75 c76 U82 a93 c94 a96 c97 a99 c100 a102 c103 a105 c106 g296 k681
              obtain ⟨q682, q683, q684, q685, q686, q687, q688, q689, q690, q691, q692, q693⟩ := k681
              have Kk694 := Lib.hid q682
              have HU82 := Lib.hid q683
              have HL695 := Lib.hid q684
              have HL696 := Lib.hid q685
              have HL697 := Lib.hid q686
              have HL698 := Lib.hid q687
              have HL699 := Lib.hid q688
              have HX700 := Lib.hid q689
              have HG701 := Lib.hid q690
              have HP702 := Lib.hid q691
              have HD703 := Lib.hid q692
              have XL704 := Lib.hid q693
              clear q682 q683 q684 q685 q686 q687 q688 q689 q690 q691 q692 q693
              have fi705 : (U82.i == g.i) = true := by rw [← HU82.out]; exact beq_iff_eq.2 rfl
              have fi706 : (U82.i != g.i) = false := by rw [← HU82.out]; exact bne_eq_false_iff_eq.2 rfl
              have hHeld : SeesN W31 V0.heap.size W291 := seesN_kept _ Kk694.out
              refine wpAnyH_ready (rs := [4, 8]) (by kernel_rfl) (by simp) ?_
              refine AllReadyH.cons (o := hetEndsr3_4) rfl (fun K hK => ?_) ?_
              · unfold hetEndsr3_4
                go_simp
                refine (lours_any g (Par w V0.heap.size (g296 :: []) P) _ (.slice aga g.a.kids.length cga) (.slice agb g.b.kids.length cgb) (.slice agx g.x.kids.length cgx) (.slice agy g.y.kids.length cgy) (.slice agh g.h.kids.length cgh) ⟨Gg.out.1, Gg.out.2.1, Gg.out.2.2.1, Gg.out.2.2.2.1, Gg.out.2.2.2.2.1, Gg.out.2.2.2.2.2⟩ ⟨(par_grow HLga.out (kept_trans Kk12.out (kept_trans Kk17.out (kept_trans Kk22.out (kept_trans Kk28.out (kept_trans Kk34.out Kk694.out))))) (List.forall_mem_cons.2 ⟨(Or.inr (Nat.le_trans (Below.size (kept_trans Kk12.out (kept_trans Kk17.out (kept_trans Kk22.out (kept_trans Kk28.out Kk34.out))))) HP702.out)), (fun _ h => nomatch h)⟩)), (par_grow HLgb.out (kept_trans Kk12.out (kept_trans Kk17.out (kept_trans Kk22.out (kept_trans Kk28.out (kept_trans Kk34.out Kk694.out))))) (List.forall_mem_cons.2 ⟨(Or.inr (Nat.le_trans (Below.size (kept_trans Kk12.out (kept_trans Kk17.out (kept_trans Kk22.out (kept_trans Kk28.out Kk34.out))))) HP702.out)), (fun _ h => nomatch h)⟩)), (par_grow HLgx.out (kept_trans Kk12.out (kept_trans Kk17.out (kept_trans Kk22.out (kept_trans Kk28.out (kept_trans Kk34.out Kk694.out))))) (List.forall_mem_cons.2 ⟨(Or.inr (Nat.le_trans (Below.size (kept_trans Kk12.out (kept_trans Kk17.out (kept_trans Kk22.out (kept_trans Kk28.out Kk34.out))))) HP702.out)), (fun _ h => nomatch h)⟩)), (par_grow HLgy.out (kept_trans Kk12.out (kept_trans Kk17.out (kept_trans Kk22.out (kept_trans Kk28.out (kept_trans Kk34.out Kk694.out))))) (List.forall_mem_cons.2 ⟨(Or.inr (Nat.le_trans (Below.size (kept_trans Kk12.out (kept_trans Kk17.out (kept_trans Kk22.out (kept_trans Kk28.out Kk34.out))))) HP702.out)), (fun _ h => nomatch h)⟩)), (par_grow HLgh.out (kept_trans Kk12.out (kept_trans Kk17.out (kept_trans Kk22.out (kept_trans Kk28.out (kept_trans Kk34.out Kk694.out))))) (List.forall_mem_cons.2 ⟨(Or.inr (Nat.le_trans (Below.size (kept_trans Kk12.out (kept_trans Kk17.out (kept_trans Kk22.out (kept_trans Kk28.out Kk34.out))))) HP702.out)), (fun _ h => nomatch h)⟩))⟩).mono ?_
                rintro e w707 ⟨s709, s710, s711, s712, s713, rfl, ⟨hl714, hl715, hl716, hl717, hl718⟩, k708⟩
                obtain ⟨a719, c720, S721, rfl, -⟩ := hl714.out
                obtain ⟨a722, c723, S724, rfl, -⟩ := hl715.out
                obtain ⟨a725, c726, S727, rfl, -⟩ := hl716.out
                obtain ⟨a728, c729, S730, rfl, -⟩ := hl717.out
                obtain ⟨a731, c732, S733, rfl, -⟩ := hl718.out
                have Kk734 := Lib.hid k708
                clear k708
                have Hhl714 : Hid (LiesQ w707 (Par w V0.heap.size (g296 :: []) P) g.a.kids _) := par_give hl714 (Below.size (kept_trans Kk12.out (kept_trans Kk17.out (kept_trans Kk22.out (kept_trans Kk28.out (kept_trans Kk34.out Kk694.out)))))) XL704.out
                have Hhl715 : Hid (LiesQ w707 (Par w V0.heap.size (g296 :: []) P) g.b.kids _) := par_give hl715 (Below.size (kept_trans Kk12.out (kept_trans Kk17.out (kept_trans Kk22.out (kept_trans Kk28.out (kept_trans Kk34.out Kk694.out)))))) XL704.out
                have Hhl716 : Hid (LiesQ w707 (Par w V0.heap.size (g296 :: []) P) g.x.kids _) := par_give hl716 (Below.size (kept_trans Kk12.out (kept_trans Kk17.out (kept_trans Kk22.out (kept_trans Kk28.out (kept_trans Kk34.out Kk694.out)))))) XL704.out
                have Hhl717 : Hid (LiesQ w707 (Par w V0.heap.size (g296 :: []) P) g.y.kids _) := par_give hl717 (Below.size (kept_trans Kk12.out (kept_trans Kk17.out (kept_trans Kk22.out (kept_trans Kk28.out (kept_trans Kk34.out Kk694.out)))))) XL704.out
                have Hhl718 : Hid (LiesQ w707 (Par w V0.heap.size (g296 :: []) P) g.h.kids _) := par_give hl718 (Below.size (kept_trans Kk12.out (kept_trans Kk17.out (kept_trans Kk22.out (kept_trans Kk28.out (kept_trans Kk34.out Kk694.out)))))) XL704.out
                clear hl714 hl715 hl716 hl717 hl718
                (try clear hHeld)
                refine hK.out _ _ ?_ (fun hHeld => ?_)
                · (try dsimp only)
                  exact seesN_kept _ (kept_trans Kk694.out Kk734.out)
                clear hK K
                (try simp only [Act.put, List.setIfInBounds_toArray, List.set_cons_zero, List.set_cons_succ])
                exact HJj42 w707 a63 c64 a66 c67 a69 c70 a72 c73 a75 c76 U82 a93 c94 a96 c97 a99 c100 a102 c103 a105 c106 a719 c720 a722 c723 a725 c726 a728 c729 a731 c732 g296 ⟨(kept_trans Kk694.out Kk734.out), HU82.out, (HL695.out.later Kk734.out), (HL696.out.later Kk734.out), (HL697.out.later Kk734.out), (HL698.out.later Kk734.out), (HL699.out.later Kk734.out), Hhl714.out, Hhl715.out, Hhl716.out, Hhl717.out, Hhl718.out, (blk_at HX700.out Kk734.out), HG701.out, (Nat.le_trans (Below.size (kept_refl _)) HP702.out), HD703.out, (xlt_later XL704.out Kk734.out)⟩
              refine AllReadyH.cons (o := hetEndsr3_8) rfl (fun K hK => ?_) ?_
              · unfold hetEndsr3_8
                go_simp
                refine at_K (fun W735 hW735 => ?_)
                obtain ⟨k737, x736, z738⟩ := alloc1 hW735
                have Kk739 := Lib.hid k737
                clear k737
                obtain ⟨g740, hg741⟩ : ∃ q, W291.heap.size = q := ⟨_, rfl⟩
                rw [hg741] at x736 ⊢
                have Hx736 := Lib.hid x736
                have Hz738 := Lib.hid z738
                clear x736 z738 hW735
                have HG742 : Hid (V0.heap.size ≤ g740) := (by show _ ≤ _; rw [← hg741]; exact (Below.size (kept_trans Kk12.out (kept_trans Kk17.out (kept_trans Kk22.out (kept_trans Kk28.out (kept_trans Kk34.out Kk694.out)))))))
                have AP743 : Hid (g296 < g740) := (by show _ < _; rw [← hg741]; exact block_lt HX700.out)
                have XL744 : Hid (XLt (g740 :: (g296 :: [])) W735) := (by show XLt _ _; rw [← hg741]; exact xlt_more XL704.out Kk739.out (by have := Hz738.out; omega))
                have HP745 : Hid (W291.heap.size ≤ g740) := (by show _ ≤ _; rw [← hg741]; exact Nat.le_refl _)
                have HD746 : Hid (W31.heap.size ≤ g740) := (by show _ ≤ _; rw [← hg741]; exact Below.size Kk694.out)
                clear hg741
                (try clear hHeld)
                refine hK.out _ _ ?_ (fun hHeld => ?_)
                · (try dsimp only)
                  exact seesN_kept _ (kept_trans Kk694.out Kk739.out)
                clear hK K
                (try simp only [Act.put, List.setIfInBounds_toArray, List.set_cons_zero, List.set_cons_succ])
                have pg747 : ∀ (l : List Tm) (s : Value), LiesQ W291 (Par w V0.heap.size (g296 :: []) P) l s → LiesQ W735 (Par w V0.heap.size (g296 :: (g740 :: [])) P) l s := fun _ _ h => par_grow h Kk739.out (List.forall_mem_cons.2 ⟨(Or.inl (List.mem_cons_self ..)), (List.forall_mem_cons.2 ⟨(Or.inr HP745.out), (fun _ h => nomatch h)⟩)⟩)
                exact HJj41 W735 a63 c64 a66 c67 a69 c70 a72 c73 a75 c76 U82 a93 c94 a96 c97 a99 c100 a102 c103 a105 c106 g740 g296 ⟨(kept_trans Kk694.out Kk739.out), HU82.out, (pg747 _ _ HL695.out), (pg747 _ _ HL696.out), (pg747 _ _ HL697.out), (pg747 _ _ HL698.out), (pg747 _ _ HL699.out), Hx736.out, (blk_at HX700.out Kk739.out), HG742.out, (Nat.le_trans (Below.size Kk694.out) HP745.out), HD746.out, HG701.out, (Nat.le_trans (Below.size (kept_refl _)) HP702.out), HD703.out, (by have := AP743.out; omega), (xlt_x XL744.out (List.forall_mem_cons.2 ⟨(List.mem_cons_of_mem _ (List.mem_cons_self ..)), (List.forall_mem_cons.2 ⟨(List.mem_cons_self ..), (fun _ h => nomatch h)⟩)⟩))⟩
              exact AllReadyH.nil
            · intro W279 a63 c64 a66 c67 a69 c70 a72 c73 a75 c76 U82 a93 c94 a96 c97 a99 c100 a102 c103 a105 c106 g284 k748
              obtain ⟨q749, q750, q751, q752, q753, q754, q755, q756, q757, q758, q759, q760⟩ := k748
              have Kk761 := Lib.hid q749
              have HU82 := Lib.hid q750
              have HL762 := Lib.hid q751
              have HL763 := Lib.hid q752
              have HL764 := Lib.hid q753
              have HL765 := Lib.hid q754
              have HL766 := Lib.hid q755
              have HX767 := Lib.hid q756
              have HG768 := Lib.hid q757
              have HP769 := Lib.hid q758
              have HD770 := Lib.hid q759
              have XL771 := Lib.hid q760
              clear q749 q750 q751 q752 q753 q754 q755 q756 q757 q758 q759 q760
              have fi772 : (U82.i == g.i) = true := by rw [← HU82.out]; exact beq_iff_eq.2 rfl
              have fi773 : (U82.i != g.i) = false := by rw [← HU82.out]; exact bne_eq_false_iff_eq.2 rfl
              have hHeld : SeesN W31 V0.heap.size W279 := seesN_kept _ Kk761.out
              refine wpAnyH_ready (rs := [4, 9]) (by kernel_rfl) (by simp) ?_
              refine AllReadyH.cons (o := hetEndsr3_4) rfl (fun K hK => ?_) ?_
              · unfold hetEndsr3_4
                go_simp
                refine (lours_any g (Par w V0.heap.size (g284 :: []) P) _ (.slice aga g.a.kids.length cga) (.slice agb g.b.kids.length cgb) (.slice agx g.x.kids.length cgx) (.slice agy g.y.kids.length cgy) (.slice agh g.h.kids.length cgh) ⟨Gg.out.1, Gg.out.2.1, Gg.out.2.2.1, Gg.out.2.2.2.1, Gg.out.2.2.2.2.1, Gg.out.2.2.2.2.2⟩ ⟨(par_grow HLga.out (kept_trans Kk12.out (kept_trans Kk17.out (kept_trans Kk22.out (kept_trans Kk28.out (kept_trans Kk34.out Kk761.out))))) (List.forall_mem_cons.2 ⟨(Or.inr (Nat.le_trans (Below.size (kept_trans Kk12.out (kept_trans Kk17.out (kept_trans Kk22.out (kept_trans Kk28.out Kk34.out))))) HP769.out)), (fun _ h => nomatch h)⟩)), (par_grow HLgb.out (kept_trans Kk12.out (kept_trans Kk17.out (kept_trans Kk22.out (kept_trans Kk28.out (kept_trans Kk34.out Kk761.out))))) (List.forall_mem_cons.2 ⟨(Or.inr (Nat.le_trans (Below.size (kept_trans Kk12.out (kept_trans Kk17.out (kept_trans Kk22.out (kept_trans Kk28.out Kk34.out))))) HP769.out)), (fun _ h => nomatch h)⟩)), (par_grow HLgx.out (kept_trans Kk12.out (kept_trans Kk17.out (kept_trans Kk22.out (kept_trans Kk28.out (kept_trans Kk34.out Kk761.out))))) (List.forall_mem_cons.2 ⟨(Or.inr (Nat.le_trans (Below.size (kept_trans Kk12.out (kept_trans Kk17.out (kept_trans Kk22.out (kept_trans Kk28.out Kk34.out))))) HP769.out)), (fun _ h => nomatch h)⟩)), (par_grow HLgy.out (kept_trans Kk12.out (kept_trans Kk17.out (kept_trans Kk22.out (kept_trans Kk28.out (kept_trans Kk34.out Kk761.out))))) (List.forall_mem_cons.2 ⟨(Or.inr (Nat.le_trans (Below.size (kept_trans Kk12.out (kept_trans Kk17.out (kept_trans Kk22.out (kept_trans Kk28.out Kk34.out))))) HP769.out)), (fun _ h => nomatch h)⟩)), (par_grow HLgh.out (kept_trans Kk12.out (kept_trans Kk17.out (kept_trans Kk22.out (kept_trans Kk28.out (kept_trans Kk34.out Kk761.out))))) (List.forall_mem_cons.2 ⟨(Or.inr (Nat.le_trans (Below.size (kept_trans Kk12.out (kept_trans Kk17.out (kept_trans Kk22.out (kept_trans Kk28.out Kk34.out))))) HP769.out)), (fun _ h => nomatch h)⟩))⟩).mono ?_
                rintro e w774 ⟨s776, s777, s778, s779, s780, rfl, ⟨hl781, hl782, hl783, hl784, hl785⟩, k775⟩
                obtain ⟨a786, c787, S788, rfl, -⟩ := hl781.out
                obtain ⟨a789, c790, S791, rfl, -⟩ := hl782.out
                obtain ⟨a792, c793, S794, rfl, -⟩ := hl783.out
                obtain ⟨a795, c796, S797, rfl, -⟩ := hl784.out
                obtain ⟨a798, c799, S800, rfl, -⟩ := hl785.out
                have Kk801 := Lib.hid k775
                clear k775
                have Hhl781 : Hid (LiesQ w774 (Par w V0.heap.size (g284 :: []) P) g.a.kids _) := par_give hl781 (Below.size (kept_trans Kk12.out (kept_trans Kk17.out (kept_trans Kk22.out (kept_trans Kk28.out (kept_trans Kk34.out Kk761.out)))))) XL771.out
                have Hhl782 : Hid (LiesQ w774 (Par w V0.heap.size (g284 :: []) P) g.b.kids _) := par_give hl782 (Below.size (kept_trans Kk12.out (kept_trans Kk17.out (kept_trans Kk22.out (kept_trans Kk28.out (kept_trans Kk34.out Kk761.out)))))) XL771.out
                have Hhl783 : Hid (LiesQ w774 (Par w V0.heap.size (g284 :: []) P) g.x.kids _) := par_give hl783 (Below.size (kept_trans Kk12.out (kept_trans Kk17.out (kept_trans Kk22.out (kept_trans Kk28.out (kept_trans Kk34.out Kk761.out)))))) XL771.out
                have Hhl784 : Hid (LiesQ w774 (Par w V0.heap.size (g284 :: []) P) g.y.kids _) := par_give hl784 (Below.size (kept_trans Kk12.out (kept_trans Kk17.out (kept_trans Kk22.out (kept_trans Kk28.out (kept_trans Kk34.out Kk761.out)))))) XL771.out
                have Hhl785 : Hid (LiesQ w774 (Par w V0.heap.size (g284 :: []) P) g.h.kids _) := par_give hl785 (Below.size (kept_trans Kk12.out (kept_trans Kk17.out (kept_trans Kk22.out (kept_trans Kk28.out (kept_trans Kk34.out Kk761.out)))))) XL771.out
                clear hl781 hl782 hl783 hl784 hl785
                (try clear hHeld)
                refine hK.out _ _ ?_ (fun hHeld => ?_)
                · (try dsimp only)
                  exact seesN_kept _ (kept_trans Kk761.out Kk801.out)
                clear hK K
                (try simp only [Act.put, List.setIfInBounds_toArray, List.set_cons_zero, List.set_cons_succ])
                exact HJj43 w774 a63 c64 a66 c67 a69 c70 a72 c73 a75 c76 U82 a93 c94 a96 c97 a99 c100 a102 c103 a105 c106 a786 c787 a789 c790 a792 c793 a795 c796 a798 c799 g284 ⟨(kept_trans Kk761.out Kk801.out), HU82.out, (HL762.out.later Kk801.out), (HL763.out.later Kk801.out), (HL764.out.later Kk801.out), (HL765.out.later Kk801.out), (HL766.out.later Kk801.out), Hhl781.out, Hhl782.out, Hhl783.out, Hhl784.out, Hhl785.out, (blk_at HX767.out Kk801.out), HG768.out, (Nat.le_trans (Below.size (kept_refl _)) HP769.out), HD770.out, (xlt_later XL771.out Kk801.out)⟩
              refine AllReadyH.cons (o := hetEndsr3_9) rfl (fun K hK => ?_) ?_
              · unfold hetEndsr3_9
                go_simp
                refine at_K (fun W802 hW802 => ?_)
                obtain ⟨k804, x803, z805⟩ := alloc1 hW802
                have Kk806 := Lib.hid k804
                clear k804
                obtain ⟨g807, hg808⟩ : ∃ q, W279.heap.size = q := ⟨_, rfl⟩
                rw [hg808] at x803 ⊢
                have Hx803 := Lib.hid x803
                have Hz805 := Lib.hid z805
                clear x803 z805 hW802
                have HG809 : Hid (V0.heap.size ≤ g807) := (by show _ ≤ _; rw [← hg808]; exact (Below.size (kept_trans Kk12.out (kept_trans Kk17.out (kept_trans Kk22.out (kept_trans Kk28.out (kept_trans Kk34.out Kk761.out)))))))
                have AP810 : Hid (g284 < g807) := (by show _ < _; rw [← hg808]; exact block_lt HX767.out)
                have XL811 : Hid (XLt (g807 :: (g284 :: [])) W802) := (by show XLt _ _; rw [← hg808]; exact xlt_more XL771.out Kk806.out (by have := Hz805.out; omega))
                have HP812 : Hid (W279.heap.size ≤ g807) := (by show _ ≤ _; rw [← hg808]; exact Nat.le_refl _)
                have HD813 : Hid (W31.heap.size ≤ g807) := (by show _ ≤ _; rw [← hg808]; exact Below.size Kk761.out)
                clear hg808
                (try clear hHeld)
                refine hK.out _ _ ?_ (fun hHeld => ?_)
                · (try dsimp only)
                  exact seesN_kept _ (kept_trans Kk761.out Kk806.out)
                clear hK K
                (try simp only [Act.put, List.setIfInBounds_toArray, List.set_cons_zero, List.set_cons_succ])
                have pg814 : ∀ (l : List Tm) (s : Value), LiesQ W279 (Par w V0.heap.size (g284 :: []) P) l s → LiesQ W802 (Par w V0.heap.size (g807 :: (g284 :: [])) P) l s := fun _ _ h => par_grow h Kk806.out (List.forall_mem_cons.2 ⟨(Or.inr HP812.out), (List.forall_mem_cons.2 ⟨(Or.inl (List.mem_cons_self ..)), (fun _ h => nomatch h)⟩)⟩)
                exact HJj41 W802 a63 c64 a66 c67 a69 c70 a72 c73 a75 c76 U82 a93 c94 a96 c97 a99 c100 a102 c103 a105 c106 g284 g807 ⟨(kept_trans Kk761.out Kk806.out), HU82.out, (pg814 _ _ HL762.out), (pg814 _ _ HL763.out), (pg814 _ _ HL764.out), (pg814 _ _ HL765.out), (pg814 _ _ HL766.out), (blk_at HX767.out Kk806.out), Hx803.out, HG768.out, (Nat.le_trans (Below.size (kept_refl _)) HP769.out), HD770.out, HG809.out, (Nat.le_trans (Below.size Kk761.out) HP812.out), HD813.out, (by have := AP810.out; omega), XL811.out⟩
              exact AllReadyH.nil
            · intro w649 a63 c64 a66 c67 a69 c70 a72 c73 a75 c76 U652 a663 c664 a666 c667 a669 c670 a672 c673 a675 c676 g489 g320 k815
              obtain ⟨q816, q817, q818, q819, q820, q821, q822, q823, q824, q825, q826, q827, q828, q829, q830, q831, q832⟩ := k815
              have Kk833 := Lib.hid q816
              have HU652 := Lib.hid q817
              have HL834 := Lib.hid q818
              have HL835 := Lib.hid q819
              have HL836 := Lib.hid q820
              have HL837 := Lib.hid q821
              have HL838 := Lib.hid q822
              have HX839 := Lib.hid q823
              have HX840 := Lib.hid q824
              have HG841 := Lib.hid q825
              have HP842 := Lib.hid q826
              have HD843 := Lib.hid q827
              have HG844 := Lib.hid q828
              have HP845 := Lib.hid q829
              have HD846 := Lib.hid q830
              have AP847 := Lib.hid q831
              have XL848 := Lib.hid q832
              clear q816 q817 q818 q819 q820 q821 q822 q823 q824 q825 q826 q827 q828 q829 q830 q831 q832
              have fi849 : (U652.i == g.i) = true := by rw [← HU652.out]; exact beq_iff_eq.2 rfl
              have fi850 : (U652.i != g.i) = false := by rw [← HU652.out]; exact bne_eq_false_iff_eq.2 rfl
              have hHeld : SeesN W31 V0.heap.size w649 := seesN_kept _ Kk833.out
              refine wpAnyH_ready (rs := [4]) (by kernel_rfl) (by simp) ?_
              refine AllReadyH.cons (o := hetEndsr3_4) rfl (fun K hK => ?_) ?_
              · unfold hetEndsr3_4
                go_simp
                refine (lours_any g (Par w V0.heap.size (g320 :: (g489 :: [])) P) _ (.slice aga g.a.kids.length cga) (.slice agb g.b.kids.length cgb) (.slice agx g.x.kids.length cgx) (.slice agy g.y.kids.length cgy) (.slice agh g.h.kids.length cgh) ⟨Gg.out.1, Gg.out.2.1, Gg.out.2.2.1, Gg.out.2.2.2.1, Gg.out.2.2.2.2.1, Gg.out.2.2.2.2.2⟩ ⟨(par_grow HLga.out (kept_trans Kk12.out (kept_trans Kk17.out (kept_trans Kk22.out (kept_trans Kk28.out (kept_trans Kk34.out Kk833.out))))) (List.forall_mem_cons.2 ⟨(Or.inr (Nat.le_trans (Below.size (kept_trans Kk12.out (kept_trans Kk17.out (kept_trans Kk22.out (kept_trans Kk28.out Kk34.out))))) HP845.out)), (List.forall_mem_cons.2 ⟨(Or.inr (Nat.le_trans (Below.size (kept_trans Kk12.out (kept_trans Kk17.out (kept_trans Kk22.out (kept_trans Kk28.out Kk34.out))))) HP842.out)), (fun _ h => nomatch h)⟩)⟩)), (par_grow HLgb.out (kept_trans Kk12.out (kept_trans Kk17.out (kept_trans Kk22.out (kept_trans Kk28.out (kept_trans Kk34.out Kk833.out))))) (List.forall_mem_cons.2 ⟨(Or.inr (Nat.le_trans (Below.size (kept_trans Kk12.out (kept_trans Kk17.out (kept_trans Kk22.out (kept_trans Kk28.out Kk34.out))))) HP845.out)), (List.forall_mem_cons.2 ⟨(Or.inr (Nat.le_trans (Below.size (kept_trans Kk12.out (kept_trans Kk17.out (kept_trans Kk22.out (kept_trans Kk28.out Kk34.out))))) HP842.out)), (fun _ h => nomatch h)⟩)⟩)), (par_grow HLgx.out (kept_trans Kk12.out (kept_trans Kk17.out (kept_trans Kk22.out (kept_trans Kk28.out (kept_trans Kk34.out Kk833.out))))) (List.forall_mem_cons.2 ⟨(Or.inr (Nat.le_trans (Below.size (kept_trans Kk12.out (kept_trans Kk17.out (kept_trans Kk22.out (kept_trans Kk28.out Kk34.out))))) HP845.out)), (List.forall_mem_cons.2 ⟨(Or.inr (Nat.le_trans (Below.size (kept_trans Kk12.out (kept_trans Kk17.out (kept_trans Kk22.out (kept_trans Kk28.out Kk34.out))))) HP842.out)), (fun _ h => nomatch h)⟩)⟩)), (par_grow HLgy.out (kept_trans Kk12.out (kept_trans Kk17.out (kept_trans Kk22.out (kept_trans Kk28.out (kept_trans Kk34.out Kk833.out))))) (List.forall_mem_cons.2 ⟨(Or.inr (Nat.le_trans (Below.size (kept_trans Kk12.out (kept_trans Kk17.out (kept_trans Kk22.out (kept_trans Kk28.out Kk34.out))))) HP845.out)), (List.forall_mem_cons.2 ⟨(Or.inr (Nat.le_trans (Below.size (kept_trans Kk12.out (kept_trans Kk17.out (kept_trans Kk22.out (kept_trans Kk28.out Kk34.out))))) HP842.out)), (fun _ h => nomatch h)⟩)⟩)), (par_grow HLgh.out (kept_trans Kk12.out (kept_trans Kk17.out (kept_trans Kk22.out (kept_trans Kk28.out (kept_trans Kk34.out Kk833.out))))) (List.forall_mem_cons.2 ⟨(Or.inr (Nat.le_trans (Below.size (kept_trans Kk12.out (kept_trans Kk17.out (kept_trans Kk22.out (kept_trans Kk28.out Kk34.out))))) HP845.out)), (List.forall_mem_cons.2 ⟨(Or.inr (Nat.le_trans (Below.size (kept_trans Kk12.out (kept_trans Kk17.out (kept_trans Kk22.out (kept_trans Kk28.out Kk34.out))))) HP842.out)), (fun _ h => nomatch h)⟩)⟩))⟩).mono ?_
                rintro e w851 ⟨s853, s854, s855, s856, s857, rfl, ⟨hl858, hl859, hl860, hl861, hl862⟩, k852⟩
                obtain ⟨a863, c864, S865, rfl, -⟩ := hl858.out
                obtain ⟨a866, c867, S868, rfl, -⟩ := hl859.out
                obtain ⟨a869, c870, S871, rfl, -⟩ := hl860.out
                obtain ⟨a872, c873, S874, rfl, -⟩ := hl861.out
                obtain ⟨a875, c876, S877, rfl, -⟩ := hl862.out
                have Kk878 := Lib.hid k852
                clear k852
                have Hhl858 : Hid (LiesQ w851 (Par w V0.heap.size (g320 :: (g489 :: [])) P) g.a.kids _) := par_give hl858 (Below.size (kept_trans Kk12.out (kept_trans Kk17.out (kept_trans Kk22.out (kept_trans Kk28.out (kept_trans Kk34.out Kk833.out)))))) XL848.out
                have Hhl859 : Hid (LiesQ w851 (Par w V0.heap.size (g320 :: (g489 :: [])) P) g.b.kids _) := par_give hl859 (Below.size (kept_trans Kk12.out (kept_trans Kk17.out (kept_trans Kk22.out (kept_trans Kk28.out (kept_trans Kk34.out Kk833.out)))))) XL848.out
                have Hhl860 : Hid (LiesQ w851 (Par w V0.heap.size (g320 :: (g489 :: [])) P) g.x.kids _) := par_give hl860 (Below.size (kept_trans Kk12.out (kept_trans Kk17.out (kept_trans Kk22.out (kept_trans Kk28.out (kept_trans Kk34.out Kk833.out)))))) XL848.out
                have Hhl861 : Hid (LiesQ w851 (Par w V0.heap.size (g320 :: (g489 :: [])) P) g.y.kids _) := par_give hl861 (Below.size (kept_trans Kk12.out (kept_trans Kk17.out (kept_trans Kk22.out (kept_trans Kk28.out (kept_trans Kk34.out Kk833.out)))))) XL848.out
                have Hhl862 : Hid (LiesQ w851 (Par w V0.heap.size (g320 :: (g489 :: [])) P) g.h.kids _) := par_give hl862 (Below.size (kept_trans Kk12.out (kept_trans Kk17.out (kept_trans Kk22.out (kept_trans Kk28.out (kept_trans Kk34.out Kk833.out)))))) XL848.out
                clear hl858 hl859 hl860 hl861 hl862
                (try clear hHeld)
                refine hK.out _ _ ?_ (fun hHeld => ?_)
                · (try dsimp only)
                  exact seesN_kept _ (kept_trans Kk833.out Kk878.out)
                clear hK K
                (try simp only [Act.put, List.setIfInBounds_toArray, List.set_cons_zero, List.set_cons_succ])
                exact HJj44 w851 a63 c64 a66 c67 a69 c70 a72 c73 a75 c76 U652 a663 c664 a666 c667 a669 c670 a672 c673 a675 c676 a863 c864 a866 c867 a869 c870 a872 c873 a875 c876 g489 g320 ⟨(kept_trans Kk833.out Kk878.out), HU652.out, (HL834.out.later Kk878.out), (HL835.out.later Kk878.out), (HL836.out.later Kk878.out), (HL837.out.later Kk878.out), (HL838.out.later Kk878.out), Hhl858.out, Hhl859.out, Hhl860.out, Hhl861.out, Hhl862.out, (blk_at HX839.out Kk878.out), (blk_at HX840.out Kk878.out), HG841.out, (Nat.le_trans (Below.size (kept_refl _)) HP842.out), HD843.out, HG844.out, (Nat.le_trans (Below.size (kept_refl _)) HP845.out), HD846.out, (by have := AP847.out; omega), (xlt_later XL848.out Kk878.out)⟩
              exact AllReadyH.nil
            · intro W266 a63 c64 a66 c67 a69 c70 a72 c73 a75 c76 U82 a93 c94 a96 c97 a99 c100 a102 c103 a105 c106 a123 c124 a126 c127 a129 c130 a132 c133 a135 c136 g271 k879
              obtain ⟨q880, q881, q882, q883, q884, q885, q886, q887, q888, q889, q890, q891, q892, q893, q894, q895, q896⟩ := k879
              have Kk897 := Lib.hid q880
              have HU82 := Lib.hid q881
              have HL898 := Lib.hid q882
              have HL899 := Lib.hid q883
              have HL900 := Lib.hid q884
              have HL901 := Lib.hid q885
              have HL902 := Lib.hid q886
              have HL903 := Lib.hid q887
              have HL904 := Lib.hid q888
              have HL905 := Lib.hid q889
              have HL906 := Lib.hid q890
              have HL907 := Lib.hid q891
              have HX908 := Lib.hid q892
              have HG909 := Lib.hid q893
              have HP910 := Lib.hid q894
              have HD911 := Lib.hid q895
              have XL912 := Lib.hid q896
              clear q880 q881 q882 q883 q884 q885 q886 q887 q888 q889 q890 q891 q892 q893 q894 q895 q896
              have fi913 : (U82.i == g.i) = true := by rw [← HU82.out]; exact beq_iff_eq.2 rfl
              have fi914 : (U82.i != g.i) = false := by rw [← HU82.out]; exact bne_eq_false_iff_eq.2 rfl
              have hHeld : SeesN W31 V0.heap.size W266 := seesN_kept _ Kk897.out
              refine wpAnyH_ready (rs := [6, 8]) (by kernel_rfl) (by simp) ?_
              refine AllReadyH.cons (o := hetEndsr3_6) rfl (fun K hK => ?_) ?_
              · unfold hetEndsr3_6
                go_simp
                refine (lours_any h (Par w V0.heap.size (g271 :: []) P) _ (.slice aha h.a.kids.length cha) (.slice ahb h.b.kids.length chb) (.slice ahx h.x.kids.length chx) (.slice ahy h.y.kids.length chy) (.slice ahh h.h.kids.length chh) ⟨Gh.out.1, Gh.out.2.1, Gh.out.2.2.1, Gh.out.2.2.2.1, Gh.out.2.2.2.2.1, Gh.out.2.2.2.2.2⟩ ⟨(par_grow HLha.out (kept_trans Kk12.out (kept_trans Kk17.out (kept_trans Kk22.out (kept_trans Kk28.out (kept_trans Kk34.out Kk897.out))))) (List.forall_mem_cons.2 ⟨(Or.inr (Nat.le_trans (Below.size (kept_trans Kk12.out (kept_trans Kk17.out (kept_trans Kk22.out (kept_trans Kk28.out Kk34.out))))) HP910.out)), (fun _ h => nomatch h)⟩)), (par_grow HLhb.out (kept_trans Kk12.out (kept_trans Kk17.out (kept_trans Kk22.out (kept_trans Kk28.out (kept_trans Kk34.out Kk897.out))))) (List.forall_mem_cons.2 ⟨(Or.inr (Nat.le_trans (Below.size (kept_trans Kk12.out (kept_trans Kk17.out (kept_trans Kk22.out (kept_trans Kk28.out Kk34.out))))) HP910.out)), (fun _ h => nomatch h)⟩)), (par_grow HLhx.out (kept_trans Kk12.out (kept_trans Kk17.out (kept_trans Kk22.out (kept_trans Kk28.out (kept_trans Kk34.out Kk897.out))))) (List.forall_mem_cons.2 ⟨(Or.inr (Nat.le_trans (Below.size (kept_trans Kk12.out (kept_trans Kk17.out (kept_trans Kk22.out (kept_trans Kk28.out Kk34.out))))) HP910.out)), (fun _ h => nomatch h)⟩)), (par_grow HLhy.out (kept_trans Kk12.out (kept_trans Kk17.out (kept_trans Kk22.out (kept_trans Kk28.out (kept_trans Kk34.out Kk897.out))))) (List.forall_mem_cons.2 ⟨(Or.inr (Nat.le_trans (Below.size (kept_trans Kk12.out (kept_trans Kk17.out (kept_trans Kk22.out (kept_trans Kk28.out Kk34.out))))) HP910.out)), (fun _ h => nomatch h)⟩)), (par_grow HLhh.out (kept_trans Kk12.out (kept_trans Kk17.out (kept_trans Kk22.out (kept_trans Kk28.out (kept_trans Kk34.out Kk897.out))))) (List.forall_mem_cons.2 ⟨(Or.inr (Nat.le_trans (Below.size (kept_trans Kk12.out (kept_trans Kk17.out (kept_trans Kk22.out (kept_trans Kk28.out Kk34.out))))) HP910.out)), (fun _ h => nomatch h)⟩))⟩).mono ?_
                rintro e w915 ⟨s917, s918, s919, s920, s921, rfl, ⟨hl922, hl923, hl924, hl925, hl926⟩, k916⟩
                obtain ⟨a927, c928, S929, rfl, -⟩ := hl922.out
                obtain ⟨a930, c931, S932, rfl, -⟩ := hl923.out
                obtain ⟨a933, c934, S935, rfl, -⟩ := hl924.out
                obtain ⟨a936, c937, S938, rfl, -⟩ := hl925.out
                obtain ⟨a939, c940, S941, rfl, -⟩ := hl926.out
                have Kk942 := Lib.hid k916
                clear k916
                have Hhl922 : Hid (LiesQ w915 (Par w V0.heap.size (g271 :: []) P) h.a.kids _) := par_give hl922 (Below.size (kept_trans Kk12.out (kept_trans Kk17.out (kept_trans Kk22.out (kept_trans Kk28.out (kept_trans Kk34.out Kk897.out)))))) XL912.out
                have Hhl923 : Hid (LiesQ w915 (Par w V0.heap.size (g271 :: []) P) h.b.kids _) := par_give hl923 (Below.size (kept_trans Kk12.out (kept_trans Kk17.out (kept_trans Kk22.out (kept_trans Kk28.out (kept_trans Kk34.out Kk897.out)))))) XL912.out
                have Hhl924 : Hid (LiesQ w915 (Par w V0.heap.size (g271 :: []) P) h.x.kids _) := par_give hl924 (Below.size (kept_trans Kk12.out (kept_trans Kk17.out (kept_trans Kk22.out (kept_trans Kk28.out (kept_trans Kk34.out Kk897.out)))))) XL912.out
                have Hhl925 : Hid (LiesQ w915 (Par w V0.heap.size (g271 :: []) P) h.y.kids _) := par_give hl925 (Below.size (kept_trans Kk12.out (kept_trans Kk17.out (kept_trans Kk22.out (kept_trans Kk28.out (kept_trans Kk34.out Kk897.out)))))) XL912.out
                have Hhl926 : Hid (LiesQ w915 (Par w V0.heap.size (g271 :: []) P) h.h.kids _) := par_give hl926 (Below.size (kept_trans Kk12.out (kept_trans Kk17.out (kept_trans Kk22.out (kept_trans Kk28.out (kept_trans Kk34.out Kk897.out)))))) XL912.out
                clear hl922 hl923 hl924 hl925 hl926
                (try clear hHeld)
                refine hK.out _ _ ?_ (fun hHeld => ?_)
                · (try dsimp only)
                  exact seesN_kept _ (kept_trans Kk897.out Kk942.out)
                clear hK K
                (try simp only [Act.put, List.setIfInBounds_toArray, List.set_cons_zero, List.set_cons_succ])
                exact HJj45 w915 a63 c64 a66 c67 a69 c70 a72 c73 a75 c76 U82 a93 c94 a96 c97 a99 c100 a102 c103 a105 c106 a123 c124 a126 c127 a129 c130 a132 c133 a135 c136 a927 c928 a930 c931 a933 c934 a936 c937 a939 c940 g271 ⟨(kept_trans Kk897.out Kk942.out), HU82.out, (HL898.out.later Kk942.out), (HL899.out.later Kk942.out), (HL900.out.later Kk942.out), (HL901.out.later Kk942.out), (HL902.out.later Kk942.out), (HL903.out.later Kk942.out), (HL904.out.later Kk942.out), (HL905.out.later Kk942.out), (HL906.out.later Kk942.out), (HL907.out.later Kk942.out), Hhl922.out, Hhl923.out, Hhl924.out, Hhl925.out, Hhl926.out, (blk_at HX908.out Kk942.out), HG909.out, (Nat.le_trans (Below.size (kept_refl _)) HP910.out), HD911.out, (xlt_later XL912.out Kk942.out)⟩
              refine AllReadyH.cons (o := hetEndsr3_8) rfl (fun K hK => ?_) ?_
              · unfold hetEndsr3_8
                go_simp
                refine at_K (fun W943 hW943 => ?_)
                obtain ⟨k945, x944, z946⟩ := alloc1 hW943
                have Kk947 := Lib.hid k945
                clear k945
                obtain ⟨g948, hg949⟩ : ∃ q, W266.heap.size = q := ⟨_, rfl⟩
                rw [hg949] at x944 ⊢
                have Hx944 := Lib.hid x944
                have Hz946 := Lib.hid z946
                clear x944 z946 hW943
                have HG950 : Hid (V0.heap.size ≤ g948) := (by show _ ≤ _; rw [← hg949]; exact (Below.size (kept_trans Kk12.out (kept_trans Kk17.out (kept_trans Kk22.out (kept_trans Kk28.out (kept_trans Kk34.out Kk897.out)))))))
                have AP951 : Hid (g271 < g948) := (by show _ < _; rw [← hg949]; exact block_lt HX908.out)
                have XL952 : Hid (XLt (g948 :: (g271 :: [])) W943) := (by show XLt _ _; rw [← hg949]; exact xlt_more XL912.out Kk947.out (by have := Hz946.out; omega))
                have HP953 : Hid (W266.heap.size ≤ g948) := (by show _ ≤ _; rw [← hg949]; exact Nat.le_refl _)
                have HD954 : Hid (W31.heap.size ≤ g948) := (by show _ ≤ _; rw [← hg949]; exact Below.size Kk897.out)
                clear hg949
                (try clear hHeld)
                refine hK.out _ _ ?_ (fun hHeld => ?_)
                · (try dsimp only)
                  exact seesN_kept _ (kept_trans Kk897.out Kk947.out)
                clear hK K
                (try simp only [Act.put, List.setIfInBounds_toArray, List.set_cons_zero, List.set_cons_succ])
                have pg955 : ∀ (l : List Tm) (s : Value), LiesQ W266 (Par w V0.heap.size (g271 :: []) P) l s → LiesQ W943 (Par w V0.heap.size (g271 :: (g948 :: [])) P) l s := fun _ _ h => par_grow h Kk947.out (List.forall_mem_cons.2 ⟨(Or.inl (List.mem_cons_self ..)), (List.forall_mem_cons.2 ⟨(Or.inr HP953.out), (fun _ h => nomatch h)⟩)⟩)
                exact HJj44 W943 a63 c64 a66 c67 a69 c70 a72 c73 a75 c76 U82 a93 c94 a96 c97 a99 c100 a102 c103 a105 c106 a123 c124 a126 c127 a129 c130 a132 c133 a135 c136 g948 g271 ⟨(kept_trans Kk897.out Kk947.out), HU82.out, (pg955 _ _ HL898.out), (pg955 _ _ HL899.out), (pg955 _ _ HL900.out), (pg955 _ _ HL901.out), (pg955 _ _ HL902.out), (pg955 _ _ HL903.out), (pg955 _ _ HL904.out), (pg955 _ _ HL905.out), (pg955 _ _ HL906.out), (pg955 _ _ HL907.out), Hx944.out, (blk_at HX908.out Kk947.out), HG950.out, (Nat.le_trans (Below.size Kk897.out) HP953.out), HD954.out, HG909.out, (Nat.le_trans (Below.size (kept_refl _)) HP910.out), HD911.out, (by have := AP951.out; omega), (xlt_x XL952.out (List.forall_mem_cons.2 ⟨(List.mem_cons_of_mem _ (List.mem_cons_self ..)), (List.forall_mem_cons.2 ⟨(List.mem_cons_self ..), (fun _ h => nomatch h)⟩)⟩))⟩
              exact AllReadyH.nil
            · intro W253 a63 c64 a66 c67 a69 c70 a72 c73 a75 c76 U82 a93 c94 a96 c97 a99 c100 a102 c103 a105 c106 a123 c124 a126 c127 a129 c130 a132 c133 a135 c136 g258 k956
              obtain ⟨q957, q958, q959, q960, q961, q962, q963, q964, q965, q966, q967, q968, q969, q970, q971, q972, q973⟩ := k956
              have Kk974 := Lib.hid q957
              have HU82 := Lib.hid q958
              have HL975 := Lib.hid q959
              have HL976 := Lib.hid q960
              have HL977 := Lib.hid q961
              have HL978 := Lib.hid q962
              have HL979 := Lib.hid q963
              have HL980 := Lib.hid q964
              have HL981 := Lib.hid q965
              have HL982 := Lib.hid q966
              have HL983 := Lib.hid q967
              have HL984 := Lib.hid q968
              have HX985 := Lib.hid q969
              have HG986 := Lib.hid q970
              have HP987 := Lib.hid q971
              have HD988 := Lib.hid q972
              have XL989 := Lib.hid q973
              clear q957 q958 q959 q960 q961 q962 q963 q964 q965 q966 q967 q968 q969 q970 q971 q972 q973
              have fi990 : (U82.i == g.i) = true := by rw [← HU82.out]; exact beq_iff_eq.2 rfl
              have fi991 : (U82.i != g.i) = false := by rw [← HU82.out]; exact bne_eq_false_iff_eq.2 rfl
              have hHeld : SeesN W31 V0.heap.size W253 := seesN_kept _ Kk974.out
              refine wpAnyH_ready (rs := [6, 9]) (by kernel_rfl) (by simp) ?_
              refine AllReadyH.cons (o := hetEndsr3_6) rfl (fun K hK => ?_) ?_
              · unfold hetEndsr3_6
                go_simp
                refine (lours_any h (Par w V0.heap.size (g258 :: []) P) _ (.slice aha h.a.kids.length cha) (.slice ahb h.b.kids.length chb) (.slice ahx h.x.kids.length chx) (.slice ahy h.y.kids.length chy) (.slice ahh h.h.kids.length chh) ⟨Gh.out.1, Gh.out.2.1, Gh.out.2.2.1, Gh.out.2.2.2.1, Gh.out.2.2.2.2.1, Gh.out.2.2.2.2.2⟩ ⟨(par_grow HLha.out (kept_trans Kk12.out (kept_trans Kk17.out (kept_trans Kk22.out (kept_trans Kk28.out (kept_trans Kk34.out Kk974.out))))) (List.forall_mem_cons.2 ⟨(Or.inr (Nat.le_trans (Below.size (kept_trans Kk12.out (kept_trans Kk17.out (kept_trans Kk22.out (kept_trans Kk28.out Kk34.out))))) HP987.out)), (fun _ h => nomatch h)⟩)), (par_grow HLhb.out (kept_trans Kk12.out (kept_trans Kk17.out (kept_trans Kk22.out (kept_trans Kk28.out (kept_trans Kk34.out Kk974.out))))) (List.forall_mem_cons.2 ⟨(Or.inr (Nat.le_trans (Below.size (kept_trans Kk12.out (kept_trans Kk17.out (kept_trans Kk22.out (kept_trans Kk28.out Kk34.out))))) HP987.out)), (fun _ h => nomatch h)⟩)), (par_grow HLhx.out (kept_trans Kk12.out (kept_trans Kk17.out (kept_trans Kk22.out (kept_trans Kk28.out (kept_trans Kk34.out Kk974.out))))) (List.forall_mem_cons.2 ⟨(Or.inr (Nat.le_trans (Below.size (kept_trans Kk12.out (kept_trans Kk17.out (kept_trans Kk22.out (kept_trans Kk28.out Kk34.out))))) HP987.out)), (fun _ h => nomatch h)⟩)), (par_grow HLhy.out (kept_trans Kk12.out (kept_trans Kk17.out (kept_trans Kk22.out (kept_trans Kk28.out (kept_trans Kk34.out Kk974.out))))) (List.forall_mem_cons.2 ⟨(Or.inr (Nat.le_trans (Below.size (kept_trans Kk12.out (kept_trans Kk17.out (kept_trans Kk22.out (kept_trans Kk28.out Kk34.out))))) HP987.out)), (fun _ h => nomatch h)⟩)), (par_grow HLhh.out (kept_trans Kk12.out (kept_trans Kk17.out (kept_trans Kk22.out (kept_trans Kk28.out (kept_trans Kk34.out Kk974.out))))) (List.forall_mem_cons.2 ⟨(Or.inr (Nat.le_trans (Below.size (kept_trans Kk12.out (kept_trans Kk17.out (kept_trans Kk22.out (kept_trans Kk28.out Kk34.out))))) HP987.out)), (fun _ h => nomatch h)⟩))⟩).mono ?_
                rintro e w992 ⟨s994, s995, s996, s997, s998, rfl, ⟨hl999, hl1000, hl1001, hl1002, hl1003⟩, k993⟩
                obtain ⟨a1004, c1005, S1006, rfl, -⟩ := hl999.out
                obtain ⟨a1007, c1008, S1009, rfl, -⟩ := hl1000.out
                obtain ⟨a1010, c1011, S1012, rfl, -⟩ := hl1001.out
                obtain ⟨a1013, c1014, S1015, rfl, -⟩ := hl1002.out
                obtain ⟨a1016, c1017, S1018, rfl, -⟩ := hl1003.out
                have Kk1019 := Lib.hid k993
                clear k993
                have Hhl999 : Hid (LiesQ w992 (Par w V0.heap.size (g258 :: []) P) h.a.kids _) := par_give hl999 (Below.size (kept_trans Kk12.out (kept_trans Kk17.out (kept_trans Kk22.out (kept_trans Kk28.out (kept_trans Kk34.out Kk974.out)))))) XL989.out
                have Hhl1000 : Hid (LiesQ w992 (Par w V0.heap.size (g258 :: []) P) h.b.kids _) := par_give hl1000 (Below.size (kept_trans Kk12.out (kept_trans Kk17.out (kept_trans Kk22.out (kept_trans Kk28.out (kept_trans Kk34.out Kk974.out)))))) XL989.out
                have Hhl1001 : Hid (LiesQ w992 (Par w V0.heap.size (g258 :: []) P) h.x.kids _) := par_give hl1001 (Below.size (kept_trans Kk12.out (kept_trans Kk17.out (kept_trans Kk22.out (kept_trans Kk28.out (kept_trans Kk34.out Kk974.out)))))) XL989.out
                have Hhl1002 : Hid (LiesQ w992 (Par w V0.heap.size (g258 :: []) P) h.y.kids _) := par_give hl1002 (Below.size (kept_trans Kk12.out (kept_trans Kk17.out (kept_trans Kk22.out (kept_trans Kk28.out (kept_trans Kk34.out Kk974.out)))))) XL989.out
                have Hhl1003 : Hid (LiesQ w992 (Par w V0.heap.size (g258 :: []) P) h.h.kids _) := par_give hl1003 (Below.size (kept_trans Kk12.out (kept_trans Kk17.out (kept_trans Kk22.out (kept_trans Kk28.out (kept_trans Kk34.out Kk974.out)))))) XL989.out
                clear hl999 hl1000 hl1001 hl1002 hl1003
                (try clear hHeld)
                refine hK.out _ _ ?_ (fun hHeld => ?_)
                · (try dsimp only)
                  exact seesN_kept _ (kept_trans Kk974.out Kk1019.out)
                clear hK K
                (try simp only [Act.put, List.setIfInBounds_toArray, List.set_cons_zero, List.set_cons_succ])
                exact HJj46 w992 a63 c64 a66 c67 a69 c70 a72 c73 a75 c76 U82 a93 c94 a96 c97 a99 c100 a102 c103 a105 c106 a123 c124 a126 c127 a129 c130 a132 c133 a135 c136 a1004 c1005 a1007 c1008 a1010 c1011 a1013 c1014 a1016 c1017 g258 ⟨(kept_trans Kk974.out Kk1019.out), HU82.out, (HL975.out.later Kk1019.out), (HL976.out.later Kk1019.out), (HL977.out.later Kk1019.out), (HL978.out.later Kk1019.out), (HL979.out.later Kk1019.out), (HL980.out.later Kk1019.out), (HL981.out.later Kk1019.out), (HL982.out.later Kk1019.out), (HL983.out.later Kk1019.out), (HL984.out.later Kk1019.out), Hhl999.out, Hhl1000.out, Hhl1001.out, Hhl1002.out, Hhl1003.out, (blk_at HX985.out Kk1019.out), HG986.out, (Nat.le_trans (Below.size (kept_refl _)) HP987.out), HD988.out, (xlt_later XL989.out Kk1019.out)⟩
              refine AllReadyH.cons (o := hetEndsr3_9) rfl (fun K hK => ?_) ?_
              · unfold hetEndsr3_9
                go_simp
                refine at_K (fun W1020 hW1020 => ?_)
                obtain ⟨k1022, x1021, z1023⟩ := alloc1 hW1020
                have Kk1024 := Lib.hid k1022
                clear k1022
                obtain ⟨g1025, hg1026⟩ : ∃ q, W253.heap.size = q := ⟨_, rfl⟩
                rw [hg1026] at x1021 ⊢
                have Hx1021 := Lib.hid x1021
                have Hz1023 := Lib.hid z1023
                clear x1021 z1023 hW1020
                have HG1027 : Hid (V0.heap.size ≤ g1025) := (by show _ ≤ _; rw [← hg1026]; exact (Below.size (kept_trans Kk12.out (kept_trans Kk17.out (kept_trans Kk22.out (kept_trans Kk28.out (kept_trans Kk34.out Kk974.out)))))))
                have AP1028 : Hid (g258 < g1025) := (by show _ < _; rw [← hg1026]; exact block_lt HX985.out)
                have XL1029 : Hid (XLt (g1025 :: (g258 :: [])) W1020) := (by show XLt _ _; rw [← hg1026]; exact xlt_more XL989.out Kk1024.out (by have := Hz1023.out; omega))
                have HP1030 : Hid (W253.heap.size ≤ g1025) := (by show _ ≤ _; rw [← hg1026]; exact Nat.le_refl _)
                have HD1031 : Hid (W31.heap.size ≤ g1025) := (by show _ ≤ _; rw [← hg1026]; exact Below.size Kk974.out)
                clear hg1026
                (try clear hHeld)
                refine hK.out _ _ ?_ (fun hHeld => ?_)
                · (try dsimp only)
                  exact seesN_kept _ (kept_trans Kk974.out Kk1024.out)
                clear hK K
                (try simp only [Act.put, List.setIfInBounds_toArray, List.set_cons_zero, List.set_cons_succ])
                have pg1032 : ∀ (l : List Tm) (s : Value), LiesQ W253 (Par w V0.heap.size (g258 :: []) P) l s → LiesQ W1020 (Par w V0.heap.size (g1025 :: (g258 :: [])) P) l s := fun _ _ h => par_grow h Kk1024.out (List.forall_mem_cons.2 ⟨(Or.inr HP1030.out), (List.forall_mem_cons.2 ⟨(Or.inl (List.mem_cons_self ..)), (fun _ h => nomatch h)⟩)⟩)
                exact HJj44 W1020 a63 c64 a66 c67 a69 c70 a72 c73 a75 c76 U82 a93 c94 a96 c97 a99 c100 a102 c103 a105 c106 a123 c124 a126 c127 a129 c130 a132 c133 a135 c136 g258 g1025 ⟨(kept_trans Kk974.out Kk1024.out), HU82.out, (pg1032 _ _ HL975.out), (pg1032 _ _ HL976.out), (pg1032 _ _ HL977.out), (pg1032 _ _ HL978.out), (pg1032 _ _ HL979.out), (pg1032 _ _ HL980.out), (pg1032 _ _ HL981.out), (pg1032 _ _ HL982.out), (pg1032 _ _ HL983.out), (pg1032 _ _ HL984.out), (blk_at HX985.out Kk1024.out), Hx1021.out, HG986.out, (Nat.le_trans (Below.size (kept_refl _)) HP987.out), HD988.out, HG1027.out, (Nat.le_trans (Below.size Kk974.out) HP1030.out), HD1031.out, (by have := AP1028.out; omega), XL1029.out⟩
              exact AllReadyH.nil
            · intro w851 a63 c64 a66 c67 a69 c70 a72 c73 a75 c76 U652 a663 c664 a666 c667 a669 c670 a672 c673 a675 c676 a863 c864 a866 c867 a869 c870 a872 c873 a875 c876 g489 g320 k1033
              obtain ⟨q1034, q1035, q1036, q1037, q1038, q1039, q1040, q1041, q1042, q1043, q1044, q1045, q1046, q1047, q1048, q1049, q1050, q1051, q1052, q1053, q1054, q1055⟩ := k1033
              have Kk1056 := Lib.hid q1034
              have HU652 := Lib.hid q1035
              have HL1057 := Lib.hid q1036
              have HL1058 := Lib.hid q1037
              have HL1059 := Lib.hid q1038
              have HL1060 := Lib.hid q1039
              have HL1061 := Lib.hid q1040
              have HL1062 := Lib.hid q1041
              have HL1063 := Lib.hid q1042
              have HL1064 := Lib.hid q1043
              have HL1065 := Lib.hid q1044
              have HL1066 := Lib.hid q1045
              have HX1067 := Lib.hid q1046
              have HX1068 := Lib.hid q1047
              have HG1069 := Lib.hid q1048
              have HP1070 := Lib.hid q1049
              have HD1071 := Lib.hid q1050
              have HG1072 := Lib.hid q1051
              have HP1073 := Lib.hid q1052
              have HD1074 := Lib.hid q1053
              have AP1075 := Lib.hid q1054
              have XL1076 := Lib.hid q1055
              clear q1034 q1035 q1036 q1037 q1038 q1039 q1040 q1041 q1042 q1043 q1044 q1045 q1046 q1047 q1048 q1049 q1050 q1051 q1052 q1053 q1054 q1055
              have fi1077 : (U652.i == g.i) = true := by rw [← HU652.out]; exact beq_iff_eq.2 rfl
              have fi1078 : (U652.i != g.i) = false := by rw [← HU652.out]; exact bne_eq_false_iff_eq.2 rfl
              have hHeld : SeesN W31 V0.heap.size w851 := seesN_kept _ Kk1056.out
              refine wpAnyH_ready (rs := [6]) (by kernel_rfl) (by simp) ?_
              refine AllReadyH.cons (o := hetEndsr3_6) rfl (fun K hK => ?_) ?_
              · unfold hetEndsr3_6
                go_simp
                refine (lours_any h (Par w V0.heap.size (g320 :: (g489 :: [])) P) _ (.slice aha h.a.kids.length cha) (.slice ahb h.b.kids.length chb) (.slice ahx h.x.kids.length chx) (.slice ahy h.y.kids.length chy) (.slice ahh h.h.kids.length chh) ⟨Gh.out.1, Gh.out.2.1, Gh.out.2.2.1, Gh.out.2.2.2.1, Gh.out.2.2.2.2.1, Gh.out.2.2.2.2.2⟩ ⟨(par_grow HLha.out (kept_trans Kk12.out (kept_trans Kk17.out (kept_trans Kk22.out (kept_trans Kk28.out (kept_trans Kk34.out Kk1056.out))))) (List.forall_mem_cons.2 ⟨(Or.inr (Nat.le_trans (Below.size (kept_trans Kk12.out (kept_trans Kk17.out (kept_trans Kk22.out (kept_trans Kk28.out Kk34.out))))) HP1073.out)), (List.forall_mem_cons.2 ⟨(Or.inr (Nat.le_trans (Below.size (kept_trans Kk12.out (kept_trans Kk17.out (kept_trans Kk22.out (kept_trans Kk28.out Kk34.out))))) HP1070.out)), (fun _ h => nomatch h)⟩)⟩)), (par_grow HLhb.out (kept_trans Kk12.out (kept_trans Kk17.out (kept_trans Kk22.out (kept_trans Kk28.out (kept_trans Kk34.out Kk1056.out))))) (List.forall_mem_cons.2 ⟨(Or.inr (Nat.le_trans (Below.size (kept_trans Kk12.out (kept_trans Kk17.out (kept_trans Kk22.out (kept_trans Kk28.out Kk34.out))))) HP1073.out)), (List.forall_mem_cons.2 ⟨(Or.inr (Nat.le_trans (Below.size (kept_trans Kk12.out (kept_trans Kk17.out (kept_trans Kk22.out (kept_trans Kk28.out Kk34.out))))) HP1070.out)), (fun _ h => nomatch h)⟩)⟩)), (par_grow HLhx.out (kept_trans Kk12.out (kept_trans Kk17.out (kept_trans Kk22.out (kept_trans Kk28.out (kept_trans Kk34.out Kk1056.out))))) (List.forall_mem_cons.2 ⟨(Or.inr (Nat.le_trans (Below.size (kept_trans Kk12.out (kept_trans Kk17.out (kept_trans Kk22.out (kept_trans Kk28.out Kk34.out))))) HP1073.out)), (List.forall_mem_cons.2 ⟨(Or.inr (Nat.le_trans (Below.size (kept_trans Kk12.out (kept_trans Kk17.out (kept_trans Kk22.out (kept_trans Kk28.out Kk34.out))))) HP1070.out)), (fun _ h => nomatch h)⟩)⟩)), (par_grow HLhy.out (kept_trans Kk12.out (kept_trans Kk17.out (kept_trans Kk22.out (kept_trans Kk28.out (kept_trans Kk34.out Kk1056.out))))) (List.forall_mem_cons.2 ⟨(Or.inr (Nat.le_trans (Below.size (kept_trans Kk12.out (kept_trans Kk17.out (kept_trans Kk22.out (kept_trans Kk28.out Kk34.out))))) HP1073.out)), (List.forall_mem_cons.2 ⟨(Or.inr (Nat.le_trans (Below.size (kept_trans Kk12.out (kept_trans Kk17.out (kept_trans Kk22.out (kept_trans Kk28.out Kk34.out))))) HP1070.out)), (fun _ h => nomatch h)⟩)⟩)), (par_grow HLhh.out (kept_trans Kk12.out (kept_trans Kk17.out (kept_trans Kk22.out (kept_trans Kk28.out (kept_trans Kk34.out Kk1056.out))))) (List.forall_mem_cons.2 ⟨(Or.inr (Nat.le_trans (Below.size (kept_trans Kk12.out (kept_trans Kk17.out (kept_trans Kk22.out (kept_trans Kk28.out Kk34.out))))) HP1073.out)), (List.forall_mem_cons.2 ⟨(Or.inr (Nat.le_trans (Below.size (kept_trans Kk12.out (kept_trans Kk17.out (kept_trans Kk22.out (kept_trans Kk28.out Kk34.out))))) HP1070.out)), (fun _ h => nomatch h)⟩)⟩))⟩).mono ?_
                rintro e w1079 ⟨s1081, s1082, s1083, s1084, s1085, rfl, ⟨hl1086, hl1087, hl1088, hl1089, hl1090⟩, k1080⟩
                obtain ⟨a1091, c1092, S1093, rfl, -⟩ := hl1086.out
                obtain ⟨a1094, c1095, S1096, rfl, -⟩ := hl1087.out
                obtain ⟨a1097, c1098, S1099, rfl, -⟩ := hl1088.out
                obtain ⟨a1100, c1101, S1102, rfl, -⟩ := hl1089.out
                obtain ⟨a1103, c1104, S1105, rfl, -⟩ := hl1090.out
                have Kk1106 := Lib.hid k1080
                clear k1080
                have Hhl1086 : Hid (LiesQ w1079 (Par w V0.heap.size (g320 :: (g489 :: [])) P) h.a.kids _) := par_give hl1086 (Below.size (kept_trans Kk12.out (kept_trans Kk17.out (kept_trans Kk22.out (kept_trans Kk28.out (kept_trans Kk34.out Kk1056.out)))))) XL1076.out
                have Hhl1087 : Hid (LiesQ w1079 (Par w V0.heap.size (g320 :: (g489 :: [])) P) h.b.kids _) := par_give hl1087 (Below.size (kept_trans Kk12.out (kept_trans Kk17.out (kept_trans Kk22.out (kept_trans Kk28.out (kept_trans Kk34.out Kk1056.out)))))) XL1076.out
                have Hhl1088 : Hid (LiesQ w1079 (Par w V0.heap.size (g320 :: (g489 :: [])) P) h.x.kids _) := par_give hl1088 (Below.size (kept_trans Kk12.out (kept_trans Kk17.out (kept_trans Kk22.out (kept_trans Kk28.out (kept_trans Kk34.out Kk1056.out)))))) XL1076.out
                have Hhl1089 : Hid (LiesQ w1079 (Par w V0.heap.size (g320 :: (g489 :: [])) P) h.y.kids _) := par_give hl1089 (Below.size (kept_trans Kk12.out (kept_trans Kk17.out (kept_trans Kk22.out (kept_trans Kk28.out (kept_trans Kk34.out Kk1056.out)))))) XL1076.out
                have Hhl1090 : Hid (LiesQ w1079 (Par w V0.heap.size (g320 :: (g489 :: [])) P) h.h.kids _) := par_give hl1090 (Below.size (kept_trans Kk12.out (kept_trans Kk17.out (kept_trans Kk22.out (kept_trans Kk28.out (kept_trans Kk34.out Kk1056.out)))))) XL1076.out
                clear hl1086 hl1087 hl1088 hl1089 hl1090
                (try clear hHeld)
                refine hK.out _ _ ?_ (fun hHeld => ?_)
                · (try dsimp only)
                  exact seesN_kept _ (kept_trans Kk1056.out Kk1106.out)
                clear hK K
                (try simp only [Act.put, List.setIfInBounds_toArray, List.set_cons_zero, List.set_cons_succ])
                exact HJj47 w1079 a63 c64 a66 c67 a69 c70 a72 c73 a75 c76 U652 a663 c664 a666 c667 a669 c670 a672 c673 a675 c676 a863 c864 a866 c867 a869 c870 a872 c873 a875 c876 a1091 c1092 a1094 c1095 a1097 c1098 a1100 c1101 a1103 c1104 g489 g320 ⟨(kept_trans Kk1056.out Kk1106.out), HU652.out, (HL1057.out.later Kk1106.out), (HL1058.out.later Kk1106.out), (HL1059.out.later Kk1106.out), (HL1060.out.later Kk1106.out), (HL1061.out.later Kk1106.out), (HL1062.out.later Kk1106.out), (HL1063.out.later Kk1106.out), (HL1064.out.later Kk1106.out), (HL1065.out.later Kk1106.out), (HL1066.out.later Kk1106.out), Hhl1086.out, Hhl1087.out, Hhl1088.out, Hhl1089.out, Hhl1090.out, (blk_at HX1067.out Kk1106.out), (blk_at HX1068.out Kk1106.out), HG1069.out, (Nat.le_trans (Below.size (kept_refl _)) HP1070.out), HD1071.out, HG1072.out, (Nat.le_trans (Below.size (kept_refl _)) HP1073.out), HD1074.out, (by have := AP1075.out; omega), (xlt_later XL1076.out Kk1106.out)⟩
              exact AllReadyH.nil
            · intro W239 a63 c64 a66 c67 a69 c70 a72 c73 a75 c76 U82 a93 c94 a96 c97 a99 c100 a102 c103 a105 c106 a123 c124 a126 c127 a129 c130 a132 c133 a135 c136 a151 c152 a154 c155 a157 c158 a160 c161 a163 c164 g244 k1107
              obtain ⟨q1108, q1109, q1110, q1111, q1112, q1113, q1114, q1115, q1116, q1117, q1118, q1119, q1120, q1121, q1122, q1123, q1124, q1125, q1126, q1127, q1128, q1129⟩ := k1107
              have Kk1130 := Lib.hid q1108
              have HU82 := Lib.hid q1109
              have HL1131 := Lib.hid q1110
              have HL1132 := Lib.hid q1111
              have HL1133 := Lib.hid q1112
              have HL1134 := Lib.hid q1113
              have HL1135 := Lib.hid q1114
              have HL1136 := Lib.hid q1115
              have HL1137 := Lib.hid q1116
              have HL1138 := Lib.hid q1117
              have HL1139 := Lib.hid q1118
              have HL1140 := Lib.hid q1119
              have HL1141 := Lib.hid q1120
              have HL1142 := Lib.hid q1121
              have HL1143 := Lib.hid q1122
              have HL1144 := Lib.hid q1123
              have HL1145 := Lib.hid q1124
              have HX1146 := Lib.hid q1125
              have HG1147 := Lib.hid q1126
              have HP1148 := Lib.hid q1127
              have HD1149 := Lib.hid q1128
              have XL1150 := Lib.hid q1129
              clear q1108 q1109 q1110 q1111 q1112 q1113 q1114 q1115 q1116 q1117 q1118 q1119 q1120 q1121 q1122 q1123 q1124 q1125 q1126 q1127 q1128 q1129
              have fi1151 : (U82.i == g.i) = true := by rw [← HU82.out]; exact beq_iff_eq.2 rfl
              have fi1152 : (U82.i != g.i) = false := by rw [← HU82.out]; exact bne_eq_false_iff_eq.2 rfl
              have hHeld : SeesN W31 V0.heap.size W239 := seesN_kept _ Kk1130.out
              refine wpAnyH_ready (rs := [7, 8]) (by kernel_rfl) (by simp) ?_
              refine AllReadyH.cons (o := hetEndsr3_7) rfl (fun K hK => ?_) ?_
              · unfold hetEndsr3_7
                go_simp
                have hq1155 := hthen_any g h (Par w V0.heap.size (g244 :: []) P) W239 (.slice a123 g.a.kids.length c124) (.slice a126 g.b.kids.length c127) (.slice a129 g.x.kids.length c130) (.slice a132 g.y.kids.length c133) (.slice a135 g.h.kids.length c136) (.slice a151 h.a.kids.length c152) (.slice a154 h.b.kids.length c155) (.slice a157 h.x.kids.length c158) (.slice a160 h.y.kids.length c161) (.slice a163 h.h.kids.length c164) ⟨((show He.fine g from ⟨Gg.out.1, Gg.out.2.1, Gg.out.2.2.1, Gg.out.2.2.2.1, Gg.out.2.2.2.2.1, Gg.out.2.2.2.2.2⟩)).1, ((show He.fine g from ⟨Gg.out.1, Gg.out.2.1, Gg.out.2.2.1, Gg.out.2.2.2.1, Gg.out.2.2.2.2.1, Gg.out.2.2.2.2.2⟩)).2.1, ((show He.fine g from ⟨Gg.out.1, Gg.out.2.1, Gg.out.2.2.1, Gg.out.2.2.2.1, Gg.out.2.2.2.2.1, Gg.out.2.2.2.2.2⟩)).2.2.1, ((show He.fine g from ⟨Gg.out.1, Gg.out.2.1, Gg.out.2.2.1, Gg.out.2.2.2.1, Gg.out.2.2.2.2.1, Gg.out.2.2.2.2.2⟩)).2.2.2.1, ((show He.fine g from ⟨Gg.out.1, Gg.out.2.1, Gg.out.2.2.1, Gg.out.2.2.2.1, Gg.out.2.2.2.2.1, Gg.out.2.2.2.2.2⟩)).2.2.2.2.1, ((show He.fine g from ⟨Gg.out.1, Gg.out.2.1, Gg.out.2.2.1, Gg.out.2.2.2.1, Gg.out.2.2.2.2.1, Gg.out.2.2.2.2.2⟩)).2.2.2.2.2⟩ ⟨HL1136.out, HL1137.out, HL1138.out, HL1139.out, HL1140.out⟩ ⟨((show He.fine h from ⟨Gh.out.1, Gh.out.2.1, Gh.out.2.2.1, Gh.out.2.2.2.1, Gh.out.2.2.2.2.1, Gh.out.2.2.2.2.2⟩)).1, ((show He.fine h from ⟨Gh.out.1, Gh.out.2.1, Gh.out.2.2.1, Gh.out.2.2.2.1, Gh.out.2.2.2.2.1, Gh.out.2.2.2.2.2⟩)).2.1, ((show He.fine h from ⟨Gh.out.1, Gh.out.2.1, Gh.out.2.2.1, Gh.out.2.2.2.1, Gh.out.2.2.2.2.1, Gh.out.2.2.2.2.2⟩)).2.2.1, ((show He.fine h from ⟨Gh.out.1, Gh.out.2.1, Gh.out.2.2.1, Gh.out.2.2.2.1, Gh.out.2.2.2.2.1, Gh.out.2.2.2.2.2⟩)).2.2.2.1, ((show He.fine h from ⟨Gh.out.1, Gh.out.2.1, Gh.out.2.2.1, Gh.out.2.2.2.1, Gh.out.2.2.2.2.1, Gh.out.2.2.2.2.2⟩)).2.2.2.2.1, ((show He.fine h from ⟨Gh.out.1, Gh.out.2.1, Gh.out.2.2.1, Gh.out.2.2.2.1, Gh.out.2.2.2.2.1, Gh.out.2.2.2.2.2⟩)).2.2.2.2.2⟩ ⟨HL1141.out, HL1142.out, HL1143.out, HL1144.out, HL1145.out⟩
                rw [then_good Hhb20.out Hhb26.out Hc30.out] at hq1155
                refine hq1155.mono ?_
                clear hq1155
                obtain ⟨U1156, hU1156⟩ : ∃ qu, chained g h = qu := ⟨_, rfl⟩
                rw [hU1156]
                have HU1156 := Lib.hid hU1156
                clear hU1156
                rintro e w1153 ⟨s1157, s1158, s1159, s1160, s1161, rfl, ⟨hl1162, hl1163, hl1164, hl1165, hl1166⟩, k1154⟩
                obtain ⟨a1167, c1168, S1169, rfl, -⟩ := hl1162.out
                obtain ⟨a1170, c1171, S1172, rfl, -⟩ := hl1163.out
                obtain ⟨a1173, c1174, S1175, rfl, -⟩ := hl1164.out
                obtain ⟨a1176, c1177, S1178, rfl, -⟩ := hl1165.out
                obtain ⟨a1179, c1180, S1181, rfl, -⟩ := hl1166.out
                have Kk1182 := Lib.hid k1154
                clear k1154
                have Hhl1162 : Hid (LiesQ w1153 (Par w V0.heap.size (g244 :: []) P) U1156.a.kids _) := par_give hl1162 (Below.size (kept_trans Kk12.out (kept_trans Kk17.out (kept_trans Kk22.out (kept_trans Kk28.out (kept_trans Kk34.out Kk1130.out)))))) XL1150.out
                have Hhl1163 : Hid (LiesQ w1153 (Par w V0.heap.size (g244 :: []) P) U1156.b.kids _) := par_give hl1163 (Below.size (kept_trans Kk12.out (kept_trans Kk17.out (kept_trans Kk22.out (kept_trans Kk28.out (kept_trans Kk34.out Kk1130.out)))))) XL1150.out
                have Hhl1164 : Hid (LiesQ w1153 (Par w V0.heap.size (g244 :: []) P) U1156.x.kids _) := par_give hl1164 (Below.size (kept_trans Kk12.out (kept_trans Kk17.out (kept_trans Kk22.out (kept_trans Kk28.out (kept_trans Kk34.out Kk1130.out)))))) XL1150.out
                have Hhl1165 : Hid (LiesQ w1153 (Par w V0.heap.size (g244 :: []) P) U1156.y.kids _) := par_give hl1165 (Below.size (kept_trans Kk12.out (kept_trans Kk17.out (kept_trans Kk22.out (kept_trans Kk28.out (kept_trans Kk34.out Kk1130.out)))))) XL1150.out
                have Hhl1166 : Hid (LiesQ w1153 (Par w V0.heap.size (g244 :: []) P) U1156.h.kids _) := par_give hl1166 (Below.size (kept_trans Kk12.out (kept_trans Kk17.out (kept_trans Kk22.out (kept_trans Kk28.out (kept_trans Kk34.out Kk1130.out)))))) XL1150.out
                clear hl1162 hl1163 hl1164 hl1165 hl1166
                have fi1183 : (U1156.i == g.i) = true := by rw [← HU1156.out]; exact beq_iff_eq.2 rfl
                have fi1184 : (U1156.i != g.i) = false := by rw [← HU1156.out]; exact bne_eq_false_iff_eq.2 rfl
                (try clear hHeld)
                refine hK.out _ _ ?_ (fun hHeld => ?_)
                · (try dsimp only)
                  exact seesN_kept _ (kept_trans Kk1130.out Kk1182.out)
                clear hK K
                (try simp only [Act.put, List.setIfInBounds_toArray, List.set_cons_zero, List.set_cons_succ])
                exact HJj48 w1153 a63 c64 a66 c67 a69 c70 a72 c73 a75 c76 U82 a93 c94 a96 c97 a99 c100 a102 c103 a105 c106 a123 c124 a126 c127 a129 c130 a132 c133 a135 c136 a151 c152 a154 c155 a157 c158 a160 c161 a163 c164 U1156 a1167 c1168 a1170 c1171 a1173 c1174 a1176 c1177 a1179 c1180 g244 ⟨(kept_trans Kk1130.out Kk1182.out), HU82.out, HU1156.out, (HL1131.out.later Kk1182.out), (HL1132.out.later Kk1182.out), (HL1133.out.later Kk1182.out), (HL1134.out.later Kk1182.out), (HL1135.out.later Kk1182.out), Hhl1162.out, Hhl1163.out, Hhl1164.out, Hhl1165.out, Hhl1166.out, (blk_at HX1146.out Kk1182.out), HG1147.out, (Nat.le_trans (Below.size (kept_refl _)) HP1148.out), HD1149.out, (xlt_later XL1150.out Kk1182.out)⟩
              refine AllReadyH.cons (o := hetEndsr3_8) rfl (fun K hK => ?_) ?_
              · unfold hetEndsr3_8
                go_simp
                refine at_K (fun W1185 hW1185 => ?_)
                obtain ⟨k1187, x1186, z1188⟩ := alloc1 hW1185
                have Kk1189 := Lib.hid k1187
                clear k1187
                obtain ⟨g1190, hg1191⟩ : ∃ q, W239.heap.size = q := ⟨_, rfl⟩
                rw [hg1191] at x1186 ⊢
                have Hx1186 := Lib.hid x1186
                have Hz1188 := Lib.hid z1188
                clear x1186 z1188 hW1185
                have HG1192 : Hid (V0.heap.size ≤ g1190) := (by show _ ≤ _; rw [← hg1191]; exact (Below.size (kept_trans Kk12.out (kept_trans Kk17.out (kept_trans Kk22.out (kept_trans Kk28.out (kept_trans Kk34.out Kk1130.out)))))))
                have AP1193 : Hid (g244 < g1190) := (by show _ < _; rw [← hg1191]; exact block_lt HX1146.out)
                have XL1194 : Hid (XLt (g1190 :: (g244 :: [])) W1185) := (by show XLt _ _; rw [← hg1191]; exact xlt_more XL1150.out Kk1189.out (by have := Hz1188.out; omega))
                have HP1195 : Hid (W239.heap.size ≤ g1190) := (by show _ ≤ _; rw [← hg1191]; exact Nat.le_refl _)
                have HD1196 : Hid (W31.heap.size ≤ g1190) := (by show _ ≤ _; rw [← hg1191]; exact Below.size Kk1130.out)
                clear hg1191
                (try clear hHeld)
                refine hK.out _ _ ?_ (fun hHeld => ?_)
                · (try dsimp only)
                  exact seesN_kept _ (kept_trans Kk1130.out Kk1189.out)
                clear hK K
                (try simp only [Act.put, List.setIfInBounds_toArray, List.set_cons_zero, List.set_cons_succ])
                have pg1197 : ∀ (l : List Tm) (s : Value), LiesQ W239 (Par w V0.heap.size (g244 :: []) P) l s → LiesQ W1185 (Par w V0.heap.size (g244 :: (g1190 :: [])) P) l s := fun _ _ h => par_grow h Kk1189.out (List.forall_mem_cons.2 ⟨(Or.inl (List.mem_cons_self ..)), (List.forall_mem_cons.2 ⟨(Or.inr HP1195.out), (fun _ h => nomatch h)⟩)⟩)
                exact HJj47 W1185 a63 c64 a66 c67 a69 c70 a72 c73 a75 c76 U82 a93 c94 a96 c97 a99 c100 a102 c103 a105 c106 a123 c124 a126 c127 a129 c130 a132 c133 a135 c136 a151 c152 a154 c155 a157 c158 a160 c161 a163 c164 g1190 g244 ⟨(kept_trans Kk1130.out Kk1189.out), HU82.out, (pg1197 _ _ HL1131.out), (pg1197 _ _ HL1132.out), (pg1197 _ _ HL1133.out), (pg1197 _ _ HL1134.out), (pg1197 _ _ HL1135.out), (pg1197 _ _ HL1136.out), (pg1197 _ _ HL1137.out), (pg1197 _ _ HL1138.out), (pg1197 _ _ HL1139.out), (pg1197 _ _ HL1140.out), (pg1197 _ _ HL1141.out), (pg1197 _ _ HL1142.out), (pg1197 _ _ HL1143.out), (pg1197 _ _ HL1144.out), (pg1197 _ _ HL1145.out), Hx1186.out, (blk_at HX1146.out Kk1189.out), HG1192.out, (Nat.le_trans (Below.size Kk1130.out) HP1195.out), HD1196.out, HG1147.out, (Nat.le_trans (Below.size (kept_refl _)) HP1148.out), HD1149.out, (by have := AP1193.out; omega), (xlt_x XL1194.out (List.forall_mem_cons.2 ⟨(List.mem_cons_of_mem _ (List.mem_cons_self ..)), (List.forall_mem_cons.2 ⟨(List.mem_cons_self ..), (fun _ h => nomatch h)⟩)⟩))⟩
              exact AllReadyH.nil
            · intro W225 a63 c64 a66 c67 a69 c70 a72 c73 a75 c76 U82 a93 c94 a96 c97 a99 c100 a102 c103 a105 c106 a123 c124 a126 c127 a129 c130 a132 c133 a135 c136 a151 c152 a154 c155 a157 c158 a160 c161 a163 c164 g230 k1198
              obtain ⟨q1199, q1200, q1201, q1202, q1203, q1204, q1205, q1206, q1207, q1208, q1209, q1210, q1211, q1212, q1213, q1214, q1215, q1216, q1217, q1218, q1219, q1220⟩ := k1198
              have Kk1221 := Lib.hid q1199
              have HU82 := Lib.hid q1200
              have HL1222 := Lib.hid q1201
              have HL1223 := Lib.hid q1202
              have HL1224 := Lib.hid q1203
              have HL1225 := Lib.hid q1204
              have HL1226 := Lib.hid q1205
              have HL1227 := Lib.hid q1206
              have HL1228 := Lib.hid q1207
              have HL1229 := Lib.hid q1208
              have HL1230 := Lib.hid q1209
              have HL1231 := Lib.hid q1210
              have HL1232 := Lib.hid q1211
              have HL1233 := Lib.hid q1212
              have HL1234 := Lib.hid q1213
              have HL1235 := Lib.hid q1214
              have HL1236 := Lib.hid q1215
              have HX1237 := Lib.hid q1216
              have HG1238 := Lib.hid q1217
              have HP1239 := Lib.hid q1218
              have HD1240 := Lib.hid q1219
              have XL1241 := Lib.hid q1220
              clear q1199 q1200 q1201 q1202 q1203 q1204 q1205 q1206 q1207 q1208 q1209 q1210 q1211 q1212 q1213 q1214 q1215 q1216 q1217 q1218 q1219 q1220
              have fi1242 : (U82.i == g.i) = true := by rw [← HU82.out]; exact beq_iff_eq.2 rfl
              have fi1243 : (U82.i != g.i) = false := by rw [← HU82.out]; exact bne_eq_false_iff_eq.2 rfl
              have hHeld : SeesN W31 V0.heap.size W225 := seesN_kept _ Kk1221.out
              refine wpAnyH_ready (rs := [7, 9]) (by kernel_rfl) (by simp) ?_
              refine AllReadyH.cons (o := hetEndsr3_7) rfl (fun K hK => ?_) ?_
              · unfold hetEndsr3_7
                go_simp
                have hq1246 := hthen_any g h (Par w V0.heap.size (g230 :: []) P) W225 (.slice a123 g.a.kids.length c124) (.slice a126 g.b.kids.length c127) (.slice a129 g.x.kids.length c130) (.slice a132 g.y.kids.length c133) (.slice a135 g.h.kids.length c136) (.slice a151 h.a.kids.length c152) (.slice a154 h.b.kids.length c155) (.slice a157 h.x.kids.length c158) (.slice a160 h.y.kids.length c161) (.slice a163 h.h.kids.length c164) ⟨((show He.fine g from ⟨Gg.out.1, Gg.out.2.1, Gg.out.2.2.1, Gg.out.2.2.2.1, Gg.out.2.2.2.2.1, Gg.out.2.2.2.2.2⟩)).1, ((show He.fine g from ⟨Gg.out.1, Gg.out.2.1, Gg.out.2.2.1, Gg.out.2.2.2.1, Gg.out.2.2.2.2.1, Gg.out.2.2.2.2.2⟩)).2.1, ((show He.fine g from ⟨Gg.out.1, Gg.out.2.1, Gg.out.2.2.1, Gg.out.2.2.2.1, Gg.out.2.2.2.2.1, Gg.out.2.2.2.2.2⟩)).2.2.1, ((show He.fine g from ⟨Gg.out.1, Gg.out.2.1, Gg.out.2.2.1, Gg.out.2.2.2.1, Gg.out.2.2.2.2.1, Gg.out.2.2.2.2.2⟩)).2.2.2.1, ((show He.fine g from ⟨Gg.out.1, Gg.out.2.1, Gg.out.2.2.1, Gg.out.2.2.2.1, Gg.out.2.2.2.2.1, Gg.out.2.2.2.2.2⟩)).2.2.2.2.1, ((show He.fine g from ⟨Gg.out.1, Gg.out.2.1, Gg.out.2.2.1, Gg.out.2.2.2.1, Gg.out.2.2.2.2.1, Gg.out.2.2.2.2.2⟩)).2.2.2.2.2⟩ ⟨HL1227.out, HL1228.out, HL1229.out, HL1230.out, HL1231.out⟩ ⟨((show He.fine h from ⟨Gh.out.1, Gh.out.2.1, Gh.out.2.2.1, Gh.out.2.2.2.1, Gh.out.2.2.2.2.1, Gh.out.2.2.2.2.2⟩)).1, ((show He.fine h from ⟨Gh.out.1, Gh.out.2.1, Gh.out.2.2.1, Gh.out.2.2.2.1, Gh.out.2.2.2.2.1, Gh.out.2.2.2.2.2⟩)).2.1, ((show He.fine h from ⟨Gh.out.1, Gh.out.2.1, Gh.out.2.2.1, Gh.out.2.2.2.1, Gh.out.2.2.2.2.1, Gh.out.2.2.2.2.2⟩)).2.2.1, ((show He.fine h from ⟨Gh.out.1, Gh.out.2.1, Gh.out.2.2.1, Gh.out.2.2.2.1, Gh.out.2.2.2.2.1, Gh.out.2.2.2.2.2⟩)).2.2.2.1, ((show He.fine h from ⟨Gh.out.1, Gh.out.2.1, Gh.out.2.2.1, Gh.out.2.2.2.1, Gh.out.2.2.2.2.1, Gh.out.2.2.2.2.2⟩)).2.2.2.2.1, ((show He.fine h from ⟨Gh.out.1, Gh.out.2.1, Gh.out.2.2.1, Gh.out.2.2.2.1, Gh.out.2.2.2.2.1, Gh.out.2.2.2.2.2⟩)).2.2.2.2.2⟩ ⟨HL1232.out, HL1233.out, HL1234.out, HL1235.out, HL1236.out⟩
                rw [then_good Hhb20.out Hhb26.out Hc30.out] at hq1246
                refine hq1246.mono ?_
                clear hq1246
                obtain ⟨U1247, hU1247⟩ : ∃ qu, chained g h = qu := ⟨_, rfl⟩
                rw [hU1247]
                have HU1247 := Lib.hid hU1247
                clear hU1247
                rintro e w1244 ⟨s1248, s1249, s1250, s1251, s1252, rfl, ⟨hl1253, hl1254, hl1255, hl1256, hl1257⟩, k1245⟩
                obtain ⟨a1258, c1259, S1260, rfl, -⟩ := hl1253.out
                obtain ⟨a1261, c1262, S1263, rfl, -⟩ := hl1254.out
                obtain ⟨a1264, c1265, S1266, rfl, -⟩ := hl1255.out
                obtain ⟨a1267, c1268, S1269, rfl, -⟩ := hl1256.out
                obtain ⟨a1270, c1271, S1272, rfl, -⟩ := hl1257.out
                have Kk1273 := Lib.hid k1245
                clear k1245
                have Hhl1253 : Hid (LiesQ w1244 (Par w V0.heap.size (g230 :: []) P) U1247.a.kids _) := par_give hl1253 (Below.size (kept_trans Kk12.out (kept_trans Kk17.out (kept_trans Kk22.out (kept_trans Kk28.out (kept_trans Kk34.out Kk1221.out)))))) XL1241.out
                have Hhl1254 : Hid (LiesQ w1244 (Par w V0.heap.size (g230 :: []) P) U1247.b.kids _) := par_give hl1254 (Below.size (kept_trans Kk12.out (kept_trans Kk17.out (kept_trans Kk22.out (kept_trans Kk28.out (kept_trans Kk34.out Kk1221.out)))))) XL1241.out
                have Hhl1255 : Hid (LiesQ w1244 (Par w V0.heap.size (g230 :: []) P) U1247.x.kids _) := par_give hl1255 (Below.size (kept_trans Kk12.out (kept_trans Kk17.out (kept_trans Kk22.out (kept_trans Kk28.out (kept_trans Kk34.out Kk1221.out)))))) XL1241.out
                have Hhl1256 : Hid (LiesQ w1244 (Par w V0.heap.size (g230 :: []) P) U1247.y.kids _) := par_give hl1256 (Below.size (kept_trans Kk12.out (kept_trans Kk17.out (kept_trans Kk22.out (kept_trans Kk28.out (kept_trans Kk34.out Kk1221.out)))))) XL1241.out
                have Hhl1257 : Hid (LiesQ w1244 (Par w V0.heap.size (g230 :: []) P) U1247.h.kids _) := par_give hl1257 (Below.size (kept_trans Kk12.out (kept_trans Kk17.out (kept_trans Kk22.out (kept_trans Kk28.out (kept_trans Kk34.out Kk1221.out)))))) XL1241.out
                clear hl1253 hl1254 hl1255 hl1256 hl1257
                have fi1274 : (U1247.i == g.i) = true := by rw [← HU1247.out]; exact beq_iff_eq.2 rfl
                have fi1275 : (U1247.i != g.i) = false := by rw [← HU1247.out]; exact bne_eq_false_iff_eq.2 rfl
                (try clear hHeld)
                refine hK.out _ _ ?_ (fun hHeld => ?_)
                · (try dsimp only)
                  exact seesN_kept _ (kept_trans Kk1221.out Kk1273.out)
                clear hK K
                (try simp only [Act.put, List.setIfInBounds_toArray, List.set_cons_zero, List.set_cons_succ])
                exact HJj49 w1244 a63 c64 a66 c67 a69 c70 a72 c73 a75 c76 U82 a93 c94 a96 c97 a99 c100 a102 c103 a105 c106 a123 c124 a126 c127 a129 c130 a132 c133 a135 c136 a151 c152 a154 c155 a157 c158 a160 c161 a163 c164 U1247 a1258 c1259 a1261 c1262 a1264 c1265 a1267 c1268 a1270 c1271 g230 ⟨(kept_trans Kk1221.out Kk1273.out), HU82.out, HU1247.out, (HL1222.out.later Kk1273.out), (HL1223.out.later Kk1273.out), (HL1224.out.later Kk1273.out), (HL1225.out.later Kk1273.out), (HL1226.out.later Kk1273.out), Hhl1253.out, Hhl1254.out, Hhl1255.out, Hhl1256.out, Hhl1257.out, (blk_at HX1237.out Kk1273.out), HG1238.out, (Nat.le_trans (Below.size (kept_refl _)) HP1239.out), HD1240.out, (xlt_later XL1241.out Kk1273.out)⟩
              refine AllReadyH.cons (o := hetEndsr3_9) rfl (fun K hK => ?_) ?_
              · unfold hetEndsr3_9
                go_simp
                refine at_K (fun W1276 hW1276 => ?_)
                obtain ⟨k1278, x1277, z1279⟩ := alloc1 hW1276
                have Kk1280 := Lib.hid k1278
                clear k1278
                obtain ⟨g1281, hg1282⟩ : ∃ q, W225.heap.size = q := ⟨_, rfl⟩
                rw [hg1282] at x1277 ⊢
                have Hx1277 := Lib.hid x1277
                have Hz1279 := Lib.hid z1279
                clear x1277 z1279 hW1276
                have HG1283 : Hid (V0.heap.size ≤ g1281) := (by show _ ≤ _; rw [← hg1282]; exact (Below.size (kept_trans Kk12.out (kept_trans Kk17.out (kept_trans Kk22.out (kept_trans Kk28.out (kept_trans Kk34.out Kk1221.out)))))))
                have AP1284 : Hid (g230 < g1281) := (by show _ < _; rw [← hg1282]; exact block_lt HX1237.out)
                have XL1285 : Hid (XLt (g1281 :: (g230 :: [])) W1276) := (by show XLt _ _; rw [← hg1282]; exact xlt_more XL1241.out Kk1280.out (by have := Hz1279.out; omega))
                have HP1286 : Hid (W225.heap.size ≤ g1281) := (by show _ ≤ _; rw [← hg1282]; exact Nat.le_refl _)
                have HD1287 : Hid (W31.heap.size ≤ g1281) := (by show _ ≤ _; rw [← hg1282]; exact Below.size Kk1221.out)
                clear hg1282
                (try clear hHeld)
                refine hK.out _ _ ?_ (fun hHeld => ?_)
                · (try dsimp only)
                  exact seesN_kept _ (kept_trans Kk1221.out Kk1280.out)
                clear hK K
                (try simp only [Act.put, List.setIfInBounds_toArray, List.set_cons_zero, List.set_cons_succ])
                have pg1288 : ∀ (l : List Tm) (s : Value), LiesQ W225 (Par w V0.heap.size (g230 :: []) P) l s → LiesQ W1276 (Par w V0.heap.size (g1281 :: (g230 :: [])) P) l s := fun _ _ h => par_grow h Kk1280.out (List.forall_mem_cons.2 ⟨(Or.inr HP1286.out), (List.forall_mem_cons.2 ⟨(Or.inl (List.mem_cons_self ..)), (fun _ h => nomatch h)⟩)⟩)
                exact HJj47 W1276 a63 c64 a66 c67 a69 c70 a72 c73 a75 c76 U82 a93 c94 a96 c97 a99 c100 a102 c103 a105 c106 a123 c124 a126 c127 a129 c130 a132 c133 a135 c136 a151 c152 a154 c155 a157 c158 a160 c161 a163 c164 g230 g1281 ⟨(kept_trans Kk1221.out Kk1280.out), HU82.out, (pg1288 _ _ HL1222.out), (pg1288 _ _ HL1223.out), (pg1288 _ _ HL1224.out), (pg1288 _ _ HL1225.out), (pg1288 _ _ HL1226.out), (pg1288 _ _ HL1227.out), (pg1288 _ _ HL1228.out), (pg1288 _ _ HL1229.out), (pg1288 _ _ HL1230.out), (pg1288 _ _ HL1231.out), (pg1288 _ _ HL1232.out), (pg1288 _ _ HL1233.out), (pg1288 _ _ HL1234.out), (pg1288 _ _ HL1235.out), (pg1288 _ _ HL1236.out), (blk_at HX1237.out Kk1280.out), Hx1277.out, HG1238.out, (Nat.le_trans (Below.size (kept_refl _)) HP1239.out), HD1240.out, HG1283.out, (Nat.le_trans (Below.size Kk1221.out) HP1286.out), HD1287.out, (by have := AP1284.out; omega), XL1285.out⟩
              exact AllReadyH.nil
            · intro w1079 a63 c64 a66 c67 a69 c70 a72 c73 a75 c76 U652 a663 c664 a666 c667 a669 c670 a672 c673 a675 c676 a863 c864 a866 c867 a869 c870 a872 c873 a875 c876 a1091 c1092 a1094 c1095 a1097 c1098 a1100 c1101 a1103 c1104 g489 g320 k1289
              obtain ⟨q1290, q1291, q1292, q1293, q1294, q1295, q1296, q1297, q1298, q1299, q1300, q1301, q1302, q1303, q1304, q1305, q1306, q1307, q1308, q1309, q1310, q1311, q1312, q1313, q1314, q1315, q1316⟩ := k1289
              have Kk1317 := Lib.hid q1290
              have HU652 := Lib.hid q1291
              have HL1318 := Lib.hid q1292
              have HL1319 := Lib.hid q1293
              have HL1320 := Lib.hid q1294
              have HL1321 := Lib.hid q1295
              have HL1322 := Lib.hid q1296
              have HL1323 := Lib.hid q1297
              have HL1324 := Lib.hid q1298
              have HL1325 := Lib.hid q1299
              have HL1326 := Lib.hid q1300
              have HL1327 := Lib.hid q1301
              have HL1328 := Lib.hid q1302
              have HL1329 := Lib.hid q1303
              have HL1330 := Lib.hid q1304
              have HL1331 := Lib.hid q1305
              have HL1332 := Lib.hid q1306
              have HX1333 := Lib.hid q1307
              have HX1334 := Lib.hid q1308
              have HG1335 := Lib.hid q1309
              have HP1336 := Lib.hid q1310
              have HD1337 := Lib.hid q1311
              have HG1338 := Lib.hid q1312
              have HP1339 := Lib.hid q1313
              have HD1340 := Lib.hid q1314
              have AP1341 := Lib.hid q1315
              have XL1342 := Lib.hid q1316
              clear q1290 q1291 q1292 q1293 q1294 q1295 q1296 q1297 q1298 q1299 q1300 q1301 q1302 q1303 q1304 q1305 q1306 q1307 q1308 q1309 q1310 q1311 q1312 q1313 q1314 q1315 q1316
              have fi1343 : (U652.i == g.i) = true := by rw [← HU652.out]; exact beq_iff_eq.2 rfl
              have fi1344 : (U652.i != g.i) = false := by rw [← HU652.out]; exact bne_eq_false_iff_eq.2 rfl
              have hHeld : SeesN W31 V0.heap.size w1079 := seesN_kept _ Kk1317.out
              refine wpAnyH_ready (rs := [7]) (by kernel_rfl) (by simp) ?_
              refine AllReadyH.cons (o := hetEndsr3_7) rfl (fun K hK => ?_) ?_
              · unfold hetEndsr3_7
                go_simp
                have hq1347 := hthen_any g h (Par w V0.heap.size (g320 :: (g489 :: [])) P) w1079 (.slice a863 g.a.kids.length c864) (.slice a866 g.b.kids.length c867) (.slice a869 g.x.kids.length c870) (.slice a872 g.y.kids.length c873) (.slice a875 g.h.kids.length c876) (.slice a1091 h.a.kids.length c1092) (.slice a1094 h.b.kids.length c1095) (.slice a1097 h.x.kids.length c1098) (.slice a1100 h.y.kids.length c1101) (.slice a1103 h.h.kids.length c1104) ⟨((show He.fine g from ⟨Gg.out.1, Gg.out.2.1, Gg.out.2.2.1, Gg.out.2.2.2.1, Gg.out.2.2.2.2.1, Gg.out.2.2.2.2.2⟩)).1, ((show He.fine g from ⟨Gg.out.1, Gg.out.2.1, Gg.out.2.2.1, Gg.out.2.2.2.1, Gg.out.2.2.2.2.1, Gg.out.2.2.2.2.2⟩)).2.1, ((show He.fine g from ⟨Gg.out.1, Gg.out.2.1, Gg.out.2.2.1, Gg.out.2.2.2.1, Gg.out.2.2.2.2.1, Gg.out.2.2.2.2.2⟩)).2.2.1, ((show He.fine g from ⟨Gg.out.1, Gg.out.2.1, Gg.out.2.2.1, Gg.out.2.2.2.1, Gg.out.2.2.2.2.1, Gg.out.2.2.2.2.2⟩)).2.2.2.1, ((show He.fine g from ⟨Gg.out.1, Gg.out.2.1, Gg.out.2.2.1, Gg.out.2.2.2.1, Gg.out.2.2.2.2.1, Gg.out.2.2.2.2.2⟩)).2.2.2.2.1, ((show He.fine g from ⟨Gg.out.1, Gg.out.2.1, Gg.out.2.2.1, Gg.out.2.2.2.1, Gg.out.2.2.2.2.1, Gg.out.2.2.2.2.2⟩)).2.2.2.2.2⟩ ⟨HL1323.out, HL1324.out, HL1325.out, HL1326.out, HL1327.out⟩ ⟨((show He.fine h from ⟨Gh.out.1, Gh.out.2.1, Gh.out.2.2.1, Gh.out.2.2.2.1, Gh.out.2.2.2.2.1, Gh.out.2.2.2.2.2⟩)).1, ((show He.fine h from ⟨Gh.out.1, Gh.out.2.1, Gh.out.2.2.1, Gh.out.2.2.2.1, Gh.out.2.2.2.2.1, Gh.out.2.2.2.2.2⟩)).2.1, ((show He.fine h from ⟨Gh.out.1, Gh.out.2.1, Gh.out.2.2.1, Gh.out.2.2.2.1, Gh.out.2.2.2.2.1, Gh.out.2.2.2.2.2⟩)).2.2.1, ((show He.fine h from ⟨Gh.out.1, Gh.out.2.1, Gh.out.2.2.1, Gh.out.2.2.2.1, Gh.out.2.2.2.2.1, Gh.out.2.2.2.2.2⟩)).2.2.2.1, ((show He.fine h from ⟨Gh.out.1, Gh.out.2.1, Gh.out.2.2.1, Gh.out.2.2.2.1, Gh.out.2.2.2.2.1, Gh.out.2.2.2.2.2⟩)).2.2.2.2.1, ((show He.fine h from ⟨Gh.out.1, Gh.out.2.1, Gh.out.2.2.1, Gh.out.2.2.2.1, Gh.out.2.2.2.2.1, Gh.out.2.2.2.2.2⟩)).2.2.2.2.2⟩ ⟨HL1328.out, HL1329.out, HL1330.out, HL1331.out, HL1332.out⟩
                rw [then_good Hhb20.out Hhb26.out Hc30.out] at hq1347
                refine hq1347.mono ?_
                clear hq1347
                obtain ⟨U1348, hU1348⟩ : ∃ qu, chained g h = qu := ⟨_, rfl⟩
                rw [hU1348]
                have HU1348 := Lib.hid hU1348
                clear hU1348
                rintro e w1345 ⟨s1349, s1350, s1351, s1352, s1353, rfl, ⟨hl1354, hl1355, hl1356, hl1357, hl1358⟩, k1346⟩
                obtain ⟨a1359, c1360, S1361, rfl, -⟩ := hl1354.out
                obtain ⟨a1362, c1363, S1364, rfl, -⟩ := hl1355.out
                obtain ⟨a1365, c1366, S1367, rfl, -⟩ := hl1356.out
                obtain ⟨a1368, c1369, S1370, rfl, -⟩ := hl1357.out
                obtain ⟨a1371, c1372, S1373, rfl, -⟩ := hl1358.out
                have Kk1374 := Lib.hid k1346
                clear k1346
                have Hhl1354 : Hid (LiesQ w1345 (Par w V0.heap.size (g320 :: (g489 :: [])) P) U1348.a.kids _) := par_give hl1354 (Below.size (kept_trans Kk12.out (kept_trans Kk17.out (kept_trans Kk22.out (kept_trans Kk28.out (kept_trans Kk34.out Kk1317.out)))))) XL1342.out
                have Hhl1355 : Hid (LiesQ w1345 (Par w V0.heap.size (g320 :: (g489 :: [])) P) U1348.b.kids _) := par_give hl1355 (Below.size (kept_trans Kk12.out (kept_trans Kk17.out (kept_trans Kk22.out (kept_trans Kk28.out (kept_trans Kk34.out Kk1317.out)))))) XL1342.out
                have Hhl1356 : Hid (LiesQ w1345 (Par w V0.heap.size (g320 :: (g489 :: [])) P) U1348.x.kids _) := par_give hl1356 (Below.size (kept_trans Kk12.out (kept_trans Kk17.out (kept_trans Kk22.out (kept_trans Kk28.out (kept_trans Kk34.out Kk1317.out)))))) XL1342.out
                have Hhl1357 : Hid (LiesQ w1345 (Par w V0.heap.size (g320 :: (g489 :: [])) P) U1348.y.kids _) := par_give hl1357 (Below.size (kept_trans Kk12.out (kept_trans Kk17.out (kept_trans Kk22.out (kept_trans Kk28.out (kept_trans Kk34.out Kk1317.out)))))) XL1342.out
                have Hhl1358 : Hid (LiesQ w1345 (Par w V0.heap.size (g320 :: (g489 :: [])) P) U1348.h.kids _) := par_give hl1358 (Below.size (kept_trans Kk12.out (kept_trans Kk17.out (kept_trans Kk22.out (kept_trans Kk28.out (kept_trans Kk34.out Kk1317.out)))))) XL1342.out
                clear hl1354 hl1355 hl1356 hl1357 hl1358
                have fi1375 : (U1348.i == g.i) = true := by rw [← HU1348.out]; exact beq_iff_eq.2 rfl
                have fi1376 : (U1348.i != g.i) = false := by rw [← HU1348.out]; exact bne_eq_false_iff_eq.2 rfl
                (try clear hHeld)
                refine hK.out _ _ ?_ (fun hHeld => ?_)
                · (try dsimp only)
                  exact seesN_kept _ (kept_trans Kk1317.out Kk1374.out)
                clear hK K
                (try simp only [Act.put, List.setIfInBounds_toArray, List.set_cons_zero, List.set_cons_succ])
                exact HJj50 w1345 a63 c64 a66 c67 a69 c70 a72 c73 a75 c76 U652 a663 c664 a666 c667 a669 c670 a672 c673 a675 c676 a863 c864 a866 c867 a869 c870 a872 c873 a875 c876 a1091 c1092 a1094 c1095 a1097 c1098 a1100 c1101 a1103 c1104 U1348 a1359 c1360 a1362 c1363 a1365 c1366 a1368 c1369 a1371 c1372 g489 g320 ⟨(kept_trans Kk1317.out Kk1374.out), HU652.out, HU1348.out, (HL1318.out.later Kk1374.out), (HL1319.out.later Kk1374.out), (HL1320.out.later Kk1374.out), (HL1321.out.later Kk1374.out), (HL1322.out.later Kk1374.out), Hhl1354.out, Hhl1355.out, Hhl1356.out, Hhl1357.out, Hhl1358.out, (blk_at HX1333.out Kk1374.out), (blk_at HX1334.out Kk1374.out), HG1335.out, (Nat.le_trans (Below.size (kept_refl _)) HP1336.out), HD1337.out, HG1338.out, (Nat.le_trans (Below.size (kept_refl _)) HP1339.out), HD1340.out, (by have := AP1341.out; omega), (xlt_later XL1342.out Kk1374.out)⟩
              exact AllReadyH.nil
            · intro W212 a63 c64 a66 c67 a69 c70 a72 c73 a75 c76 U82 a93 c94 a96 c97 a99 c100 a102 c103 a105 c106 a123 c124 a126 c127 a129 c130 a132 c133 a135 c136 a151 c152 a154 c155 a157 c158 a160 c161 a163 c164 U170 a181 c182 a184 c185 a187 c188 a190 c191 a193 c194 g217 k1377
              obtain ⟨q1378, q1379, q1380, q1381, q1382, q1383, q1384, q1385, q1386, q1387, q1388, q1389, q1390, q1391, q1392, q1393, q1394, q1395⟩ := k1377
              have Kk1396 := Lib.hid q1378
              have HU82 := Lib.hid q1379
              have HU170 := Lib.hid q1380
              have HL1397 := Lib.hid q1381
              have HL1398 := Lib.hid q1382
              have HL1399 := Lib.hid q1383
              have HL1400 := Lib.hid q1384
              have HL1401 := Lib.hid q1385
              have HL1402 := Lib.hid q1386
              have HL1403 := Lib.hid q1387
              have HL1404 := Lib.hid q1388
              have HL1405 := Lib.hid q1389
              have HL1406 := Lib.hid q1390
              have HX1407 := Lib.hid q1391
              have HG1408 := Lib.hid q1392
              have HP1409 := Lib.hid q1393
              have HD1410 := Lib.hid q1394
              have XL1411 := Lib.hid q1395
              clear q1378 q1379 q1380 q1381 q1382 q1383 q1384 q1385 q1386 q1387 q1388 q1389 q1390 q1391 q1392 q1393 q1394 q1395
              have fi1412 : (U82.i == g.i) = true := by rw [← HU82.out]; exact beq_iff_eq.2 rfl
              have fi1413 : (U82.i != g.i) = false := by rw [← HU82.out]; exact bne_eq_false_iff_eq.2 rfl
              have fi1414 : (U170.i == g.i) = true := by rw [← HU170.out]; exact beq_iff_eq.2 rfl
              have fi1415 : (U170.i != g.i) = false := by rw [← HU170.out]; exact bne_eq_false_iff_eq.2 rfl
              have hHeld : SeesN W31 V0.heap.size W212 := seesN_kept _ Kk1396.out
              refine wpAnyH_ready (rs := [8]) (by kernel_rfl) (by simp) ?_
              refine AllReadyH.cons (o := hetEndsr3_8) rfl (fun K hK => ?_) ?_
              · unfold hetEndsr3_8
                go_simp
                refine at_K (fun W1416 hW1416 => ?_)
                obtain ⟨k1418, x1417, z1419⟩ := alloc1 hW1416
                have Kk1420 := Lib.hid k1418
                clear k1418
                obtain ⟨g1421, hg1422⟩ : ∃ q, W212.heap.size = q := ⟨_, rfl⟩
                rw [hg1422] at x1417 ⊢
                have Hx1417 := Lib.hid x1417
                have Hz1419 := Lib.hid z1419
                clear x1417 z1419 hW1416
                have HG1423 : Hid (V0.heap.size ≤ g1421) := (by show _ ≤ _; rw [← hg1422]; exact (Below.size (kept_trans Kk12.out (kept_trans Kk17.out (kept_trans Kk22.out (kept_trans Kk28.out (kept_trans Kk34.out Kk1396.out)))))))
                have AP1424 : Hid (g217 < g1421) := (by show _ < _; rw [← hg1422]; exact block_lt HX1407.out)
                have XL1425 : Hid (XLt (g1421 :: (g217 :: [])) W1416) := (by show XLt _ _; rw [← hg1422]; exact xlt_more XL1411.out Kk1420.out (by have := Hz1419.out; omega))
                have HP1426 : Hid (W212.heap.size ≤ g1421) := (by show _ ≤ _; rw [← hg1422]; exact Nat.le_refl _)
                have HD1427 : Hid (W31.heap.size ≤ g1421) := (by show _ ≤ _; rw [← hg1422]; exact Below.size Kk1396.out)
                clear hg1422
                (try clear hHeld)
                refine hK.out _ _ ?_ (fun hHeld => ?_)
                · (try dsimp only)
                  exact seesN_kept _ (kept_trans Kk1396.out Kk1420.out)
                clear hK K
                (try simp only [Act.put, List.setIfInBounds_toArray, List.set_cons_zero, List.set_cons_succ])
                have pg1428 : ∀ (l : List Tm) (s : Value), LiesQ W212 (Par w V0.heap.size (g217 :: []) P) l s → LiesQ W1416 (Par w V0.heap.size (g217 :: (g1421 :: [])) P) l s := fun _ _ h => par_grow h Kk1420.out (List.forall_mem_cons.2 ⟨(Or.inl (List.mem_cons_self ..)), (List.forall_mem_cons.2 ⟨(Or.inr HP1426.out), (fun _ h => nomatch h)⟩)⟩)
                exact HJj50 W1416 a63 c64 a66 c67 a69 c70 a72 c73 a75 c76 U82 a93 c94 a96 c97 a99 c100 a102 c103 a105 c106 a123 c124 a126 c127 a129 c130 a132 c133 a135 c136 a151 c152 a154 c155 a157 c158 a160 c161 a163 c164 U170 a181 c182 a184 c185 a187 c188 a190 c191 a193 c194 g1421 g217 ⟨(kept_trans Kk1396.out Kk1420.out), HU82.out, HU170.out, (pg1428 _ _ HL1397.out), (pg1428 _ _ HL1398.out), (pg1428 _ _ HL1399.out), (pg1428 _ _ HL1400.out), (pg1428 _ _ HL1401.out), (pg1428 _ _ HL1402.out), (pg1428 _ _ HL1403.out), (pg1428 _ _ HL1404.out), (pg1428 _ _ HL1405.out), (pg1428 _ _ HL1406.out), Hx1417.out, (blk_at HX1407.out Kk1420.out), HG1423.out, (Nat.le_trans (Below.size Kk1396.out) HP1426.out), HD1427.out, HG1408.out, (Nat.le_trans (Below.size (kept_refl _)) HP1409.out), HD1410.out, (by have := AP1424.out; omega), (xlt_x XL1425.out (List.forall_mem_cons.2 ⟨(List.mem_cons_of_mem _ (List.mem_cons_self ..)), (List.forall_mem_cons.2 ⟨(List.mem_cons_self ..), (fun _ h => nomatch h)⟩)⟩))⟩
              exact AllReadyH.nil
            · intro W199 a63 c64 a66 c67 a69 c70 a72 c73 a75 c76 U82 a93 c94 a96 c97 a99 c100 a102 c103 a105 c106 a123 c124 a126 c127 a129 c130 a132 c133 a135 c136 a151 c152 a154 c155 a157 c158 a160 c161 a163 c164 U170 a181 c182 a184 c185 a187 c188 a190 c191 a193 c194 g204 k1429
              obtain ⟨q1430, q1431, q1432, q1433, q1434, q1435, q1436, q1437, q1438, q1439, q1440, q1441, q1442, q1443, q1444, q1445, q1446, q1447⟩ := k1429
              have Kk1448 := Lib.hid q1430
              have HU82 := Lib.hid q1431
              have HU170 := Lib.hid q1432
              have HL1449 := Lib.hid q1433
              have HL1450 := Lib.hid q1434
              have HL1451 := Lib.hid q1435
              have HL1452 := Lib.hid q1436
              have HL1453 := Lib.hid q1437
              have HL1454 := Lib.hid q1438
              have HL1455 := Lib.hid q1439
              have HL1456 := Lib.hid q1440
              have HL1457 := Lib.hid q1441
              have HL1458 := Lib.hid q1442
              have HX1459 := Lib.hid q1443
              have HG1460 := Lib.hid q1444
              have HP1461 := Lib.hid q1445
              have HD1462 := Lib.hid q1446
              have XL1463 := Lib.hid q1447
              clear q1430 q1431 q1432 q1433 q1434 q1435 q1436 q1437 q1438 q1439 q1440 q1441 q1442 q1443 q1444 q1445 q1446 q1447
              have fi1464 : (U82.i == g.i) = true := by rw [← HU82.out]; exact beq_iff_eq.2 rfl
              have fi1465 : (U82.i != g.i) = false := by rw [← HU82.out]; exact bne_eq_false_iff_eq.2 rfl
              have fi1466 : (U170.i == g.i) = true := by rw [← HU170.out]; exact beq_iff_eq.2 rfl
              have fi1467 : (U170.i != g.i) = false := by rw [← HU170.out]; exact bne_eq_false_iff_eq.2 rfl
              have hHeld : SeesN W31 V0.heap.size W199 := seesN_kept _ Kk1448.out
              refine wpAnyH_ready (rs := [9]) (by kernel_rfl) (by simp) ?_
              refine AllReadyH.cons (o := hetEndsr3_9) rfl (fun K hK => ?_) ?_
              · unfold hetEndsr3_9
                go_simp
                refine at_K (fun W1468 hW1468 => ?_)
                obtain ⟨k1470, x1469, z1471⟩ := alloc1 hW1468
                have Kk1472 := Lib.hid k1470
                clear k1470
                obtain ⟨g1473, hg1474⟩ : ∃ q, W199.heap.size = q := ⟨_, rfl⟩
                rw [hg1474] at x1469 ⊢
                have Hx1469 := Lib.hid x1469
                have Hz1471 := Lib.hid z1471
                clear x1469 z1471 hW1468
                have HG1475 : Hid (V0.heap.size ≤ g1473) := (by show _ ≤ _; rw [← hg1474]; exact (Below.size (kept_trans Kk12.out (kept_trans Kk17.out (kept_trans Kk22.out (kept_trans Kk28.out (kept_trans Kk34.out Kk1448.out)))))))
                have AP1476 : Hid (g204 < g1473) := (by show _ < _; rw [← hg1474]; exact block_lt HX1459.out)
                have XL1477 : Hid (XLt (g1473 :: (g204 :: [])) W1468) := (by show XLt _ _; rw [← hg1474]; exact xlt_more XL1463.out Kk1472.out (by have := Hz1471.out; omega))
                have HP1478 : Hid (W199.heap.size ≤ g1473) := (by show _ ≤ _; rw [← hg1474]; exact Nat.le_refl _)
                have HD1479 : Hid (W31.heap.size ≤ g1473) := (by show _ ≤ _; rw [← hg1474]; exact Below.size Kk1448.out)
                clear hg1474
                (try clear hHeld)
                refine hK.out _ _ ?_ (fun hHeld => ?_)
                · (try dsimp only)
                  exact seesN_kept _ (kept_trans Kk1448.out Kk1472.out)
                clear hK K
                (try simp only [Act.put, List.setIfInBounds_toArray, List.set_cons_zero, List.set_cons_succ])
                have pg1480 : ∀ (l : List Tm) (s : Value), LiesQ W199 (Par w V0.heap.size (g204 :: []) P) l s → LiesQ W1468 (Par w V0.heap.size (g1473 :: (g204 :: [])) P) l s := fun _ _ h => par_grow h Kk1472.out (List.forall_mem_cons.2 ⟨(Or.inr HP1478.out), (List.forall_mem_cons.2 ⟨(Or.inl (List.mem_cons_self ..)), (fun _ h => nomatch h)⟩)⟩)
                exact HJj50 W1468 a63 c64 a66 c67 a69 c70 a72 c73 a75 c76 U82 a93 c94 a96 c97 a99 c100 a102 c103 a105 c106 a123 c124 a126 c127 a129 c130 a132 c133 a135 c136 a151 c152 a154 c155 a157 c158 a160 c161 a163 c164 U170 a181 c182 a184 c185 a187 c188 a190 c191 a193 c194 g204 g1473 ⟨(kept_trans Kk1448.out Kk1472.out), HU82.out, HU170.out, (pg1480 _ _ HL1449.out), (pg1480 _ _ HL1450.out), (pg1480 _ _ HL1451.out), (pg1480 _ _ HL1452.out), (pg1480 _ _ HL1453.out), (pg1480 _ _ HL1454.out), (pg1480 _ _ HL1455.out), (pg1480 _ _ HL1456.out), (pg1480 _ _ HL1457.out), (pg1480 _ _ HL1458.out), (blk_at HX1459.out Kk1472.out), Hx1469.out, HG1460.out, (Nat.le_trans (Below.size (kept_refl _)) HP1461.out), HD1462.out, HG1475.out, (Nat.le_trans (Below.size Kk1448.out) HP1478.out), HD1479.out, (by have := AP1476.out; omega), XL1477.out⟩
              exact AllReadyH.nil
            · intro w1345 a63 c64 a66 c67 a69 c70 a72 c73 a75 c76 U652 a663 c664 a666 c667 a669 c670 a672 c673 a675 c676 a863 c864 a866 c867 a869 c870 a872 c873 a875 c876 a1091 c1092 a1094 c1095 a1097 c1098 a1100 c1101 a1103 c1104 U1348 a1359 c1360 a1362 c1363 a1365 c1366 a1368 c1369 a1371 c1372 g489 g320 k1481
              obtain ⟨q1482, q1483, q1484, q1485, q1486, q1487, q1488, q1489, q1490, q1491, q1492, q1493, q1494, q1495, q1496, q1497, q1498, q1499, q1500, q1501, q1502, q1503, q1504⟩ := k1481
              have Kk1505 := Lib.hid q1482
              have HU652 := Lib.hid q1483
              have HU1348 := Lib.hid q1484
              have HL1506 := Lib.hid q1485
              have HL1507 := Lib.hid q1486
              have HL1508 := Lib.hid q1487
              have HL1509 := Lib.hid q1488
              have HL1510 := Lib.hid q1489
              have HL1511 := Lib.hid q1490
              have HL1512 := Lib.hid q1491
              have HL1513 := Lib.hid q1492
              have HL1514 := Lib.hid q1493
              have HL1515 := Lib.hid q1494
              have HX1516 := Lib.hid q1495
              have HX1517 := Lib.hid q1496
              have HG1518 := Lib.hid q1497
              have HP1519 := Lib.hid q1498
              have HD1520 := Lib.hid q1499
              have HG1521 := Lib.hid q1500
              have HP1522 := Lib.hid q1501
              have HD1523 := Lib.hid q1502
              have AP1524 := Lib.hid q1503
              have XL1525 := Lib.hid q1504
              clear q1482 q1483 q1484 q1485 q1486 q1487 q1488 q1489 q1490 q1491 q1492 q1493 q1494 q1495 q1496 q1497 q1498 q1499 q1500 q1501 q1502 q1503 q1504
              have fi1526 : (U652.i == g.i) = true := by rw [← HU652.out]; exact beq_iff_eq.2 rfl
              have fi1527 : (U652.i != g.i) = false := by rw [← HU652.out]; exact bne_eq_false_iff_eq.2 rfl
              have fi1528 : (U1348.i == g.i) = true := by rw [← HU1348.out]; exact beq_iff_eq.2 rfl
              have fi1529 : (U1348.i != g.i) = false := by rw [← HU1348.out]; exact bne_eq_false_iff_eq.2 rfl
              have hHeld : SeesN W31 V0.heap.size w1345 := seesN_kept _ Kk1505.out
              refine wpAnyH_ready (rs := [10]) (by kernel_rfl) (by simp) ?_
              refine AllReadyH.cons (o := hetEndsr3_10) rfl (fun K hK => ?_) ?_
              · unfold hetEndsr3_10
                refine step_store_part rfl 51 (.tmp 5) (.tmp 33) rfl (g489) 0 #[.int .i64 U652.i, .int .i64 U652.a.k, .int .i64 U652.a.i, .int .i64 U652.a.j, .int .i64 U652.a.n, (.slice a663 U652.a.kids.length c664), .int .i64 U652.b.k, .int .i64 U652.b.i, .int .i64 U652.b.j, .int .i64 U652.b.n, (.slice a666 U652.b.kids.length c667), .int .i64 U652.x.k, .int .i64 U652.x.i, .int .i64 U652.x.j, .int .i64 U652.x.n, (.slice a669 U652.x.kids.length c670), .int .i64 U652.y.k, .int .i64 U652.y.i, .int .i64 U652.y.j, .int .i64 U652.y.n, (.slice a672 U652.y.kids.length c673), .int .i64 U652.h.k, .int .i64 U652.h.i, .int .i64 U652.h.j, .int .i64 U652.h.n, (.slice a675 U652.h.kids.length c676)] rfl rfl 51 (by kernel_rfl) (row_ok rfl) _ #[.int .i64 U652.i, .int .i64 U652.a.k, .int .i64 U652.a.i, .int .i64 U652.a.j, .int .i64 U652.a.n, (.slice a663 U652.a.kids.length c664), .int .i64 U652.b.k, .int .i64 U652.b.i, .int .i64 U652.b.j, .int .i64 U652.b.n, (.slice a666 U652.b.kids.length c667), .int .i64 U652.x.k, .int .i64 U652.x.i, .int .i64 U652.x.j, .int .i64 U652.x.n, (.slice a669 U652.x.kids.length c670), .int .i64 U652.y.k, .int .i64 U652.y.i, .int .i64 U652.y.j, .int .i64 U652.y.n, (.slice a672 U652.y.kids.length c673), .int .i64 U652.h.k, .int .i64 U652.h.i, .int .i64 U652.h.j, .int .i64 U652.h.n, (.slice a675 U652.h.kids.length c676)] HX1516.out rfl (Nat.le_of_ble_eq_true rfl) ?_
                intro W1530 hW1530
                have KB1531 := Lib.hid (kept_set (kept_trans Kk5.out (kept_trans Kk12.out (kept_trans Kk17.out (kept_trans Kk22.out (kept_trans Kk28.out (kept_trans Kk34.out Kk1505.out)))))) hW1530 (by have := HG1518.out; have := Z0.out; omega))
                have KB1532 := Lib.hid (kept_set (kept_trans Kk12.out (kept_trans Kk17.out (kept_trans Kk22.out (kept_trans Kk28.out (kept_trans Kk34.out Kk1505.out))))) hW1530 HG1518.out)
                have KB1533 := Lib.hid (kept_set Kk1505.out hW1530 HD1520.out)
                have HL1534 : Hid (LiesQ W1530 (Par w V0.heap.size (g320 :: (g489 :: [])) P) g.a.kids _) := par_set (par_grow HLga.out (kept_trans Kk12.out (kept_trans Kk17.out (kept_trans Kk22.out (kept_trans Kk28.out (kept_trans Kk34.out Kk1505.out))))) (List.forall_mem_cons.2 ⟨(Or.inr (Nat.le_trans (Below.size (kept_trans Kk12.out (kept_trans Kk17.out (kept_trans Kk22.out (kept_trans Kk28.out Kk34.out))))) HP1522.out)), (List.forall_mem_cons.2 ⟨(Or.inr (Nat.le_trans (Below.size (kept_trans Kk12.out (kept_trans Kk17.out (kept_trans Kk22.out (kept_trans Kk28.out Kk34.out))))) HP1519.out)), (fun _ h => nomatch h)⟩)⟩)) hW1530 (List.mem_cons_of_mem _ (List.mem_cons_self ..)) (by have := HG1518.out; have := Z0.out; omega)
                have HL1535 : Hid (LiesQ W1530 (Par w V0.heap.size (g320 :: (g489 :: [])) P) g.b.kids _) := par_set (par_grow HLgb.out (kept_trans Kk12.out (kept_trans Kk17.out (kept_trans Kk22.out (kept_trans Kk28.out (kept_trans Kk34.out Kk1505.out))))) (List.forall_mem_cons.2 ⟨(Or.inr (Nat.le_trans (Below.size (kept_trans Kk12.out (kept_trans Kk17.out (kept_trans Kk22.out (kept_trans Kk28.out Kk34.out))))) HP1522.out)), (List.forall_mem_cons.2 ⟨(Or.inr (Nat.le_trans (Below.size (kept_trans Kk12.out (kept_trans Kk17.out (kept_trans Kk22.out (kept_trans Kk28.out Kk34.out))))) HP1519.out)), (fun _ h => nomatch h)⟩)⟩)) hW1530 (List.mem_cons_of_mem _ (List.mem_cons_self ..)) (by have := HG1518.out; have := Z0.out; omega)
                have HL1536 : Hid (LiesQ W1530 (Par w V0.heap.size (g320 :: (g489 :: [])) P) g.x.kids _) := par_set (par_grow HLgx.out (kept_trans Kk12.out (kept_trans Kk17.out (kept_trans Kk22.out (kept_trans Kk28.out (kept_trans Kk34.out Kk1505.out))))) (List.forall_mem_cons.2 ⟨(Or.inr (Nat.le_trans (Below.size (kept_trans Kk12.out (kept_trans Kk17.out (kept_trans Kk22.out (kept_trans Kk28.out Kk34.out))))) HP1522.out)), (List.forall_mem_cons.2 ⟨(Or.inr (Nat.le_trans (Below.size (kept_trans Kk12.out (kept_trans Kk17.out (kept_trans Kk22.out (kept_trans Kk28.out Kk34.out))))) HP1519.out)), (fun _ h => nomatch h)⟩)⟩)) hW1530 (List.mem_cons_of_mem _ (List.mem_cons_self ..)) (by have := HG1518.out; have := Z0.out; omega)
                have HL1537 : Hid (LiesQ W1530 (Par w V0.heap.size (g320 :: (g489 :: [])) P) g.y.kids _) := par_set (par_grow HLgy.out (kept_trans Kk12.out (kept_trans Kk17.out (kept_trans Kk22.out (kept_trans Kk28.out (kept_trans Kk34.out Kk1505.out))))) (List.forall_mem_cons.2 ⟨(Or.inr (Nat.le_trans (Below.size (kept_trans Kk12.out (kept_trans Kk17.out (kept_trans Kk22.out (kept_trans Kk28.out Kk34.out))))) HP1522.out)), (List.forall_mem_cons.2 ⟨(Or.inr (Nat.le_trans (Below.size (kept_trans Kk12.out (kept_trans Kk17.out (kept_trans Kk22.out (kept_trans Kk28.out Kk34.out))))) HP1519.out)), (fun _ h => nomatch h)⟩)⟩)) hW1530 (List.mem_cons_of_mem _ (List.mem_cons_self ..)) (by have := HG1518.out; have := Z0.out; omega)
                have HL1538 : Hid (LiesQ W1530 (Par w V0.heap.size (g320 :: (g489 :: [])) P) g.h.kids _) := par_set (par_grow HLgh.out (kept_trans Kk12.out (kept_trans Kk17.out (kept_trans Kk22.out (kept_trans Kk28.out (kept_trans Kk34.out Kk1505.out))))) (List.forall_mem_cons.2 ⟨(Or.inr (Nat.le_trans (Below.size (kept_trans Kk12.out (kept_trans Kk17.out (kept_trans Kk22.out (kept_trans Kk28.out Kk34.out))))) HP1522.out)), (List.forall_mem_cons.2 ⟨(Or.inr (Nat.le_trans (Below.size (kept_trans Kk12.out (kept_trans Kk17.out (kept_trans Kk22.out (kept_trans Kk28.out Kk34.out))))) HP1519.out)), (fun _ h => nomatch h)⟩)⟩)) hW1530 (List.mem_cons_of_mem _ (List.mem_cons_self ..)) (by have := HG1518.out; have := Z0.out; omega)
                have HL1539 : Hid (LiesQ W1530 (Par w V0.heap.size (g320 :: (g489 :: [])) P) h.a.kids _) := par_set (par_grow HLha.out (kept_trans Kk12.out (kept_trans Kk17.out (kept_trans Kk22.out (kept_trans Kk28.out (kept_trans Kk34.out Kk1505.out))))) (List.forall_mem_cons.2 ⟨(Or.inr (Nat.le_trans (Below.size (kept_trans Kk12.out (kept_trans Kk17.out (kept_trans Kk22.out (kept_trans Kk28.out Kk34.out))))) HP1522.out)), (List.forall_mem_cons.2 ⟨(Or.inr (Nat.le_trans (Below.size (kept_trans Kk12.out (kept_trans Kk17.out (kept_trans Kk22.out (kept_trans Kk28.out Kk34.out))))) HP1519.out)), (fun _ h => nomatch h)⟩)⟩)) hW1530 (List.mem_cons_of_mem _ (List.mem_cons_self ..)) (by have := HG1518.out; have := Z0.out; omega)
                have HL1540 : Hid (LiesQ W1530 (Par w V0.heap.size (g320 :: (g489 :: [])) P) h.b.kids _) := par_set (par_grow HLhb.out (kept_trans Kk12.out (kept_trans Kk17.out (kept_trans Kk22.out (kept_trans Kk28.out (kept_trans Kk34.out Kk1505.out))))) (List.forall_mem_cons.2 ⟨(Or.inr (Nat.le_trans (Below.size (kept_trans Kk12.out (kept_trans Kk17.out (kept_trans Kk22.out (kept_trans Kk28.out Kk34.out))))) HP1522.out)), (List.forall_mem_cons.2 ⟨(Or.inr (Nat.le_trans (Below.size (kept_trans Kk12.out (kept_trans Kk17.out (kept_trans Kk22.out (kept_trans Kk28.out Kk34.out))))) HP1519.out)), (fun _ h => nomatch h)⟩)⟩)) hW1530 (List.mem_cons_of_mem _ (List.mem_cons_self ..)) (by have := HG1518.out; have := Z0.out; omega)
                have HL1541 : Hid (LiesQ W1530 (Par w V0.heap.size (g320 :: (g489 :: [])) P) h.x.kids _) := par_set (par_grow HLhx.out (kept_trans Kk12.out (kept_trans Kk17.out (kept_trans Kk22.out (kept_trans Kk28.out (kept_trans Kk34.out Kk1505.out))))) (List.forall_mem_cons.2 ⟨(Or.inr (Nat.le_trans (Below.size (kept_trans Kk12.out (kept_trans Kk17.out (kept_trans Kk22.out (kept_trans Kk28.out Kk34.out))))) HP1522.out)), (List.forall_mem_cons.2 ⟨(Or.inr (Nat.le_trans (Below.size (kept_trans Kk12.out (kept_trans Kk17.out (kept_trans Kk22.out (kept_trans Kk28.out Kk34.out))))) HP1519.out)), (fun _ h => nomatch h)⟩)⟩)) hW1530 (List.mem_cons_of_mem _ (List.mem_cons_self ..)) (by have := HG1518.out; have := Z0.out; omega)
                have HL1542 : Hid (LiesQ W1530 (Par w V0.heap.size (g320 :: (g489 :: [])) P) h.y.kids _) := par_set (par_grow HLhy.out (kept_trans Kk12.out (kept_trans Kk17.out (kept_trans Kk22.out (kept_trans Kk28.out (kept_trans Kk34.out Kk1505.out))))) (List.forall_mem_cons.2 ⟨(Or.inr (Nat.le_trans (Below.size (kept_trans Kk12.out (kept_trans Kk17.out (kept_trans Kk22.out (kept_trans Kk28.out Kk34.out))))) HP1522.out)), (List.forall_mem_cons.2 ⟨(Or.inr (Nat.le_trans (Below.size (kept_trans Kk12.out (kept_trans Kk17.out (kept_trans Kk22.out (kept_trans Kk28.out Kk34.out))))) HP1519.out)), (fun _ h => nomatch h)⟩)⟩)) hW1530 (List.mem_cons_of_mem _ (List.mem_cons_self ..)) (by have := HG1518.out; have := Z0.out; omega)
                have HL1543 : Hid (LiesQ W1530 (Par w V0.heap.size (g320 :: (g489 :: [])) P) h.h.kids _) := par_set (par_grow HLhh.out (kept_trans Kk12.out (kept_trans Kk17.out (kept_trans Kk22.out (kept_trans Kk28.out (kept_trans Kk34.out Kk1505.out))))) (List.forall_mem_cons.2 ⟨(Or.inr (Nat.le_trans (Below.size (kept_trans Kk12.out (kept_trans Kk17.out (kept_trans Kk22.out (kept_trans Kk28.out Kk34.out))))) HP1522.out)), (List.forall_mem_cons.2 ⟨(Or.inr (Nat.le_trans (Below.size (kept_trans Kk12.out (kept_trans Kk17.out (kept_trans Kk22.out (kept_trans Kk28.out Kk34.out))))) HP1519.out)), (fun _ h => nomatch h)⟩)⟩)) hW1530 (List.mem_cons_of_mem _ (List.mem_cons_self ..)) (by have := HG1518.out; have := Z0.out; omega)
                have HL1544 : Hid (LiesQ W1530 (Par w V0.heap.size (g320 :: (g489 :: [])) P) U652.a.kids _) := par_set HL1506.out hW1530 (List.mem_cons_of_mem _ (List.mem_cons_self ..)) (by have := HG1518.out; have := Z0.out; omega)
                have HL1545 : Hid (LiesQ W1530 (Par w V0.heap.size (g320 :: (g489 :: [])) P) U652.b.kids _) := par_set HL1507.out hW1530 (List.mem_cons_of_mem _ (List.mem_cons_self ..)) (by have := HG1518.out; have := Z0.out; omega)
                have HL1546 : Hid (LiesQ W1530 (Par w V0.heap.size (g320 :: (g489 :: [])) P) U652.x.kids _) := par_set HL1508.out hW1530 (List.mem_cons_of_mem _ (List.mem_cons_self ..)) (by have := HG1518.out; have := Z0.out; omega)
                have HL1547 : Hid (LiesQ W1530 (Par w V0.heap.size (g320 :: (g489 :: [])) P) U652.y.kids _) := par_set HL1509.out hW1530 (List.mem_cons_of_mem _ (List.mem_cons_self ..)) (by have := HG1518.out; have := Z0.out; omega)
                have HL1548 : Hid (LiesQ W1530 (Par w V0.heap.size (g320 :: (g489 :: [])) P) U652.h.kids _) := par_set HL1510.out hW1530 (List.mem_cons_of_mem _ (List.mem_cons_self ..)) (by have := HG1518.out; have := Z0.out; omega)
                have HL1549 : Hid (LiesQ W1530 (Par w V0.heap.size (g320 :: (g489 :: [])) P) U1348.a.kids _) := par_set HL1511.out hW1530 (List.mem_cons_of_mem _ (List.mem_cons_self ..)) (by have := HG1518.out; have := Z0.out; omega)
                have HL1550 : Hid (LiesQ W1530 (Par w V0.heap.size (g320 :: (g489 :: [])) P) U1348.b.kids _) := par_set HL1512.out hW1530 (List.mem_cons_of_mem _ (List.mem_cons_self ..)) (by have := HG1518.out; have := Z0.out; omega)
                have HL1551 : Hid (LiesQ W1530 (Par w V0.heap.size (g320 :: (g489 :: [])) P) U1348.x.kids _) := par_set HL1513.out hW1530 (List.mem_cons_of_mem _ (List.mem_cons_self ..)) (by have := HG1518.out; have := Z0.out; omega)
                have HL1552 : Hid (LiesQ W1530 (Par w V0.heap.size (g320 :: (g489 :: [])) P) U1348.y.kids _) := par_set HL1514.out hW1530 (List.mem_cons_of_mem _ (List.mem_cons_self ..)) (by have := HG1518.out; have := Z0.out; omega)
                have HL1553 : Hid (LiesQ W1530 (Par w V0.heap.size (g320 :: (g489 :: [])) P) U1348.h.kids _) := par_set HL1515.out hW1530 (List.mem_cons_of_mem _ (List.mem_cons_self ..)) (by have := HG1518.out; have := Z0.out; omega)
                have XL1554 := Lib.hid (xlt_set XL1525.out hW1530)
                have HX1555 := Lib.hid (blk_other HX1517.out hW1530 (by have := AP1524.out; omega))
                have HX1556 := Lib.hid (blk_same HX1516.out hW1530)
                clear hW1530
                have ld1557 := partN_cell (r := V0.heap.size) HX1555.out trivial 0 (.int .i64 0) rfl
                have ld1558 := partN_cell (r := V0.heap.size) HX1556.out trivial 0 (.int .i64 U652.i) rfl
                clear hHeld
                refine hK.out _ _ ?_ (fun hHeld => ?_)
                · (try dsimp only)
                  exact seesN_kept _ KB1533.out
                clear hK K
                (try simp only [Act.put])
                refine wpAnyH_ready (rs := [11]) (by kernel_rfl) (by simp) ?_
                refine AllReadyH.cons (o := hetEndsr3_11) rfl (fun K hK => ?_) ?_
                · unfold hetEndsr3_11
                  refine step_store_part rfl 51 (.tmp 6) (.tmp 38) rfl (g320) 0 #[.int .i64 U1348.i, .int .i64 U1348.a.k, .int .i64 U1348.a.i, .int .i64 U1348.a.j, .int .i64 U1348.a.n, (.slice a1359 U1348.a.kids.length c1360), .int .i64 U1348.b.k, .int .i64 U1348.b.i, .int .i64 U1348.b.j, .int .i64 U1348.b.n, (.slice a1362 U1348.b.kids.length c1363), .int .i64 U1348.x.k, .int .i64 U1348.x.i, .int .i64 U1348.x.j, .int .i64 U1348.x.n, (.slice a1365 U1348.x.kids.length c1366), .int .i64 U1348.y.k, .int .i64 U1348.y.i, .int .i64 U1348.y.j, .int .i64 U1348.y.n, (.slice a1368 U1348.y.kids.length c1369), .int .i64 U1348.h.k, .int .i64 U1348.h.i, .int .i64 U1348.h.j, .int .i64 U1348.h.n, (.slice a1371 U1348.h.kids.length c1372)] rfl rfl 51 (by kernel_rfl) (row_ok rfl) _ #[.int .i64 U1348.i, .int .i64 U1348.a.k, .int .i64 U1348.a.i, .int .i64 U1348.a.j, .int .i64 U1348.a.n, (.slice a1359 U1348.a.kids.length c1360), .int .i64 U1348.b.k, .int .i64 U1348.b.i, .int .i64 U1348.b.j, .int .i64 U1348.b.n, (.slice a1362 U1348.b.kids.length c1363), .int .i64 U1348.x.k, .int .i64 U1348.x.i, .int .i64 U1348.x.j, .int .i64 U1348.x.n, (.slice a1365 U1348.x.kids.length c1366), .int .i64 U1348.y.k, .int .i64 U1348.y.i, .int .i64 U1348.y.j, .int .i64 U1348.y.n, (.slice a1368 U1348.y.kids.length c1369), .int .i64 U1348.h.k, .int .i64 U1348.h.i, .int .i64 U1348.h.j, .int .i64 U1348.h.n, (.slice a1371 U1348.h.kids.length c1372)] HX1555.out rfl (Nat.le_of_ble_eq_true rfl) ?_
                  intro W1559 hW1559
                  have KB1560 := Lib.hid (kept_set KB1531.out hW1559 (by have := HG1521.out; have := Z0.out; omega))
                  have KB1561 := Lib.hid (kept_set KB1532.out hW1559 HG1521.out)
                  have KB1562 := Lib.hid (kept_set KB1533.out hW1559 HD1523.out)
                  have HL1563 : Hid (LiesQ W1559 (Par w V0.heap.size (g320 :: (g489 :: [])) P) g.a.kids _) := par_set HL1534.out hW1559 (List.mem_cons_self ..) (by have := HG1521.out; have := Z0.out; omega)
                  have HL1564 : Hid (LiesQ W1559 (Par w V0.heap.size (g320 :: (g489 :: [])) P) g.b.kids _) := par_set HL1535.out hW1559 (List.mem_cons_self ..) (by have := HG1521.out; have := Z0.out; omega)
                  have HL1565 : Hid (LiesQ W1559 (Par w V0.heap.size (g320 :: (g489 :: [])) P) g.x.kids _) := par_set HL1536.out hW1559 (List.mem_cons_self ..) (by have := HG1521.out; have := Z0.out; omega)
                  have HL1566 : Hid (LiesQ W1559 (Par w V0.heap.size (g320 :: (g489 :: [])) P) g.y.kids _) := par_set HL1537.out hW1559 (List.mem_cons_self ..) (by have := HG1521.out; have := Z0.out; omega)
                  have HL1567 : Hid (LiesQ W1559 (Par w V0.heap.size (g320 :: (g489 :: [])) P) g.h.kids _) := par_set HL1538.out hW1559 (List.mem_cons_self ..) (by have := HG1521.out; have := Z0.out; omega)
                  have HL1568 : Hid (LiesQ W1559 (Par w V0.heap.size (g320 :: (g489 :: [])) P) h.a.kids _) := par_set HL1539.out hW1559 (List.mem_cons_self ..) (by have := HG1521.out; have := Z0.out; omega)
                  have HL1569 : Hid (LiesQ W1559 (Par w V0.heap.size (g320 :: (g489 :: [])) P) h.b.kids _) := par_set HL1540.out hW1559 (List.mem_cons_self ..) (by have := HG1521.out; have := Z0.out; omega)
                  have HL1570 : Hid (LiesQ W1559 (Par w V0.heap.size (g320 :: (g489 :: [])) P) h.x.kids _) := par_set HL1541.out hW1559 (List.mem_cons_self ..) (by have := HG1521.out; have := Z0.out; omega)
                  have HL1571 : Hid (LiesQ W1559 (Par w V0.heap.size (g320 :: (g489 :: [])) P) h.y.kids _) := par_set HL1542.out hW1559 (List.mem_cons_self ..) (by have := HG1521.out; have := Z0.out; omega)
                  have HL1572 : Hid (LiesQ W1559 (Par w V0.heap.size (g320 :: (g489 :: [])) P) h.h.kids _) := par_set HL1543.out hW1559 (List.mem_cons_self ..) (by have := HG1521.out; have := Z0.out; omega)
                  have HL1573 : Hid (LiesQ W1559 (Par w V0.heap.size (g320 :: (g489 :: [])) P) U652.a.kids _) := par_set HL1544.out hW1559 (List.mem_cons_self ..) (by have := HG1521.out; have := Z0.out; omega)
                  have HL1574 : Hid (LiesQ W1559 (Par w V0.heap.size (g320 :: (g489 :: [])) P) U652.b.kids _) := par_set HL1545.out hW1559 (List.mem_cons_self ..) (by have := HG1521.out; have := Z0.out; omega)
                  have HL1575 : Hid (LiesQ W1559 (Par w V0.heap.size (g320 :: (g489 :: [])) P) U652.x.kids _) := par_set HL1546.out hW1559 (List.mem_cons_self ..) (by have := HG1521.out; have := Z0.out; omega)
                  have HL1576 : Hid (LiesQ W1559 (Par w V0.heap.size (g320 :: (g489 :: [])) P) U652.y.kids _) := par_set HL1547.out hW1559 (List.mem_cons_self ..) (by have := HG1521.out; have := Z0.out; omega)
                  have HL1577 : Hid (LiesQ W1559 (Par w V0.heap.size (g320 :: (g489 :: [])) P) U652.h.kids _) := par_set HL1548.out hW1559 (List.mem_cons_self ..) (by have := HG1521.out; have := Z0.out; omega)
                  have HL1578 : Hid (LiesQ W1559 (Par w V0.heap.size (g320 :: (g489 :: [])) P) U1348.a.kids _) := par_set HL1549.out hW1559 (List.mem_cons_self ..) (by have := HG1521.out; have := Z0.out; omega)
                  have HL1579 : Hid (LiesQ W1559 (Par w V0.heap.size (g320 :: (g489 :: [])) P) U1348.b.kids _) := par_set HL1550.out hW1559 (List.mem_cons_self ..) (by have := HG1521.out; have := Z0.out; omega)
                  have HL1580 : Hid (LiesQ W1559 (Par w V0.heap.size (g320 :: (g489 :: [])) P) U1348.x.kids _) := par_set HL1551.out hW1559 (List.mem_cons_self ..) (by have := HG1521.out; have := Z0.out; omega)
                  have HL1581 : Hid (LiesQ W1559 (Par w V0.heap.size (g320 :: (g489 :: [])) P) U1348.y.kids _) := par_set HL1552.out hW1559 (List.mem_cons_self ..) (by have := HG1521.out; have := Z0.out; omega)
                  have HL1582 : Hid (LiesQ W1559 (Par w V0.heap.size (g320 :: (g489 :: [])) P) U1348.h.kids _) := par_set HL1553.out hW1559 (List.mem_cons_self ..) (by have := HG1521.out; have := Z0.out; omega)
                  have XL1583 := Lib.hid (xlt_set XL1554.out hW1559)
                  have HX1584 := Lib.hid (blk_same HX1555.out hW1559)
                  have HX1585 := Lib.hid (blk_other HX1556.out hW1559 (by have := AP1524.out; omega))
                  (try clear ld1557)
                  (try clear ld1558)
                  clear hW1559
                  have ld1586 := partN_cell (r := V0.heap.size) HX1584.out trivial 0 (.int .i64 U1348.i) rfl
                  have ld1587 := partN_cell (r := V0.heap.size) HX1585.out trivial 0 (.int .i64 U652.i) rfl
                  clear hHeld
                  refine hK.out _ _ ?_ (fun hHeld => ?_)
                  · (try dsimp only)
                    exact seesN_kept _ KB1562.out
                  clear hK K
                  (try simp only [Act.put])
                  refine wpAnyH_done (by kernel_rfl) ?_ _
                  clear hHeld
                  have kvV0 : SeesN V0 V0.heap.size W1559 := seesN_kept _ KB1561.out
                  have kvW1559 : SeesN W1559 V0.heap.size W1559 := seesN_kept _ (kept_refl _)
                  go_wp2_with (refine stop_load 51 (.tmp 5) rfl ?_)
                  intro _
                  refine wpList_load_part (g489) 0 51 (.tmp 5) #[.int .i64 U652.i, .int .i64 U652.a.k, .int .i64 U652.a.i, .int .i64 U652.a.j, .int .i64 U652.a.n, (.slice a663 U652.a.kids.length c664), .int .i64 U652.b.k, .int .i64 U652.b.i, .int .i64 U652.b.j, .int .i64 U652.b.n, (.slice a666 U652.b.kids.length c667), .int .i64 U652.x.k, .int .i64 U652.x.i, .int .i64 U652.x.j, .int .i64 U652.x.n, (.slice a669 U652.x.kids.length c670), .int .i64 U652.y.k, .int .i64 U652.y.i, .int .i64 U652.y.j, .int .i64 U652.y.n, (.slice a672 U652.y.kids.length c673), .int .i64 U652.h.k, .int .i64 U652.h.i, .int .i64 U652.h.j, .int .i64 U652.h.n, (.slice a675 U652.h.kids.length c676)] dh HX1585.out (by rfl) rfl (by rfl) (by rfl) dh1 (by cases dh <;> first | rfl | exact dh2) (by kernel_rfl) ?_
                  go_wp2_with fail
                  clear kvV0
                  clear kvW1559
                  have hq1590 := hturn_any U652 (Par w V0.heap.size (g320 :: (g489 :: [])) P) W1559 (.slice a663 U652.a.kids.length c664) (.slice a666 U652.b.kids.length c667) (.slice a669 U652.x.kids.length c670) (.slice a672 U652.y.kids.length c673) (.slice a675 U652.h.kids.length c676) ⟨(by rw [← HU652.out]; exact ((turned_fine Gg.out Hhb20.out)).1), (by rw [← HU652.out]; exact ((turned_fine Gg.out Hhb20.out)).2.1), (by rw [← HU652.out]; exact ((turned_fine Gg.out Hhb20.out)).2.2.1), (by rw [← HU652.out]; exact ((turned_fine Gg.out Hhb20.out)).2.2.2.1), (by rw [← HU652.out]; exact ((turned_fine Gg.out Hhb20.out)).2.2.2.2.1), (by rw [← HU652.out]; exact ((turned_fine Gg.out Hhb20.out)).2.2.2.2.2)⟩ ⟨HL1573.out, HL1574.out, HL1575.out, HL1576.out, HL1577.out⟩
                  rw [show heTurn U652 = turned (turned g) from by rw [← HU652.out]; exact turn_good (turned_right Hhb20.out)] at hq1590
                  refine hq1590.mono ?_
                  clear hq1590
                  obtain ⟨U1591, hU1591⟩ : ∃ qu, turned (turned g) = qu := ⟨_, rfl⟩
                  rw [hU1591]
                  have HU1591 := Lib.hid hU1591
                  clear hU1591
                  rintro e w1588 ⟨s1592, s1593, s1594, s1595, s1596, rfl, ⟨hl1597, hl1598, hl1599, hl1600, hl1601⟩, k1589⟩
                  obtain ⟨a1602, c1603, S1604, rfl, -⟩ := hl1597.out
                  obtain ⟨a1605, c1606, S1607, rfl, -⟩ := hl1598.out
                  obtain ⟨a1608, c1609, S1610, rfl, -⟩ := hl1599.out
                  obtain ⟨a1611, c1612, S1613, rfl, -⟩ := hl1600.out
                  obtain ⟨a1614, c1615, S1616, rfl, -⟩ := hl1601.out
                  have Kk1617 := Lib.hid k1589
                  clear k1589
                  have Hhl1597 : Hid (LiesQ w1588 (Par w V0.heap.size (g320 :: (g489 :: [])) P) U1591.a.kids _) := par_give hl1597 (Below.size KB1561.out) XL1583.out
                  have Hhl1598 : Hid (LiesQ w1588 (Par w V0.heap.size (g320 :: (g489 :: [])) P) U1591.b.kids _) := par_give hl1598 (Below.size KB1561.out) XL1583.out
                  have Hhl1599 : Hid (LiesQ w1588 (Par w V0.heap.size (g320 :: (g489 :: [])) P) U1591.x.kids _) := par_give hl1599 (Below.size KB1561.out) XL1583.out
                  have Hhl1600 : Hid (LiesQ w1588 (Par w V0.heap.size (g320 :: (g489 :: [])) P) U1591.y.kids _) := par_give hl1600 (Below.size KB1561.out) XL1583.out
                  have Hhl1601 : Hid (LiesQ w1588 (Par w V0.heap.size (g320 :: (g489 :: [])) P) U1591.h.kids _) := par_give hl1601 (Below.size KB1561.out) XL1583.out
                  clear hl1597 hl1598 hl1599 hl1600 hl1601
                  have fi1618 : (U1591.i == g.i) = true := by rw [← HU1591.out]; exact beq_iff_eq.2 rfl
                  have fi1619 : (U1591.i != g.i) = false := by rw [← HU1591.out]; exact bne_eq_false_iff_eq.2 rfl
                  have kvV0 : SeesN V0 V0.heap.size w1588 := seesN_kept _ (kept_trans KB1561.out Kk1617.out)
                  have kvW1559 : SeesN W1559 V0.heap.size w1588 := seesN_kept _ Kk1617.out
                  go_wp2_with (refine stop_store 51 (.tmp 7) (.tmp 40) rfl ?_)
                  intro _
                  refine wpList_store_part_n (by rfl) 51 (.tmp 7) (.tmp 40) rfl (w1588.heap.size) 0 #[.int .i64 U1591.i, .int .i64 U1591.a.k, .int .i64 U1591.a.i, .int .i64 U1591.a.j, .int .i64 U1591.a.n, (.slice a1602 U1591.a.kids.length c1603), .int .i64 U1591.b.k, .int .i64 U1591.b.i, .int .i64 U1591.b.j, .int .i64 U1591.b.n, (.slice a1605 U1591.b.kids.length c1606), .int .i64 U1591.x.k, .int .i64 U1591.x.i, .int .i64 U1591.x.j, .int .i64 U1591.x.n, (.slice a1608 U1591.x.kids.length c1609), .int .i64 U1591.y.k, .int .i64 U1591.y.i, .int .i64 U1591.y.j, .int .i64 U1591.y.n, (.slice a1611 U1591.y.kids.length c1612), .int .i64 U1591.h.k, .int .i64 U1591.h.i, .int .i64 U1591.h.j, .int .i64 U1591.h.n, (.slice a1614 U1591.h.kids.length c1615)] (by rfl) (by rfl) 51 (by kernel_rfl) (row_ok rfl) ?_
                  intro W1620 hW1620
                  clear kvV0
                  clear kvW1559
                  obtain ⟨k1623, x1622, z1624⟩ := alloc1 hW1620
                  have Kk1625 := Lib.hid k1623
                  clear k1623
                  have Hx1622 := Lib.hid x1622
                  have Hz1624 := Lib.hid z1624
                  clear x1622 z1624 hW1620
                  have HG1626 : Hid (V0.heap.size ≤ w1588.heap.size) := (Below.size (kept_trans KB1561.out Kk1617.out))
                  have AP1627 : Hid (g320 < w1588.heap.size) := block_lt (blk_at HX1584.out Kk1617.out)
                  have AP1628 : Hid (g489 < w1588.heap.size) := block_lt (blk_at HX1585.out Kk1617.out)
                  have XL1629 : Hid (XLt (w1588.heap.size :: (g320 :: (g489 :: []))) W1620) := (xlt_more (xlt_later XL1583.out Kk1617.out) Kk1625.out (by have := Hz1624.out; omega))
                  refine ⟨_, #[.int .i64 U1591.i, .int .i64 U1591.a.k, .int .i64 U1591.a.i, .int .i64 U1591.a.j, .int .i64 U1591.a.n, (.slice a1602 U1591.a.kids.length c1603), .int .i64 U1591.b.k, .int .i64 U1591.b.i, .int .i64 U1591.b.j, .int .i64 U1591.b.n, (.slice a1605 U1591.b.kids.length c1606), .int .i64 U1591.x.k, .int .i64 U1591.x.i, .int .i64 U1591.x.j, .int .i64 U1591.x.n, (.slice a1608 U1591.x.kids.length c1609), .int .i64 U1591.y.k, .int .i64 U1591.y.i, .int .i64 U1591.y.j, .int .i64 U1591.y.n, (.slice a1611 U1591.y.kids.length c1612), .int .i64 U1591.h.k, .int .i64 U1591.h.i, .int .i64 U1591.h.j, .int .i64 U1591.h.n, (.slice a1614 U1591.h.kids.length c1615)], Hx1622.out, rfl, Nat.le_of_ble_eq_true rfl, ?_⟩
                  intro W1621 hW1621
                  have KB1630 := Lib.hid (kept_set (kept_trans KB1560.out (kept_trans Kk1617.out Kk1625.out)) hW1621 (by have := HG1626.out; have := Z0.out; omega))
                  have KB1631 := Lib.hid (kept_set (kept_trans KB1561.out (kept_trans Kk1617.out Kk1625.out)) hW1621 HG1626.out)
                  have HL1632 : Hid (LiesQ W1621 (Par w V0.heap.size (w1588.heap.size :: (g320 :: (g489 :: []))) P) g.a.kids _) := par_set (par_grow HL1563.out (kept_trans Kk1617.out Kk1625.out) (List.forall_mem_cons.2 ⟨(Or.inr (Nat.le_trans (Below.size Kk1617.out) (Nat.le_refl w1588.heap.size))), (List.forall_mem_cons.2 ⟨(Or.inl (List.mem_cons_self ..)), (List.forall_mem_cons.2 ⟨(Or.inl (List.mem_cons_of_mem _ (List.mem_cons_self ..))), (fun _ h => nomatch h)⟩)⟩)⟩)) hW1621 (List.mem_cons_self ..) (by have := HG1626.out; have := Z0.out; omega)
                  have HL1633 : Hid (LiesQ W1621 (Par w V0.heap.size (w1588.heap.size :: (g320 :: (g489 :: []))) P) g.b.kids _) := par_set (par_grow HL1564.out (kept_trans Kk1617.out Kk1625.out) (List.forall_mem_cons.2 ⟨(Or.inr (Nat.le_trans (Below.size Kk1617.out) (Nat.le_refl w1588.heap.size))), (List.forall_mem_cons.2 ⟨(Or.inl (List.mem_cons_self ..)), (List.forall_mem_cons.2 ⟨(Or.inl (List.mem_cons_of_mem _ (List.mem_cons_self ..))), (fun _ h => nomatch h)⟩)⟩)⟩)) hW1621 (List.mem_cons_self ..) (by have := HG1626.out; have := Z0.out; omega)
                  have HL1634 : Hid (LiesQ W1621 (Par w V0.heap.size (w1588.heap.size :: (g320 :: (g489 :: []))) P) g.x.kids _) := par_set (par_grow HL1565.out (kept_trans Kk1617.out Kk1625.out) (List.forall_mem_cons.2 ⟨(Or.inr (Nat.le_trans (Below.size Kk1617.out) (Nat.le_refl w1588.heap.size))), (List.forall_mem_cons.2 ⟨(Or.inl (List.mem_cons_self ..)), (List.forall_mem_cons.2 ⟨(Or.inl (List.mem_cons_of_mem _ (List.mem_cons_self ..))), (fun _ h => nomatch h)⟩)⟩)⟩)) hW1621 (List.mem_cons_self ..) (by have := HG1626.out; have := Z0.out; omega)
                  have HL1635 : Hid (LiesQ W1621 (Par w V0.heap.size (w1588.heap.size :: (g320 :: (g489 :: []))) P) g.y.kids _) := par_set (par_grow HL1566.out (kept_trans Kk1617.out Kk1625.out) (List.forall_mem_cons.2 ⟨(Or.inr (Nat.le_trans (Below.size Kk1617.out) (Nat.le_refl w1588.heap.size))), (List.forall_mem_cons.2 ⟨(Or.inl (List.mem_cons_self ..)), (List.forall_mem_cons.2 ⟨(Or.inl (List.mem_cons_of_mem _ (List.mem_cons_self ..))), (fun _ h => nomatch h)⟩)⟩)⟩)) hW1621 (List.mem_cons_self ..) (by have := HG1626.out; have := Z0.out; omega)
                  have HL1636 : Hid (LiesQ W1621 (Par w V0.heap.size (w1588.heap.size :: (g320 :: (g489 :: []))) P) g.h.kids _) := par_set (par_grow HL1567.out (kept_trans Kk1617.out Kk1625.out) (List.forall_mem_cons.2 ⟨(Or.inr (Nat.le_trans (Below.size Kk1617.out) (Nat.le_refl w1588.heap.size))), (List.forall_mem_cons.2 ⟨(Or.inl (List.mem_cons_self ..)), (List.forall_mem_cons.2 ⟨(Or.inl (List.mem_cons_of_mem _ (List.mem_cons_self ..))), (fun _ h => nomatch h)⟩)⟩)⟩)) hW1621 (List.mem_cons_self ..) (by have := HG1626.out; have := Z0.out; omega)
                  have HL1637 : Hid (LiesQ W1621 (Par w V0.heap.size (w1588.heap.size :: (g320 :: (g489 :: []))) P) h.a.kids _) := par_set (par_grow HL1568.out (kept_trans Kk1617.out Kk1625.out) (List.forall_mem_cons.2 ⟨(Or.inr (Nat.le_trans (Below.size Kk1617.out) (Nat.le_refl w1588.heap.size))), (List.forall_mem_cons.2 ⟨(Or.inl (List.mem_cons_self ..)), (List.forall_mem_cons.2 ⟨(Or.inl (List.mem_cons_of_mem _ (List.mem_cons_self ..))), (fun _ h => nomatch h)⟩)⟩)⟩)) hW1621 (List.mem_cons_self ..) (by have := HG1626.out; have := Z0.out; omega)
                  have HL1638 : Hid (LiesQ W1621 (Par w V0.heap.size (w1588.heap.size :: (g320 :: (g489 :: []))) P) h.b.kids _) := par_set (par_grow HL1569.out (kept_trans Kk1617.out Kk1625.out) (List.forall_mem_cons.2 ⟨(Or.inr (Nat.le_trans (Below.size Kk1617.out) (Nat.le_refl w1588.heap.size))), (List.forall_mem_cons.2 ⟨(Or.inl (List.mem_cons_self ..)), (List.forall_mem_cons.2 ⟨(Or.inl (List.mem_cons_of_mem _ (List.mem_cons_self ..))), (fun _ h => nomatch h)⟩)⟩)⟩)) hW1621 (List.mem_cons_self ..) (by have := HG1626.out; have := Z0.out; omega)
                  have HL1639 : Hid (LiesQ W1621 (Par w V0.heap.size (w1588.heap.size :: (g320 :: (g489 :: []))) P) h.x.kids _) := par_set (par_grow HL1570.out (kept_trans Kk1617.out Kk1625.out) (List.forall_mem_cons.2 ⟨(Or.inr (Nat.le_trans (Below.size Kk1617.out) (Nat.le_refl w1588.heap.size))), (List.forall_mem_cons.2 ⟨(Or.inl (List.mem_cons_self ..)), (List.forall_mem_cons.2 ⟨(Or.inl (List.mem_cons_of_mem _ (List.mem_cons_self ..))), (fun _ h => nomatch h)⟩)⟩)⟩)) hW1621 (List.mem_cons_self ..) (by have := HG1626.out; have := Z0.out; omega)
                  have HL1640 : Hid (LiesQ W1621 (Par w V0.heap.size (w1588.heap.size :: (g320 :: (g489 :: []))) P) h.y.kids _) := par_set (par_grow HL1571.out (kept_trans Kk1617.out Kk1625.out) (List.forall_mem_cons.2 ⟨(Or.inr (Nat.le_trans (Below.size Kk1617.out) (Nat.le_refl w1588.heap.size))), (List.forall_mem_cons.2 ⟨(Or.inl (List.mem_cons_self ..)), (List.forall_mem_cons.2 ⟨(Or.inl (List.mem_cons_of_mem _ (List.mem_cons_self ..))), (fun _ h => nomatch h)⟩)⟩)⟩)) hW1621 (List.mem_cons_self ..) (by have := HG1626.out; have := Z0.out; omega)
                  have HL1641 : Hid (LiesQ W1621 (Par w V0.heap.size (w1588.heap.size :: (g320 :: (g489 :: []))) P) h.h.kids _) := par_set (par_grow HL1572.out (kept_trans Kk1617.out Kk1625.out) (List.forall_mem_cons.2 ⟨(Or.inr (Nat.le_trans (Below.size Kk1617.out) (Nat.le_refl w1588.heap.size))), (List.forall_mem_cons.2 ⟨(Or.inl (List.mem_cons_self ..)), (List.forall_mem_cons.2 ⟨(Or.inl (List.mem_cons_of_mem _ (List.mem_cons_self ..))), (fun _ h => nomatch h)⟩)⟩)⟩)) hW1621 (List.mem_cons_self ..) (by have := HG1626.out; have := Z0.out; omega)
                  have HL1642 : Hid (LiesQ W1621 (Par w V0.heap.size (w1588.heap.size :: (g320 :: (g489 :: []))) P) U652.a.kids _) := par_set (par_grow HL1573.out (kept_trans Kk1617.out Kk1625.out) (List.forall_mem_cons.2 ⟨(Or.inr (Nat.le_trans (Below.size Kk1617.out) (Nat.le_refl w1588.heap.size))), (List.forall_mem_cons.2 ⟨(Or.inl (List.mem_cons_self ..)), (List.forall_mem_cons.2 ⟨(Or.inl (List.mem_cons_of_mem _ (List.mem_cons_self ..))), (fun _ h => nomatch h)⟩)⟩)⟩)) hW1621 (List.mem_cons_self ..) (by have := HG1626.out; have := Z0.out; omega)
                  have HL1643 : Hid (LiesQ W1621 (Par w V0.heap.size (w1588.heap.size :: (g320 :: (g489 :: []))) P) U652.b.kids _) := par_set (par_grow HL1574.out (kept_trans Kk1617.out Kk1625.out) (List.forall_mem_cons.2 ⟨(Or.inr (Nat.le_trans (Below.size Kk1617.out) (Nat.le_refl w1588.heap.size))), (List.forall_mem_cons.2 ⟨(Or.inl (List.mem_cons_self ..)), (List.forall_mem_cons.2 ⟨(Or.inl (List.mem_cons_of_mem _ (List.mem_cons_self ..))), (fun _ h => nomatch h)⟩)⟩)⟩)) hW1621 (List.mem_cons_self ..) (by have := HG1626.out; have := Z0.out; omega)
                  have HL1644 : Hid (LiesQ W1621 (Par w V0.heap.size (w1588.heap.size :: (g320 :: (g489 :: []))) P) U652.x.kids _) := par_set (par_grow HL1575.out (kept_trans Kk1617.out Kk1625.out) (List.forall_mem_cons.2 ⟨(Or.inr (Nat.le_trans (Below.size Kk1617.out) (Nat.le_refl w1588.heap.size))), (List.forall_mem_cons.2 ⟨(Or.inl (List.mem_cons_self ..)), (List.forall_mem_cons.2 ⟨(Or.inl (List.mem_cons_of_mem _ (List.mem_cons_self ..))), (fun _ h => nomatch h)⟩)⟩)⟩)) hW1621 (List.mem_cons_self ..) (by have := HG1626.out; have := Z0.out; omega)
                  have HL1645 : Hid (LiesQ W1621 (Par w V0.heap.size (w1588.heap.size :: (g320 :: (g489 :: []))) P) U652.y.kids _) := par_set (par_grow HL1576.out (kept_trans Kk1617.out Kk1625.out) (List.forall_mem_cons.2 ⟨(Or.inr (Nat.le_trans (Below.size Kk1617.out) (Nat.le_refl w1588.heap.size))), (List.forall_mem_cons.2 ⟨(Or.inl (List.mem_cons_self ..)), (List.forall_mem_cons.2 ⟨(Or.inl (List.mem_cons_of_mem _ (List.mem_cons_self ..))), (fun _ h => nomatch h)⟩)⟩)⟩)) hW1621 (List.mem_cons_self ..) (by have := HG1626.out; have := Z0.out; omega)
                  have HL1646 : Hid (LiesQ W1621 (Par w V0.heap.size (w1588.heap.size :: (g320 :: (g489 :: []))) P) U652.h.kids _) := par_set (par_grow HL1577.out (kept_trans Kk1617.out Kk1625.out) (List.forall_mem_cons.2 ⟨(Or.inr (Nat.le_trans (Below.size Kk1617.out) (Nat.le_refl w1588.heap.size))), (List.forall_mem_cons.2 ⟨(Or.inl (List.mem_cons_self ..)), (List.forall_mem_cons.2 ⟨(Or.inl (List.mem_cons_of_mem _ (List.mem_cons_self ..))), (fun _ h => nomatch h)⟩)⟩)⟩)) hW1621 (List.mem_cons_self ..) (by have := HG1626.out; have := Z0.out; omega)
                  have HL1647 : Hid (LiesQ W1621 (Par w V0.heap.size (w1588.heap.size :: (g320 :: (g489 :: []))) P) U1348.a.kids _) := par_set (par_grow HL1578.out (kept_trans Kk1617.out Kk1625.out) (List.forall_mem_cons.2 ⟨(Or.inr (Nat.le_trans (Below.size Kk1617.out) (Nat.le_refl w1588.heap.size))), (List.forall_mem_cons.2 ⟨(Or.inl (List.mem_cons_self ..)), (List.forall_mem_cons.2 ⟨(Or.inl (List.mem_cons_of_mem _ (List.mem_cons_self ..))), (fun _ h => nomatch h)⟩)⟩)⟩)) hW1621 (List.mem_cons_self ..) (by have := HG1626.out; have := Z0.out; omega)
                  have HL1648 : Hid (LiesQ W1621 (Par w V0.heap.size (w1588.heap.size :: (g320 :: (g489 :: []))) P) U1348.b.kids _) := par_set (par_grow HL1579.out (kept_trans Kk1617.out Kk1625.out) (List.forall_mem_cons.2 ⟨(Or.inr (Nat.le_trans (Below.size Kk1617.out) (Nat.le_refl w1588.heap.size))), (List.forall_mem_cons.2 ⟨(Or.inl (List.mem_cons_self ..)), (List.forall_mem_cons.2 ⟨(Or.inl (List.mem_cons_of_mem _ (List.mem_cons_self ..))), (fun _ h => nomatch h)⟩)⟩)⟩)) hW1621 (List.mem_cons_self ..) (by have := HG1626.out; have := Z0.out; omega)
                  have HL1649 : Hid (LiesQ W1621 (Par w V0.heap.size (w1588.heap.size :: (g320 :: (g489 :: []))) P) U1348.x.kids _) := par_set (par_grow HL1580.out (kept_trans Kk1617.out Kk1625.out) (List.forall_mem_cons.2 ⟨(Or.inr (Nat.le_trans (Below.size Kk1617.out) (Nat.le_refl w1588.heap.size))), (List.forall_mem_cons.2 ⟨(Or.inl (List.mem_cons_self ..)), (List.forall_mem_cons.2 ⟨(Or.inl (List.mem_cons_of_mem _ (List.mem_cons_self ..))), (fun _ h => nomatch h)⟩)⟩)⟩)) hW1621 (List.mem_cons_self ..) (by have := HG1626.out; have := Z0.out; omega)
                  have HL1650 : Hid (LiesQ W1621 (Par w V0.heap.size (w1588.heap.size :: (g320 :: (g489 :: []))) P) U1348.y.kids _) := par_set (par_grow HL1581.out (kept_trans Kk1617.out Kk1625.out) (List.forall_mem_cons.2 ⟨(Or.inr (Nat.le_trans (Below.size Kk1617.out) (Nat.le_refl w1588.heap.size))), (List.forall_mem_cons.2 ⟨(Or.inl (List.mem_cons_self ..)), (List.forall_mem_cons.2 ⟨(Or.inl (List.mem_cons_of_mem _ (List.mem_cons_self ..))), (fun _ h => nomatch h)⟩)⟩)⟩)) hW1621 (List.mem_cons_self ..) (by have := HG1626.out; have := Z0.out; omega)
                  have HL1651 : Hid (LiesQ W1621 (Par w V0.heap.size (w1588.heap.size :: (g320 :: (g489 :: []))) P) U1348.h.kids _) := par_set (par_grow HL1582.out (kept_trans Kk1617.out Kk1625.out) (List.forall_mem_cons.2 ⟨(Or.inr (Nat.le_trans (Below.size Kk1617.out) (Nat.le_refl w1588.heap.size))), (List.forall_mem_cons.2 ⟨(Or.inl (List.mem_cons_self ..)), (List.forall_mem_cons.2 ⟨(Or.inl (List.mem_cons_of_mem _ (List.mem_cons_self ..))), (fun _ h => nomatch h)⟩)⟩)⟩)) hW1621 (List.mem_cons_self ..) (by have := HG1626.out; have := Z0.out; omega)
                  have HL1652 : Hid (LiesQ W1621 (Par w V0.heap.size (w1588.heap.size :: (g320 :: (g489 :: []))) P) U1591.a.kids _) := par_set (par_grow Hhl1597.out Kk1625.out (List.forall_mem_cons.2 ⟨(Or.inr (Nat.le_refl w1588.heap.size)), (List.forall_mem_cons.2 ⟨(Or.inl (List.mem_cons_self ..)), (List.forall_mem_cons.2 ⟨(Or.inl (List.mem_cons_of_mem _ (List.mem_cons_self ..))), (fun _ h => nomatch h)⟩)⟩)⟩)) hW1621 (List.mem_cons_self ..) (by have := HG1626.out; have := Z0.out; omega)
                  have HL1653 : Hid (LiesQ W1621 (Par w V0.heap.size (w1588.heap.size :: (g320 :: (g489 :: []))) P) U1591.b.kids _) := par_set (par_grow Hhl1598.out Kk1625.out (List.forall_mem_cons.2 ⟨(Or.inr (Nat.le_refl w1588.heap.size)), (List.forall_mem_cons.2 ⟨(Or.inl (List.mem_cons_self ..)), (List.forall_mem_cons.2 ⟨(Or.inl (List.mem_cons_of_mem _ (List.mem_cons_self ..))), (fun _ h => nomatch h)⟩)⟩)⟩)) hW1621 (List.mem_cons_self ..) (by have := HG1626.out; have := Z0.out; omega)
                  have HL1654 : Hid (LiesQ W1621 (Par w V0.heap.size (w1588.heap.size :: (g320 :: (g489 :: []))) P) U1591.x.kids _) := par_set (par_grow Hhl1599.out Kk1625.out (List.forall_mem_cons.2 ⟨(Or.inr (Nat.le_refl w1588.heap.size)), (List.forall_mem_cons.2 ⟨(Or.inl (List.mem_cons_self ..)), (List.forall_mem_cons.2 ⟨(Or.inl (List.mem_cons_of_mem _ (List.mem_cons_self ..))), (fun _ h => nomatch h)⟩)⟩)⟩)) hW1621 (List.mem_cons_self ..) (by have := HG1626.out; have := Z0.out; omega)
                  have HL1655 : Hid (LiesQ W1621 (Par w V0.heap.size (w1588.heap.size :: (g320 :: (g489 :: []))) P) U1591.y.kids _) := par_set (par_grow Hhl1600.out Kk1625.out (List.forall_mem_cons.2 ⟨(Or.inr (Nat.le_refl w1588.heap.size)), (List.forall_mem_cons.2 ⟨(Or.inl (List.mem_cons_self ..)), (List.forall_mem_cons.2 ⟨(Or.inl (List.mem_cons_of_mem _ (List.mem_cons_self ..))), (fun _ h => nomatch h)⟩)⟩)⟩)) hW1621 (List.mem_cons_self ..) (by have := HG1626.out; have := Z0.out; omega)
                  have HL1656 : Hid (LiesQ W1621 (Par w V0.heap.size (w1588.heap.size :: (g320 :: (g489 :: []))) P) U1591.h.kids _) := par_set (par_grow Hhl1601.out Kk1625.out (List.forall_mem_cons.2 ⟨(Or.inr (Nat.le_refl w1588.heap.size)), (List.forall_mem_cons.2 ⟨(Or.inl (List.mem_cons_self ..)), (List.forall_mem_cons.2 ⟨(Or.inl (List.mem_cons_of_mem _ (List.mem_cons_self ..))), (fun _ h => nomatch h)⟩)⟩)⟩)) hW1621 (List.mem_cons_self ..) (by have := HG1626.out; have := Z0.out; omega)
                  have XL1657 := Lib.hid (xlt_set XL1629.out hW1621)
                  have HX1658 := Lib.hid (blk_other (blk_at HX1584.out (kept_trans Kk1617.out Kk1625.out)) hW1621 (by have := AP1627.out; omega))
                  have HX1659 := Lib.hid (blk_other (blk_at HX1585.out (kept_trans Kk1617.out Kk1625.out)) hW1621 (by have := AP1628.out; omega))
                  have HX1660 := Lib.hid (blk_same Hx1622.out hW1621)
                  (try clear ld1586)
                  (try clear ld1587)
                  clear hW1621
                  have ld1661 := partN_cell (r := V0.heap.size) HX1658.out trivial 0 (.int .i64 U1348.i) rfl
                  have ld1662 := partN_cell (r := V0.heap.size) HX1659.out trivial 0 (.int .i64 U652.i) rfl
                  have kvV0 : SeesN V0 V0.heap.size W1621 := seesN_kept _ KB1631.out
                  have kvW1621 : SeesN W1621 V0.heap.size W1621 := seesN_kept _ (kept_refl _)
                  go_wp2_with (refine stop_load 32 (.tmp 41) rfl ?_)
                  intro _
                  refine wpList_load_part (g489) 11 32 (.tmp 41) #[.int .i64 U652.x.k, .int .i64 U652.x.i, .int .i64 U652.x.j, .int .i64 U652.x.n, (.slice a669 U652.x.kids.length c670)] du HX1659.out (by rfl) rfl (by rfl) (by rfl) hu1 (by cases du <;> first | rfl | exact hu2) size_term ?_
                  go_wp2_with (refine stop_load 32 (.tmp 43) rfl ?_)
                  intro _
                  refine wpList_load_part (w.heap.size) 16 32 (.tmp 43) #[.int .i64 g.y.k, .int .i64 g.y.i, .int .i64 g.y.j, .int .i64 g.y.n, (.slice agy g.y.kids.length cgy)] du (blk_at Hx1.out KB1631.out) (by rfl) rfl (by rfl) (by rfl) hu1 (by cases du <;> first | rfl | exact hu2) size_term ?_
                  go_wp2_with fail
                  clear kvV0
                  clear kvW1621
                  refine (keepsame_eq2 (show U652.x = g.y from by rw [← HU652.out]) _ (.slice a669 U652.x.kids.length c670) (.slice agy g.y.kids.length cgy) HL1644.out.lies HL1635.out.lies).mono ?_
                  rintro e w1663 ⟨rfl, k1664⟩
                  have Kk1665 := Lib.hid k1664
                  clear k1664
                  have kvV0 : SeesN V0 V0.heap.size w1663 := seesN_kept _ (kept_trans KB1631.out Kk1665.out)
                  have kvW1621 : SeesN W1621 V0.heap.size w1663 := seesN_kept _ Kk1665.out
                  go_wp2_with (refine stop_load 32 (.tmp 47) rfl ?_)
                  intro _
                  refine wpList_load_part (g489) 16 32 (.tmp 47) #[.int .i64 U652.y.k, .int .i64 U652.y.i, .int .i64 U652.y.j, .int .i64 U652.y.n, (.slice a672 U652.y.kids.length c673)] du (blk_at HX1659.out Kk1665.out) (by rfl) rfl (by rfl) (by rfl) hu1 (by cases du <;> first | rfl | exact hu2) size_term ?_
                  go_wp2_with (refine stop_load 32 (.tmp 49) rfl ?_)
                  intro _
                  refine wpList_load_part (w.heap.size) 11 32 (.tmp 49) #[.int .i64 g.x.k, .int .i64 g.x.i, .int .i64 g.x.j, .int .i64 g.x.n, (.slice agx g.x.kids.length cgx)] du (blk_at Hx1.out (kept_trans KB1631.out Kk1665.out)) (by rfl) rfl (by rfl) (by rfl) hu1 (by cases du <;> first | rfl | exact hu2) size_term ?_
                  go_wp2_with fail
                  clear kvV0
                  clear kvW1621
                  refine (keepsame_eq2 (show U652.y = g.x from by rw [← HU652.out]) _ (.slice a672 U652.y.kids.length c673) (.slice agx g.x.kids.length cgx) (HL1645.out.later Kk1665.out).lies (HL1634.out.later Kk1665.out).lies).mono ?_
                  rintro e w1666 ⟨rfl, k1667⟩
                  have Kk1668 := Lib.hid k1667
                  clear k1667
                  have kvV0 : SeesN V0 V0.heap.size w1666 := seesN_kept _ (kept_trans KB1631.out (kept_trans Kk1665.out Kk1668.out))
                  have kvW1621 : SeesN W1621 V0.heap.size w1666 := seesN_kept _ (kept_trans Kk1665.out Kk1668.out)
                  go_wp2_with (refine stop_load 32 (.tmp 54) rfl ?_)
                  intro _
                  refine wpList_load_part (g489) 1 32 (.tmp 54) #[.int .i64 U652.a.k, .int .i64 U652.a.i, .int .i64 U652.a.j, .int .i64 U652.a.n, (.slice a663 U652.a.kids.length c664)] du (blk_at HX1659.out (kept_trans Kk1665.out Kk1668.out)) (by rfl) rfl (by rfl) (by rfl) hu1 (by cases du <;> first | rfl | exact hu2) size_term ?_
                  go_wp2_with (refine stop_load 32 (.tmp 56) rfl ?_)
                  intro _
                  refine wpList_load_part (w.heap.size) 6 32 (.tmp 56) #[.int .i64 g.b.k, .int .i64 g.b.i, .int .i64 g.b.j, .int .i64 g.b.n, (.slice agb g.b.kids.length cgb)] du (blk_at Hx1.out (kept_trans KB1631.out (kept_trans Kk1665.out Kk1668.out))) (by rfl) rfl (by rfl) (by rfl) hu1 (by cases du <;> first | rfl | exact hu2) size_term ?_
                  go_wp2_with fail
                  clear kvV0
                  clear kvW1621
                  refine (keepsame_eq2 (show U652.a = g.b from by rw [← HU652.out]) _ (.slice a663 U652.a.kids.length c664) (.slice agb g.b.kids.length cgb) (HL1642.out.later (kept_trans Kk1665.out Kk1668.out)).lies (HL1633.out.later (kept_trans Kk1665.out Kk1668.out)).lies).mono ?_
                  rintro e w1669 ⟨rfl, k1670⟩
                  have Kk1671 := Lib.hid k1670
                  clear k1670
                  have kvV0 : SeesN V0 V0.heap.size w1669 := seesN_kept _ (kept_trans KB1631.out (kept_trans Kk1665.out (kept_trans Kk1668.out Kk1671.out)))
                  have kvW1621 : SeesN W1621 V0.heap.size w1669 := seesN_kept _ (kept_trans Kk1665.out (kept_trans Kk1668.out Kk1671.out))
                  go_wp2_with (refine stop_load 32 (.tmp 61) rfl ?_)
                  intro _
                  refine wpList_load_part (g489) 6 32 (.tmp 61) #[.int .i64 U652.b.k, .int .i64 U652.b.i, .int .i64 U652.b.j, .int .i64 U652.b.n, (.slice a666 U652.b.kids.length c667)] du (blk_at HX1659.out (kept_trans Kk1665.out (kept_trans Kk1668.out Kk1671.out))) (by rfl) rfl (by rfl) (by rfl) hu1 (by cases du <;> first | rfl | exact hu2) size_term ?_
                  go_wp2_with (refine stop_load 32 (.tmp 63) rfl ?_)
                  intro _
                  refine wpList_load_part (w.heap.size) 1 32 (.tmp 63) #[.int .i64 g.a.k, .int .i64 g.a.i, .int .i64 g.a.j, .int .i64 g.a.n, (.slice aga g.a.kids.length cga)] du (blk_at Hx1.out (kept_trans KB1631.out (kept_trans Kk1665.out (kept_trans Kk1668.out Kk1671.out)))) (by rfl) rfl (by rfl) (by rfl) hu1 (by cases du <;> first | rfl | exact hu2) size_term ?_
                  go_wp2_with fail
                  clear kvV0
                  clear kvW1621
                  refine (keepsame_eq2 (show U652.b = g.a from by rw [← HU652.out]) _ (.slice a666 U652.b.kids.length c667) (.slice aga g.a.kids.length cga) (HL1643.out.later (kept_trans Kk1665.out (kept_trans Kk1668.out Kk1671.out))).lies (HL1632.out.later (kept_trans Kk1665.out (kept_trans Kk1668.out Kk1671.out))).lies).mono ?_
                  rintro e w1672 ⟨rfl, k1673⟩
                  have Kk1674 := Lib.hid k1673
                  clear k1673
                  have kvV0 : SeesN V0 V0.heap.size w1672 := seesN_kept _ (kept_trans KB1631.out (kept_trans Kk1665.out (kept_trans Kk1668.out (kept_trans Kk1671.out Kk1674.out))))
                  have kvW1621 : SeesN W1621 V0.heap.size w1672 := seesN_kept _ (kept_trans Kk1665.out (kept_trans Kk1668.out (kept_trans Kk1671.out Kk1674.out)))
                  go_wp2_with (refine stop_load 32 (.tmp 68) rfl ?_)
                  intro _
                  refine wpList_load_part (w1588.heap.size) 11 32 (.tmp 68) #[.int .i64 U1591.x.k, .int .i64 U1591.x.i, .int .i64 U1591.x.j, .int .i64 U1591.x.n, (.slice a1608 U1591.x.kids.length c1609)] du (blk_at HX1660.out (kept_trans Kk1665.out (kept_trans Kk1668.out (kept_trans Kk1671.out Kk1674.out)))) (by rfl) rfl (by rfl) (by rfl) hu1 (by cases du <;> first | rfl | exact hu2) size_term ?_
                  go_wp2_with (refine stop_load 32 (.tmp 70) rfl ?_)
                  intro _
                  refine wpList_load_part (w.heap.size) 11 32 (.tmp 70) #[.int .i64 g.x.k, .int .i64 g.x.i, .int .i64 g.x.j, .int .i64 g.x.n, (.slice agx g.x.kids.length cgx)] du (blk_at Hx1.out (kept_trans KB1631.out (kept_trans Kk1665.out (kept_trans Kk1668.out (kept_trans Kk1671.out Kk1674.out))))) (by rfl) rfl (by rfl) (by rfl) hu1 (by cases du <;> first | rfl | exact hu2) size_term ?_
                  go_wp2_with fail
                  clear kvV0
                  clear kvW1621
                  refine (keepsame_eq2 (show U1591.x = g.x from by rw [← HU1591.out]) _ (.slice a1608 U1591.x.kids.length c1609) (.slice agx g.x.kids.length cgx) (HL1654.out.later (kept_trans Kk1665.out (kept_trans Kk1668.out (kept_trans Kk1671.out Kk1674.out)))).lies (HL1634.out.later (kept_trans Kk1665.out (kept_trans Kk1668.out (kept_trans Kk1671.out Kk1674.out)))).lies).mono ?_
                  rintro e w1675 ⟨rfl, k1676⟩
                  have Kk1677 := Lib.hid k1676
                  clear k1676
                  have kvV0 : SeesN V0 V0.heap.size w1675 := seesN_kept _ (kept_trans KB1631.out (kept_trans Kk1665.out (kept_trans Kk1668.out (kept_trans Kk1671.out (kept_trans Kk1674.out Kk1677.out)))))
                  have kvW1621 : SeesN W1621 V0.heap.size w1675 := seesN_kept _ (kept_trans Kk1665.out (kept_trans Kk1668.out (kept_trans Kk1671.out (kept_trans Kk1674.out Kk1677.out))))
                  go_wp2_with (refine stop_load 32 (.tmp 75) rfl ?_)
                  intro _
                  refine wpList_load_part (w1588.heap.size) 16 32 (.tmp 75) #[.int .i64 U1591.y.k, .int .i64 U1591.y.i, .int .i64 U1591.y.j, .int .i64 U1591.y.n, (.slice a1611 U1591.y.kids.length c1612)] du (blk_at HX1660.out (kept_trans Kk1665.out (kept_trans Kk1668.out (kept_trans Kk1671.out (kept_trans Kk1674.out Kk1677.out))))) (by rfl) rfl (by rfl) (by rfl) hu1 (by cases du <;> first | rfl | exact hu2) size_term ?_
                  go_wp2_with (refine stop_load 32 (.tmp 77) rfl ?_)
                  intro _
                  refine wpList_load_part (w.heap.size) 16 32 (.tmp 77) #[.int .i64 g.y.k, .int .i64 g.y.i, .int .i64 g.y.j, .int .i64 g.y.n, (.slice agy g.y.kids.length cgy)] du (blk_at Hx1.out (kept_trans KB1631.out (kept_trans Kk1665.out (kept_trans Kk1668.out (kept_trans Kk1671.out (kept_trans Kk1674.out Kk1677.out)))))) (by rfl) rfl (by rfl) (by rfl) hu1 (by cases du <;> first | rfl | exact hu2) size_term ?_
                  go_wp2_with fail
                  clear kvV0
                  clear kvW1621
                  refine (keepsame_eq2 (show U1591.y = g.y from by rw [← HU1591.out]) _ (.slice a1611 U1591.y.kids.length c1612) (.slice agy g.y.kids.length cgy) (HL1655.out.later (kept_trans Kk1665.out (kept_trans Kk1668.out (kept_trans Kk1671.out (kept_trans Kk1674.out Kk1677.out))))).lies (HL1635.out.later (kept_trans Kk1665.out (kept_trans Kk1668.out (kept_trans Kk1671.out (kept_trans Kk1674.out Kk1677.out))))).lies).mono ?_
                  rintro e w1678 ⟨rfl, k1679⟩
                  have Kk1680 := Lib.hid k1679
                  clear k1679
                  have kvV0 : SeesN V0 V0.heap.size w1678 := seesN_kept _ (kept_trans KB1631.out (kept_trans Kk1665.out (kept_trans Kk1668.out (kept_trans Kk1671.out (kept_trans Kk1674.out (kept_trans Kk1677.out Kk1680.out))))))
                  have kvW1621 : SeesN W1621 V0.heap.size w1678 := seesN_kept _ (kept_trans Kk1665.out (kept_trans Kk1668.out (kept_trans Kk1671.out (kept_trans Kk1674.out (kept_trans Kk1677.out Kk1680.out)))))
                  go_wp2_with (refine stop_load 32 (.tmp 82) rfl ?_)
                  intro _
                  refine wpList_load_part (g320) 11 32 (.tmp 82) #[.int .i64 U1348.x.k, .int .i64 U1348.x.i, .int .i64 U1348.x.j, .int .i64 U1348.x.n, (.slice a1365 U1348.x.kids.length c1366)] du (blk_at HX1658.out (kept_trans Kk1665.out (kept_trans Kk1668.out (kept_trans Kk1671.out (kept_trans Kk1674.out (kept_trans Kk1677.out Kk1680.out)))))) (by rfl) rfl (by rfl) (by rfl) hu1 (by cases du <;> first | rfl | exact hu2) size_term ?_
                  go_wp2_with (refine stop_load 32 (.tmp 84) rfl ?_)
                  intro _
                  refine wpList_load_part (w.heap.size) 11 32 (.tmp 84) #[.int .i64 g.x.k, .int .i64 g.x.i, .int .i64 g.x.j, .int .i64 g.x.n, (.slice agx g.x.kids.length cgx)] du (blk_at Hx1.out (kept_trans KB1631.out (kept_trans Kk1665.out (kept_trans Kk1668.out (kept_trans Kk1671.out (kept_trans Kk1674.out (kept_trans Kk1677.out Kk1680.out))))))) (by rfl) rfl (by rfl) (by rfl) hu1 (by cases du <;> first | rfl | exact hu2) size_term ?_
                  go_wp2_with fail
                  clear kvV0
                  clear kvW1621
                  refine (keepsame_eq2 (show U1348.x = g.x from by rw [← HU1348.out]) _ (.slice a1365 U1348.x.kids.length c1366) (.slice agx g.x.kids.length cgx) (HL1649.out.later (kept_trans Kk1665.out (kept_trans Kk1668.out (kept_trans Kk1671.out (kept_trans Kk1674.out (kept_trans Kk1677.out Kk1680.out)))))).lies (HL1634.out.later (kept_trans Kk1665.out (kept_trans Kk1668.out (kept_trans Kk1671.out (kept_trans Kk1674.out (kept_trans Kk1677.out Kk1680.out)))))).lies).mono ?_
                  rintro e w1681 ⟨rfl, k1682⟩
                  have Kk1683 := Lib.hid k1682
                  clear k1682
                  have kvV0 : SeesN V0 V0.heap.size w1681 := seesN_kept _ (kept_trans KB1631.out (kept_trans Kk1665.out (kept_trans Kk1668.out (kept_trans Kk1671.out (kept_trans Kk1674.out (kept_trans Kk1677.out (kept_trans Kk1680.out Kk1683.out)))))))
                  have kvW1621 : SeesN W1621 V0.heap.size w1681 := seesN_kept _ (kept_trans Kk1665.out (kept_trans Kk1668.out (kept_trans Kk1671.out (kept_trans Kk1674.out (kept_trans Kk1677.out (kept_trans Kk1680.out Kk1683.out))))))
                  go_wp2_with (refine stop_load 32 (.tmp 89) rfl ?_)
                  intro _
                  refine wpList_load_part (g320) 16 32 (.tmp 89) #[.int .i64 U1348.y.k, .int .i64 U1348.y.i, .int .i64 U1348.y.j, .int .i64 U1348.y.n, (.slice a1368 U1348.y.kids.length c1369)] du (blk_at HX1658.out (kept_trans Kk1665.out (kept_trans Kk1668.out (kept_trans Kk1671.out (kept_trans Kk1674.out (kept_trans Kk1677.out (kept_trans Kk1680.out Kk1683.out))))))) (by rfl) rfl (by rfl) (by rfl) hu1 (by cases du <;> first | rfl | exact hu2) size_term ?_
                  go_wp2_with (refine stop_load 32 (.tmp 91) rfl ?_)
                  intro _
                  refine wpList_load_part (w.heap.size + 1) 16 32 (.tmp 91) #[.int .i64 h.y.k, .int .i64 h.y.i, .int .i64 h.y.j, .int .i64 h.y.n, (.slice ahy h.y.kids.length chy)] du (blk_at Hx2.out (kept_trans KB1631.out (kept_trans Kk1665.out (kept_trans Kk1668.out (kept_trans Kk1671.out (kept_trans Kk1674.out (kept_trans Kk1677.out (kept_trans Kk1680.out Kk1683.out)))))))) (by rfl) rfl (by rfl) (by rfl) hu1 (by cases du <;> first | rfl | exact hu2) size_term ?_
                  go_wp2_with fail
                  clear kvV0
                  clear kvW1621
                  refine (keepsame_eq2 (show U1348.y = h.y from by rw [← HU1348.out]) _ (.slice a1368 U1348.y.kids.length c1369) (.slice ahy h.y.kids.length chy) (HL1650.out.later (kept_trans Kk1665.out (kept_trans Kk1668.out (kept_trans Kk1671.out (kept_trans Kk1674.out (kept_trans Kk1677.out (kept_trans Kk1680.out Kk1683.out))))))).lies (HL1640.out.later (kept_trans Kk1665.out (kept_trans Kk1668.out (kept_trans Kk1671.out (kept_trans Kk1674.out (kept_trans Kk1677.out (kept_trans Kk1680.out Kk1683.out))))))).lies).mono ?_
                  rintro e w1684 ⟨rfl, k1685⟩
                  have Kk1686 := Lib.hid k1685
                  clear k1685
                  have kvV0 : SeesN V0 V0.heap.size w1684 := seesN_kept _ (kept_trans KB1631.out (kept_trans Kk1665.out (kept_trans Kk1668.out (kept_trans Kk1671.out (kept_trans Kk1674.out (kept_trans Kk1677.out (kept_trans Kk1680.out (kept_trans Kk1683.out Kk1686.out))))))))
                  have kvW1621 : SeesN W1621 V0.heap.size w1684 := seesN_kept _ (kept_trans Kk1665.out (kept_trans Kk1668.out (kept_trans Kk1671.out (kept_trans Kk1674.out (kept_trans Kk1677.out (kept_trans Kk1680.out (kept_trans Kk1683.out Kk1686.out)))))))
                  go_wp2_with (refine stop_load 32 (.tmp 96) rfl ?_)
                  intro _
                  refine wpList_load_part (g320) 1 32 (.tmp 96) #[.int .i64 U1348.a.k, .int .i64 U1348.a.i, .int .i64 U1348.a.j, .int .i64 U1348.a.n, (.slice a1359 U1348.a.kids.length c1360)] du (blk_at HX1658.out (kept_trans Kk1665.out (kept_trans Kk1668.out (kept_trans Kk1671.out (kept_trans Kk1674.out (kept_trans Kk1677.out (kept_trans Kk1680.out (kept_trans Kk1683.out Kk1686.out)))))))) (by rfl) rfl (by rfl) (by rfl) hu1 (by cases du <;> first | rfl | exact hu2) size_term ?_
                  go_wp2_with (refine stop_load 32 (.tmp 98) rfl ?_)
                  intro _
                  refine wpList_load_part (w.heap.size) 1 32 (.tmp 98) #[.int .i64 g.a.k, .int .i64 g.a.i, .int .i64 g.a.j, .int .i64 g.a.n, (.slice aga g.a.kids.length cga)] du (blk_at Hx1.out (kept_trans KB1631.out (kept_trans Kk1665.out (kept_trans Kk1668.out (kept_trans Kk1671.out (kept_trans Kk1674.out (kept_trans Kk1677.out (kept_trans Kk1680.out (kept_trans Kk1683.out Kk1686.out))))))))) (by rfl) rfl (by rfl) (by rfl) hu1 (by cases du <;> first | rfl | exact hu2) size_term ?_
                  go_wp2_with fail
                  clear kvV0
                  clear kvW1621
                  refine (keepsame_eq2 (show U1348.a = g.a from by rw [← HU1348.out]) _ (.slice a1359 U1348.a.kids.length c1360) (.slice aga g.a.kids.length cga) (HL1647.out.later (kept_trans Kk1665.out (kept_trans Kk1668.out (kept_trans Kk1671.out (kept_trans Kk1674.out (kept_trans Kk1677.out (kept_trans Kk1680.out (kept_trans Kk1683.out Kk1686.out)))))))).lies (HL1632.out.later (kept_trans Kk1665.out (kept_trans Kk1668.out (kept_trans Kk1671.out (kept_trans Kk1674.out (kept_trans Kk1677.out (kept_trans Kk1680.out (kept_trans Kk1683.out Kk1686.out)))))))).lies).mono ?_
                  rintro e w1687 ⟨rfl, k1688⟩
                  have Kk1689 := Lib.hid k1688
                  clear k1688
                  have kvV0 : SeesN V0 V0.heap.size w1687 := seesN_kept _ (kept_trans KB1631.out (kept_trans Kk1665.out (kept_trans Kk1668.out (kept_trans Kk1671.out (kept_trans Kk1674.out (kept_trans Kk1677.out (kept_trans Kk1680.out (kept_trans Kk1683.out (kept_trans Kk1686.out Kk1689.out)))))))))
                  have kvW1621 : SeesN W1621 V0.heap.size w1687 := seesN_kept _ (kept_trans Kk1665.out (kept_trans Kk1668.out (kept_trans Kk1671.out (kept_trans Kk1674.out (kept_trans Kk1677.out (kept_trans Kk1680.out (kept_trans Kk1683.out (kept_trans Kk1686.out Kk1689.out))))))))
                  go_wp2_with (refine stop_load 32 (.tmp 103) rfl ?_)
                  intro _
                  refine wpList_load_part (g320) 6 32 (.tmp 103) #[.int .i64 U1348.b.k, .int .i64 U1348.b.i, .int .i64 U1348.b.j, .int .i64 U1348.b.n, (.slice a1362 U1348.b.kids.length c1363)] du (blk_at HX1658.out (kept_trans Kk1665.out (kept_trans Kk1668.out (kept_trans Kk1671.out (kept_trans Kk1674.out (kept_trans Kk1677.out (kept_trans Kk1680.out (kept_trans Kk1683.out (kept_trans Kk1686.out Kk1689.out))))))))) (by rfl) rfl (by rfl) (by rfl) hu1 (by cases du <;> first | rfl | exact hu2) size_term ?_
                  go_wp2_with (refine stop_load 32 (.tmp 105) rfl ?_)
                  intro _
                  refine wpList_load_part (w.heap.size + 1) 6 32 (.tmp 105) #[.int .i64 h.b.k, .int .i64 h.b.i, .int .i64 h.b.j, .int .i64 h.b.n, (.slice ahb h.b.kids.length chb)] du (blk_at Hx2.out (kept_trans KB1631.out (kept_trans Kk1665.out (kept_trans Kk1668.out (kept_trans Kk1671.out (kept_trans Kk1674.out (kept_trans Kk1677.out (kept_trans Kk1680.out (kept_trans Kk1683.out (kept_trans Kk1686.out Kk1689.out)))))))))) (by rfl) rfl (by rfl) (by rfl) hu1 (by cases du <;> first | rfl | exact hu2) size_term ?_
                  go_wp2_with fail
                  clear kvV0
                  clear kvW1621
                  refine (keepsame_eq2 (show U1348.b = h.b from by rw [← HU1348.out]) _ (.slice a1362 U1348.b.kids.length c1363) (.slice ahb h.b.kids.length chb) (HL1648.out.later (kept_trans Kk1665.out (kept_trans Kk1668.out (kept_trans Kk1671.out (kept_trans Kk1674.out (kept_trans Kk1677.out (kept_trans Kk1680.out (kept_trans Kk1683.out (kept_trans Kk1686.out Kk1689.out))))))))).lies (HL1638.out.later (kept_trans Kk1665.out (kept_trans Kk1668.out (kept_trans Kk1671.out (kept_trans Kk1674.out (kept_trans Kk1677.out (kept_trans Kk1680.out (kept_trans Kk1683.out (kept_trans Kk1686.out Kk1689.out))))))))).lies).mono ?_
                  rintro e w1690 ⟨rfl, k1691⟩
                  have Kk1692 := Lib.hid k1691
                  clear k1691
                  have kvV0 : SeesN V0 V0.heap.size w1690 := seesN_kept _ (kept_trans KB1631.out (kept_trans Kk1665.out (kept_trans Kk1668.out (kept_trans Kk1671.out (kept_trans Kk1674.out (kept_trans Kk1677.out (kept_trans Kk1680.out (kept_trans Kk1683.out (kept_trans Kk1686.out (kept_trans Kk1689.out Kk1692.out))))))))))
                  have kvW1621 : SeesN W1621 V0.heap.size w1690 := seesN_kept _ (kept_trans Kk1665.out (kept_trans Kk1668.out (kept_trans Kk1671.out (kept_trans Kk1674.out (kept_trans Kk1677.out (kept_trans Kk1680.out (kept_trans Kk1683.out (kept_trans Kk1686.out (kept_trans Kk1689.out Kk1692.out)))))))))
                  go_wp2_with fail
                  clear kvV0
                  clear kvW1621
                  refine (wakes23_any _).mono ?_
                  rintro e w1693 ⟨rfl, k1694⟩
                  have Kk1695 := Lib.hid k1694
                  clear k1694
                  have kvV0 : SeesN V0 V0.heap.size w1693 := seesN_kept _ (kept_trans KB1631.out (kept_trans Kk1665.out (kept_trans Kk1668.out (kept_trans Kk1671.out (kept_trans Kk1674.out (kept_trans Kk1677.out (kept_trans Kk1680.out (kept_trans Kk1683.out (kept_trans Kk1686.out (kept_trans Kk1689.out (kept_trans Kk1692.out Kk1695.out)))))))))))
                  have kvW1621 : SeesN W1621 V0.heap.size w1693 := seesN_kept _ (kept_trans Kk1665.out (kept_trans Kk1668.out (kept_trans Kk1671.out (kept_trans Kk1674.out (kept_trans Kk1677.out (kept_trans Kk1680.out (kept_trans Kk1683.out (kept_trans Kk1686.out (kept_trans Kk1689.out (kept_trans Kk1692.out Kk1695.out))))))))))
                  go_wp2
                  go_ret
                  exact ⟨rfl, (kept_trans KB1630.out (kept_trans Kk1665.out (kept_trans Kk1668.out (kept_trans Kk1671.out (kept_trans Kk1674.out (kept_trans Kk1677.out (kept_trans Kk1680.out (kept_trans Kk1683.out (kept_trans Kk1686.out (kept_trans Kk1689.out (kept_trans Kk1692.out Kk1695.out)))))))))))⟩
                exact AllReadyH.nil
              exact AllReadyH.nil
          · have ec30 : (g.i == h.i) = false := beq_eq_false_iff_ne.2 c30
            have fc30 : (g.i != h.i) = true := by rw [bne, ec30]; rfl
            have Ec30 := Lib.hid ec30
            have Hc30 := Lib.hid c30
            clear c30
            go_wp2
            go_ret
            exact ⟨rfl, (kept_trans Kk5.out (kept_trans Kk12.out (kept_trans Kk17.out (kept_trans Kk22.out Kk28.out))))⟩
    | true =>
      have kvV0 : SeesN V0 V0.heap.size w13 := seesN_kept _ (kept_trans Kk12.out Kk17.out)
      go_wp2
      go_ret
      exact ⟨rfl, (kept_trans Kk5.out (kept_trans Kk12.out Kk17.out))⟩
  | true =>
    have kvV0 : SeesN V0 V0.heap.size w8 := seesN_kept _ Kk12.out
    go_wp2
    go_ret
    exact ⟨rfl, (kept_trans Kk5.out Kk12.out)⟩

end Go.Proofs.Ytkdceahmknhojaa
