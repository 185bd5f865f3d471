/-
  Facts and contracts that the proof of HetEnds uses.
-/
import Derived.Test.YtkdceahmknhojaaRows
import Derived.WalkKit
import Derived.Lib.Hide
import Derived.KernelRfl
import Derived.Deep.RegionWith
import Derived.Deep.RegionHeld3
import Derived.Deep.AppendLies
import Derived.Laws.Rows
import Derived.Laws.IdiomCopy
import Derived.Deep.Slices
import Derived.Lib.QuietBelow
import Derived.StillTailTactics
import Derived.BigQuiet
import Derived.IntWalk
import Derived.OwnWalk
import Derived.Deep.RegionLaw
import Derived.Deep.QuietTactic
import Derived.Deep.LoopGhost
import Derived.Deep.DeepCutAuto
import Derived.Deep.MidRow
import Derived.OrdersHeld
import Derived.Laws.Tables
import Derived.Laws.CopyOwn
import Derived.Laws.CopyRow
import Derived.Deep.RegionHeld
import Derived.ProofKit
import Derived.OpenShut
import Derived.Carry
import Derived.ChangeSlices
import Derived.JoinedOf
import Derived.Test.YtkdceahmknhojaaHetEndsQ4
namespace Go.Proofs.Ytkdceahmknhojaa
open Go.RowKit
set_option maxRecDepth 20000 in
set_option maxHeartbeats 4000000 in
theorem hthen_any (g : He) (h : He) (P : Nat → Prop) (w : World) (sga : Value) (sgb : Value) (sgx : Value) (sgy : Value) (sgh : Value) (sha : Value) (shb : Value) (shx : Value) (shy : Value) (shh : Value) (hfg : g.fine) (hlg : HQ w P g sga sgb sgx sgy sgh) (hfh : h.fine) (hlh : HQ w P h sha shb shx shy shh) : Calls Try.prog 49 #[hv g sga sgb sgx sgy sgh, hv h sha shb shx shy shh] w (GivesHP P (heThen g h) w) := by
  have Gg := Lib.hid hfg
  clear hfg
  obtain ⟨hlga, hlgb, hlgx, hlgy, hlgh⟩ := hlg
  obtain ⟨aga, cga, Sga, rfl, -⟩ := hlga.out
  obtain ⟨agb, cgb, Sgb, rfl, -⟩ := hlgb.out
  obtain ⟨agx, cgx, Sgx, rfl, -⟩ := hlgx.out
  obtain ⟨agy, cgy, Sgy, rfl, -⟩ := hlgy.out
  obtain ⟨agh, cgh, Sgh, rfl, -⟩ := hlgh.out
  have Gh := Lib.hid hfh
  clear hfh
  obtain ⟨hlha, hlhb, hlhx, hlhy, hlhh⟩ := hlh
  obtain ⟨aha, cha, Sha, rfl, -⟩ := hlha.out
  obtain ⟨ahb, chb, Shb, rfl, -⟩ := hlhb.out
  obtain ⟨ahx, chx, Shx, rfl, -⟩ := hlhx.out
  obtain ⟨ahy, chy, Shy, rfl, -⟩ := hlhy.out
  obtain ⟨ahh, chh, Shh, rfl, -⟩ := hlhh.out
  obtain ⟨du, hu1, hu2⟩ := under_term
  obtain ⟨dh, dh1, dh2⟩ := under_of 51 (by kernel_rfl)
  unfold hv
  go_enter Try.func49, Try.ntmps49
  go_upto_region 1 with fail
  refine at_code (fun V0 hV0 => ?_)
  obtain ⟨k4, x1, x2, x3, z5⟩ := alloc3 hV0
  have Kk6 := Lib.hid k4
  clear k4
  have Hx1 := Lib.hid x1
  have Hx2 := Lib.hid x2
  have Hx3 := Lib.hid x3
  have Z0 := Lib.hid z5
  clear z5 x1 x2 x3 hV0
  have HLga : Hid (LiesQ V0 (Par w V0.heap.size [] P) g.a.kids _) := (par_in _ _ hlga).later Kk6.out
  clear hlga
  have HLgb : Hid (LiesQ V0 (Par w V0.heap.size [] P) g.b.kids _) := (par_in _ _ hlgb).later Kk6.out
  clear hlgb
  have HLgx : Hid (LiesQ V0 (Par w V0.heap.size [] P) g.x.kids _) := (par_in _ _ hlgx).later Kk6.out
  clear hlgx
  have HLgy : Hid (LiesQ V0 (Par w V0.heap.size [] P) g.y.kids _) := (par_in _ _ hlgy).later Kk6.out
  clear hlgy
  have HLgh : Hid (LiesQ V0 (Par w V0.heap.size [] P) g.h.kids _) := (par_in _ _ hlgh).later Kk6.out
  clear hlgh
  have HLha : Hid (LiesQ V0 (Par w V0.heap.size [] P) h.a.kids _) := (par_in _ _ hlha).later Kk6.out
  clear hlha
  have HLhb : Hid (LiesQ V0 (Par w V0.heap.size [] P) h.b.kids _) := (par_in _ _ hlhb).later Kk6.out
  clear hlhb
  have HLhx : Hid (LiesQ V0 (Par w V0.heap.size [] P) h.x.kids _) := (par_in _ _ hlhx).later Kk6.out
  clear hlhx
  have HLhy : Hid (LiesQ V0 (Par w V0.heap.size [] P) h.y.kids _) := (par_in _ _ hlhy).later Kk6.out
  clear hlhy
  have HLhh : Hid (LiesQ V0 (Par w V0.heap.size [] P) h.h.kids _) := (par_in _ _ hlhh).later Kk6.out
  clear hlhh
  have ld7 := part_cell (r := (w.heap.size + 2)) Hx1.out (by have := Z0.out; omega) 0 (.int .i64 g.i) rfl
  have ld8 := part_cell (r := (w.heap.size + 2)) Hx2.out (by have := Z0.out; omega) 0 (.int .i64 h.i) rfl
  have kvV0 : Sees V0 (w.heap.size + 2) V0 := sees_kept _ (kept_refl _)
  go_wp2_with (refine stop_load 51 (.tmp 2) rfl ?_)
  intro _
  refine wpList_load_part (w.heap.size) 0 51 (.tmp 2) #[.int .i64 g.i, .int .i64 g.a.k, .int .i64 g.a.i, .int .i64 g.a.j, .int .i64 g.a.n, (.slice aga g.a.kids.length cga), .int .i64 g.b.k, .int .i64 g.b.i, .int .i64 g.b.j, .int .i64 g.b.n, (.slice agb g.b.kids.length cgb), .int .i64 g.x.k, .int .i64 g.x.i, .int .i64 g.x.j, .int .i64 g.x.n, (.slice agx g.x.kids.length cgx), .int .i64 g.y.k, .int .i64 g.y.i, .int .i64 g.y.j, .int .i64 g.y.n, (.slice agy g.y.kids.length cgy), .int .i64 g.h.k, .int .i64 g.h.i, .int .i64 g.h.j, .int .i64 g.h.n, (.slice agh g.h.kids.length cgh)] dh Hx1.out (by rfl) rfl (by rfl) (by rfl) dh1 (by cases dh <;> first | rfl | exact dh2) (by kernel_rfl) ?_
  go_wp2_with fail
  clear kvV0
  refine (hrightHet_any g (Par w V0.heap.size [] P) _ (.slice aga g.a.kids.length cga) (.slice agb g.b.kids.length cgb) (.slice agx g.x.kids.length cgx) (.slice agy g.y.kids.length cgy) (.slice agh g.h.kids.length cgh) ⟨Gg.out.1, Gg.out.2.1, Gg.out.2.2.1, Gg.out.2.2.2.1, Gg.out.2.2.2.2.1, Gg.out.2.2.2.2.2⟩ ⟨HLga.out, HLgb.out, HLgx.out, HLgy.out, HLgh.out⟩).mono ?_
  obtain ⟨rb12, hb11⟩ : ∃ qb, heR g = qb := ⟨_, rfl⟩
  rw [hb11]
  have Hhb11 := Lib.hid hb11
  clear hb11
  rintro e w9 ⟨rfl, k10⟩
  have Kk13 := Lib.hid k10
  clear k10
  cases rb12 with
  | false =>
    have kvV0 : Sees V0 (w.heap.size + 2) w9 := sees_kept _ Kk13.out
    go_wp2_with (refine stop_store 51 (.tmp 4) (.tmp 22) rfl ?_)
    intro _
    refine wpList_store_part_n (by rfl) 51 (.tmp 4) (.tmp 22) rfl (w.heap.size + 2) 0 #[.int .i64 0, .int .i64 0, .int .i64 0, .int .i64 0, .int .i64 0, .slice none 0 0, .int .i64 0, .int .i64 0, .int .i64 0, .int .i64 0, .slice none 0 0, .int .i64 0, .int .i64 0, .int .i64 0, .int .i64 0, .slice none 0 0, .int .i64 0, .int .i64 0, .int .i64 0, .int .i64 0, .slice none 0 0, .int .i64 0, .int .i64 0, .int .i64 0, .int .i64 0, .slice none 0 0] (by rfl) (by rfl) 51 (by kernel_rfl) (row_ok rfl) ?_
    intro W14 hW14
    clear kvV0
    subst hW14
    refine ⟨_, #[.int .i64 0, .int .i64 0, .int .i64 0, .int .i64 0, .int .i64 0, .slice none 0 0, .int .i64 0, .int .i64 0, .int .i64 0, .int .i64 0, .slice none 0 0, .int .i64 0, .int .i64 0, .int .i64 0, .int .i64 0, .slice none 0 0, .int .i64 0, .int .i64 0, .int .i64 0, .int .i64 0, .slice none 0 0, .int .i64 0, .int .i64 0, .int .i64 0, .int .i64 0, .slice none 0 0], (blk_at Hx3.out Kk13.out), rfl, Nat.le_of_ble_eq_true rfl, ?_⟩
    intro W15 hW15
    go_wp2_with fail
    refine bodyPost_ret (results_cell_row rfl _ _ (w.heap.size + 2) 51 _ _ dh rfl (blk_same (blk_at Hx3.out Kk13.out) hW15) dh1 (by cases dh <;> first | rfl | exact dh2) (by kernel_rfl)) rfl ?_
    rw [show heThen g h = (⟨0, (.mk 0 0 0 0 []), (.mk 0 0 0 0 []), (.mk 0 0 0 0 []), (.mk 0 0 0 0 []), (.mk 0 0 0 0 [])⟩ : He) from by unfold heThen; rw [Hhb11.out]; (try rfl)]
    exact ⟨_, _, _, _, _, rfl, ⟨par_end (par_row' (liesQ_nil w9 (Par w V0.heap.size [] P)) hW15 (by omega) (by have := Z0.out; omega)) (by have := Z0.out; omega), par_end (par_row' (liesQ_nil w9 (Par w V0.heap.size [] P)) hW15 (by omega) (by have := Z0.out; omega)) (by have := Z0.out; omega), par_end (par_row' (liesQ_nil w9 (Par w V0.heap.size [] P)) hW15 (by omega) (by have := Z0.out; omega)) (by have := Z0.out; omega), par_end (par_row' (liesQ_nil w9 (Par w V0.heap.size [] P)) hW15 (by omega) (by have := Z0.out; omega)) (by have := Z0.out; omega), par_end (par_row' (liesQ_nil w9 (Par w V0.heap.size [] P)) hW15 (by omega) (by have := Z0.out; omega)) (by have := Z0.out; omega)⟩, kept_set (kept_trans Kk6.out Kk13.out) hW15 (by omega)⟩
  | true =>
    have ew16 : IntKind.i64.wrap (g.i + 1) = g.i + 1 := IntWalk.i64_in _ (by have := levN_true (heR_lev Hhb11.out); omega)
    have kvV0 : Sees V0 (w.heap.size + 2) w9 := sees_kept _ Kk13.out
    go_wp2_with (refine stop_load 51 (.tmp 3) rfl ?_)
    intro _
    refine wpList_load_part (w.heap.size + 1) 0 51 (.tmp 3) #[.int .i64 h.i, .int .i64 h.a.k, .int .i64 h.a.i, .int .i64 h.a.j, .int .i64 h.a.n, (.slice aha h.a.kids.length cha), .int .i64 h.b.k, .int .i64 h.b.i, .int .i64 h.b.j, .int .i64 h.b.n, (.slice ahb h.b.kids.length chb), .int .i64 h.x.k, .int .i64 h.x.i, .int .i64 h.x.j, .int .i64 h.x.n, (.slice ahx h.x.kids.length chx), .int .i64 h.y.k, .int .i64 h.y.i, .int .i64 h.y.j, .int .i64 h.y.n, (.slice ahy h.y.kids.length chy), .int .i64 h.h.k, .int .i64 h.h.i, .int .i64 h.h.j, .int .i64 h.h.n, (.slice ahh h.h.kids.length chh)] dh (blk_at Hx2.out Kk13.out) (by rfl) rfl (by rfl) (by rfl) dh1 (by cases dh <;> first | rfl | exact dh2) (by kernel_rfl) ?_
    go_wp2_with fail
    clear kvV0
    refine (hrightHet_any h (Par w V0.heap.size [] P) _ (.slice aha h.a.kids.length cha) (.slice ahb h.b.kids.length chb) (.slice ahx h.x.kids.length chx) (.slice ahy h.y.kids.length chy) (.slice ahh h.h.kids.length chh) ⟨Gh.out.1, Gh.out.2.1, Gh.out.2.2.1, Gh.out.2.2.2.1, Gh.out.2.2.2.2.1, Gh.out.2.2.2.2.2⟩ ⟨(HLha.out.later Kk13.out), (HLhb.out.later Kk13.out), (HLhx.out.later Kk13.out), (HLhy.out.later Kk13.out), (HLhh.out.later Kk13.out)⟩).mono ?_
    obtain ⟨rb20, hb19⟩ : ∃ qb, heR h = qb := ⟨_, rfl⟩
    rw [hb19]
    have Hhb19 := Lib.hid hb19
    clear hb19
    rintro e w17 ⟨rfl, k18⟩
    have Kk21 := Lib.hid k18
    clear k18
    cases rb20 with
    | false =>
      have kvV0 : Sees V0 (w.heap.size + 2) w17 := sees_kept _ (kept_trans Kk13.out Kk21.out)
      go_wp2_with (refine stop_store 51 (.tmp 4) (.tmp 22) rfl ?_)
      intro _
      refine wpList_store_part_n (by rfl) 51 (.tmp 4) (.tmp 22) rfl (w.heap.size + 2) 0 #[.int .i64 0, .int .i64 0, .int .i64 0, .int .i64 0, .int .i64 0, .slice none 0 0, .int .i64 0, .int .i64 0, .int .i64 0, .int .i64 0, .slice none 0 0, .int .i64 0, .int .i64 0, .int .i64 0, .int .i64 0, .slice none 0 0, .int .i64 0, .int .i64 0, .int .i64 0, .int .i64 0, .slice none 0 0, .int .i64 0, .int .i64 0, .int .i64 0, .int .i64 0, .slice none 0 0] (by rfl) (by rfl) 51 (by kernel_rfl) (row_ok rfl) ?_
      intro W22 hW22
      clear kvV0
      subst hW22
      refine ⟨_, #[.int .i64 0, .int .i64 0, .int .i64 0, .int .i64 0, .int .i64 0, .slice none 0 0, .int .i64 0, .int .i64 0, .int .i64 0, .int .i64 0, .slice none 0 0, .int .i64 0, .int .i64 0, .int .i64 0, .int .i64 0, .slice none 0 0, .int .i64 0, .int .i64 0, .int .i64 0, .int .i64 0, .slice none 0 0, .int .i64 0, .int .i64 0, .int .i64 0, .int .i64 0, .slice none 0 0], (blk_at Hx3.out (kept_trans Kk13.out Kk21.out)), rfl, Nat.le_of_ble_eq_true rfl, ?_⟩
      intro W23 hW23
      go_wp2_with fail
      refine bodyPost_ret (results_cell_row rfl _ _ (w.heap.size + 2) 51 _ _ dh rfl (blk_same (blk_at Hx3.out (kept_trans Kk13.out Kk21.out)) hW23) dh1 (by cases dh <;> first | rfl | exact dh2) (by kernel_rfl)) rfl ?_
      rw [show heThen g h = (⟨0, (.mk 0 0 0 0 []), (.mk 0 0 0 0 []), (.mk 0 0 0 0 []), (.mk 0 0 0 0 []), (.mk 0 0 0 0 [])⟩ : He) from by unfold heThen; rw [Hhb11.out, Hhb19.out]; (try rfl)]
      exact ⟨_, _, _, _, _, rfl, ⟨par_end (par_row' (liesQ_nil w17 (Par w V0.heap.size [] P)) hW23 (by omega) (by have := Z0.out; omega)) (by have := Z0.out; omega), par_end (par_row' (liesQ_nil w17 (Par w V0.heap.size [] P)) hW23 (by omega) (by have := Z0.out; omega)) (by have := Z0.out; omega), par_end (par_row' (liesQ_nil w17 (Par w V0.heap.size [] P)) hW23 (by omega) (by have := Z0.out; omega)) (by have := Z0.out; omega), par_end (par_row' (liesQ_nil w17 (Par w V0.heap.size [] P)) hW23 (by omega) (by have := Z0.out; omega)) (by have := Z0.out; omega), par_end (par_row' (liesQ_nil w17 (Par w V0.heap.size [] P)) hW23 (by omega) (by have := Z0.out; omega)) (by have := Z0.out; omega)⟩, kept_set (kept_trans Kk6.out (kept_trans Kk13.out Kk21.out)) hW23 (by omega)⟩
    | true =>
      have ew24 : IntKind.i64.wrap (h.i + 1) = h.i + 1 := IntWalk.i64_in _ (by have := levN_true (heR_lev Hhb19.out); omega)
      have kvV0 : Sees V0 (w.heap.size + 2) w17 := sees_kept _ (kept_trans Kk13.out Kk21.out)
      by_cases c25 : g.i = h.i
      · have ec25 : (g.i == h.i) = true := beq_iff_eq.2 c25
        have fc25 : (g.i != h.i) = false := by rw [bne, ec25]; rfl
        have Ec25 := Lib.hid ec25
        have Hc25 := Lib.hid c25
        clear c25
        go_wp2_with fail
        clear kvV0
        obtain ⟨W26, h27⟩ : ∃ x, World.drew w17 = x := ⟨_, rfl⟩
        have k28 : Kept w17 W26 := by rw [← h27]; exact kept_drew (kept_refl _)
        have Kk29 := Lib.hid k28
        clear k28
        refine wp_region_held_drew (S := Sees W26 (w.heap.size + 2)) (by kernel_rfl) ?_ (fun hHeld => ?_)
        · (try dsimp only)
          rw [h27]
          exact sees_kept _ (kept_refl _)
        rw [h27] at hHeld ⊢
        clear h27
        refine take_at 0 25 hthenr4_0 (v := ?_) (Or.inl ⟨by rfl, ?_⟩) ?_
        rotate_left 1
        · ((intro w hSw; (try dsimp only at hSw); unfold hthenr4_0; go_simp) <;> with_reducible rfl)
        (try simp only [Act.put, List.setIfInBounds_toArray, List.set_cons_zero, List.set_cons_succ])
        refine take_at 1 26 hthenr4_1 (v := ?_) (Or.inl ⟨by rfl, ?_⟩) ?_
        rotate_left 1
        · ((intro w hSw; (try dsimp only at hSw); unfold hthenr4_1; go_simp) <;> with_reducible rfl)
        (try simp only [Act.put, List.setIfInBounds_toArray, List.set_cons_zero, List.set_cons_succ])
        refine take_at 2 27 hthenr4_2 (v := ?_) (Or.inl ⟨by rfl, ?_⟩) ?_
        rotate_left 1
        · ((intro w hSw; (try dsimp only at hSw); unfold hthenr4_2; go_simp) <;> with_reducible rfl)
        (try simp only [Act.put, List.setIfInBounds_toArray, List.set_cons_zero, List.set_cons_succ])
        refine take_at 4 29 hthenr4_4 (v := ?_) (Or.inl ⟨by rfl, ?_⟩) ?_
        rotate_left 1
        · ((intro w hSw; (try dsimp only at hSw); unfold hthenr4_4; go_simp) <;> with_reducible rfl)
        (try simp only [Act.put, List.setIfInBounds_toArray, List.set_cons_zero, List.set_cons_succ])
        refine take_at 5 30 hthenr4_5 (v := ?_) (Or.inl ⟨by rfl, ?_⟩) ?_
        rotate_left 1
        · ((intro w hSw; (try dsimp only at hSw); unfold hthenr4_5; go_simp) <;> with_reducible rfl)
        (try simp only [Act.put, List.setIfInBounds_toArray, List.set_cons_zero, List.set_cons_succ])
        refine take_at 6 31 hthenr4_6 (yields_part (w.heap.size) 1 32 (.tmp 30) #[.int .i64 g.a.k, .int .i64 g.a.i, .int .i64 g.a.j, .int .i64 g.a.n, (.slice aga g.a.kids.length cga)] du (fun _ h => sees_blk Hx1.out (by have := Z0.out; omega) (sees_of (kept_trans Kk13.out (kept_trans Kk21.out Kk29.out)) h)) (by rfl) rfl (by rfl) (by rfl) hu1 (by cases du <;> first | rfl | exact hu2) size_term) ?_
        (try simp only [Act.put, List.setIfInBounds_toArray, List.set_cons_zero, List.set_cons_succ])
        refine take_at 7 32 hthenr4_7 (v := ?_) (Or.inl ⟨by rfl, ?_⟩) ?_
        rotate_left 1
        · ((intro w hSw; (try dsimp only at hSw); unfold hthenr4_7; go_simp) <;> with_reducible rfl)
        (try simp only [Act.put, List.setIfInBounds_toArray, List.set_cons_zero, List.set_cons_succ])
        refine take_at 8 33 hthenr4_8 (yields_part (w.heap.size) 11 32 (.tmp 32) #[.int .i64 g.x.k, .int .i64 g.x.i, .int .i64 g.x.j, .int .i64 g.x.n, (.slice agx g.x.kids.length cgx)] du (fun _ h => sees_blk Hx1.out (by have := Z0.out; omega) (sees_of (kept_trans Kk13.out (kept_trans Kk21.out Kk29.out)) h)) (by rfl) rfl (by rfl) (by rfl) hu1 (by cases du <;> first | rfl | exact hu2) size_term) ?_
        (try simp only [Act.put, List.setIfInBounds_toArray, List.set_cons_zero, List.set_cons_succ])
        refine take_at 10 35 hthenr4_10 (v := ?_) (Or.inl ⟨by rfl, ?_⟩) ?_
        rotate_left 1
        · ((intro w hSw; (try dsimp only at hSw); unfold hthenr4_10; go_simp) <;> with_reducible rfl)
        (try simp only [Act.put, List.setIfInBounds_toArray, List.set_cons_zero, List.set_cons_succ])
        refine take_at 11 36 hthenr4_11 (v := ?_) (Or.inl ⟨by rfl, ?_⟩) ?_
        rotate_left 1
        · ((intro w hSw; (try dsimp only at hSw); unfold hthenr4_11; go_simp) <;> with_reducible rfl)
        (try simp only [Act.put, List.setIfInBounds_toArray, List.set_cons_zero, List.set_cons_succ])
        refine take_at 12 37 hthenr4_12 (yields_part (w.heap.size) 6 32 (.tmp 36) #[.int .i64 g.b.k, .int .i64 g.b.i, .int .i64 g.b.j, .int .i64 g.b.n, (.slice agb g.b.kids.length cgb)] du (fun _ h => sees_blk Hx1.out (by have := Z0.out; omega) (sees_of (kept_trans Kk13.out (kept_trans Kk21.out Kk29.out)) h)) (by rfl) rfl (by rfl) (by rfl) hu1 (by cases du <;> first | rfl | exact hu2) size_term) ?_
        (try simp only [Act.put, List.setIfInBounds_toArray, List.set_cons_zero, List.set_cons_succ])
        refine take_at 13 38 hthenr4_13 (v := ?_) (Or.inl ⟨by rfl, ?_⟩) ?_
        rotate_left 1
        · ((intro w hSw; (try dsimp only at hSw); unfold hthenr4_13; go_simp) <;> with_reducible rfl)
        (try simp only [Act.put, List.setIfInBounds_toArray, List.set_cons_zero, List.set_cons_succ])
        refine take_at 14 39 hthenr4_14 (yields_part (w.heap.size) 16 32 (.tmp 38) #[.int .i64 g.y.k, .int .i64 g.y.i, .int .i64 g.y.j, .int .i64 g.y.n, (.slice agy g.y.kids.length cgy)] du (fun _ h => sees_blk Hx1.out (by have := Z0.out; omega) (sees_of (kept_trans Kk13.out (kept_trans Kk21.out Kk29.out)) h)) (by rfl) rfl (by rfl) (by rfl) hu1 (by cases du <;> first | rfl | exact hu2) size_term) ?_
        (try simp only [Act.put, List.setIfInBounds_toArray, List.set_cons_zero, List.set_cons_succ])
        refine take_at 16 41 hthenr4_16 (v := ?_) (Or.inl ⟨by rfl, ?_⟩) ?_
        rotate_left 1
        · ((intro w hSw; (try dsimp only at hSw); unfold hthenr4_16; go_simp) <;> with_reducible rfl)
        (try simp only [Act.put, List.setIfInBounds_toArray, List.set_cons_zero, List.set_cons_succ])
        refine take_at 17 42 hthenr4_17 (v := ?_) (Or.inl ⟨by rfl, ?_⟩) ?_
        rotate_left 1
        · ((intro w hSw; (try dsimp only at hSw); unfold hthenr4_17; go_simp) <;> with_reducible rfl)
        (try simp only [Act.put, List.setIfInBounds_toArray, List.set_cons_zero, List.set_cons_succ])
        refine take_at 18 43 hthenr4_18 (yields_part (w.heap.size + 1) 6 32 (.tmp 42) #[.int .i64 h.b.k, .int .i64 h.b.i, .int .i64 h.b.j, .int .i64 h.b.n, (.slice ahb h.b.kids.length chb)] du (fun _ h => sees_blk Hx2.out (by have := Z0.out; omega) (sees_of (kept_trans Kk13.out (kept_trans Kk21.out Kk29.out)) h)) (by rfl) rfl (by rfl) (by rfl) hu1 (by cases du <;> first | rfl | exact hu2) size_term) ?_
        (try simp only [Act.put, List.setIfInBounds_toArray, List.set_cons_zero, List.set_cons_succ])
        refine take_at 19 44 hthenr4_19 (v := ?_) (Or.inl ⟨by rfl, ?_⟩) ?_
        rotate_left 1
        · ((intro w hSw; (try dsimp only at hSw); unfold hthenr4_19; go_simp) <;> with_reducible rfl)
        (try simp only [Act.put, List.setIfInBounds_toArray, List.set_cons_zero, List.set_cons_succ])
        refine take_at 20 45 hthenr4_20 (yields_part (w.heap.size + 1) 16 32 (.tmp 44) #[.int .i64 h.y.k, .int .i64 h.y.i, .int .i64 h.y.j, .int .i64 h.y.n, (.slice ahy h.y.kids.length chy)] du (fun _ h => sees_blk Hx2.out (by have := Z0.out; omega) (sees_of (kept_trans Kk13.out (kept_trans Kk21.out Kk29.out)) h)) (by rfl) rfl (by rfl) (by rfl) hu1 (by cases du <;> first | rfl | exact hu2) size_term) ?_
        (try simp only [Act.put, List.setIfInBounds_toArray, List.set_cons_zero, List.set_cons_succ])
        refine take_at 22 47 hthenr4_22 (v := ?_) (Or.inl ⟨by rfl, ?_⟩) ?_
        rotate_left 1
        · ((intro w hSw; (try dsimp only at hSw); unfold hthenr4_22; go_simp) <;> with_reducible rfl)
        (try simp only [Act.put, List.setIfInBounds_toArray, List.set_cons_zero, List.set_cons_succ])
        refine take_at 23 48 hthenr4_23 (yields_part (w.heap.size) 21 32 (.tmp 47) #[.int .i64 g.h.k, .int .i64 g.h.i, .int .i64 g.h.j, .int .i64 g.h.n, (.slice agh g.h.kids.length cgh)] du (fun _ h => sees_blk Hx1.out (by have := Z0.out; omega) (sees_of (kept_trans Kk13.out (kept_trans Kk21.out Kk29.out)) h)) (by rfl) rfl (by rfl) (by rfl) hu1 (by cases du <;> first | rfl | exact hu2) size_term) ?_
        (try simp only [Act.put, List.setIfInBounds_toArray, List.set_cons_zero, List.set_cons_succ])
        refine take_at 24 49 hthenr4_24 (v := ?_) (Or.inl ⟨by rfl, ?_⟩) ?_
        rotate_left 1
        · ((intro w hSw; (try dsimp only at hSw); unfold hthenr4_24; go_simp) <;> with_reducible rfl)
        (try simp only [Act.put, List.setIfInBounds_toArray, List.set_cons_zero, List.set_cons_succ])
        refine take_at 25 50 hthenr4_25 (yields_part (w.heap.size + 1) 21 32 (.tmp 49) #[.int .i64 h.h.k, .int .i64 h.h.i, .int .i64 h.h.j, .int .i64 h.h.n, (.slice ahh h.h.kids.length chh)] du (fun _ h => sees_blk Hx2.out (by have := Z0.out; omega) (sees_of (kept_trans Kk13.out (kept_trans Kk21.out Kk29.out)) h)) (by rfl) rfl (by rfl) (by rfl) hu1 (by cases du <;> first | rfl | exact hu2) size_term) ?_
        (try simp only [Act.put, List.setIfInBounds_toArray, List.set_cons_zero, List.set_cons_succ])
        refine wpAnyH_ready (rs := [3, 28]) (by kernel_rfl) (by simp) ?_
        refine AllReadyH.cons (o := hthenr4_3) rfl (fun K hK => ?_) ?_
        · unfold hthenr4_3
          go_simp
          refine (hpoints_any g.i (Par w V0.heap.size [] P) _ Gg.out.1).mono ?_
          obtain ⟨U37, hU37⟩ : ∃ qu, pointsT g.i = qu := ⟨_, rfl⟩
          rw [hU37]
          have HU37 := Lib.hid hU37
          clear hU37
          rintro e w30 ⟨s32, rfl, hl33, k31⟩
          obtain ⟨a34, c35, S36, rfl, -⟩ := hl33.out
          have Kk38 := Lib.hid k31
          clear k31
          have Hhl33 : Hid (LiesQ w30 (Par w V0.heap.size [] P) U37.kids _) := par_give hl33 (Below.size (kept_trans Kk13.out (kept_trans Kk21.out Kk29.out))) (xlt_nil _)
          clear hl33
          clear hHeld
          refine hK.out _ _ ?_ (fun hHeld => ?_)
          · (try dsimp only)
            exact sees_kept _ Kk38.out
          clear hK K
          (try simp only [Act.put, List.setIfInBounds_toArray, List.set_cons_zero, List.set_cons_succ])
          refine wpAnyH_ready (rs := [9, 28]) (by kernel_rfl) (by simp) ?_
          refine AllReadyH.cons (o := hthenr4_9) rfl (fun K hK => ?_) ?_
          · unfold hthenr4_9
            go_simp
            refine (hpoint_any g.i g.a g.x (Par w V0.heap.size [] P) _ (.slice aga g.a.kids.length cga) (.slice agx g.x.kids.length cgx) Gg.out.1 Gg.out.2.1 (HLga.out.later (kept_trans Kk13.out (kept_trans Kk21.out (kept_trans Kk29.out Kk38.out)))) Gg.out.2.2.2.1 (HLgx.out.later (kept_trans Kk13.out (kept_trans Kk21.out (kept_trans Kk29.out Kk38.out)))) (heR_pl Hhb11.out _ (by simp)) (heR_pl Hhb11.out _ (by simp))).mono ?_
            obtain ⟨U46, hU46⟩ : ∃ qu, pointT g.i g.a g.x = qu := ⟨_, rfl⟩
            rw [hU46]
            have HU46 := Lib.hid hU46
            clear hU46
            rintro e w39 ⟨s41, rfl, hl42, k40⟩
            obtain ⟨a43, c44, S45, rfl, -⟩ := hl42.out
            have Kk47 := Lib.hid k40
            clear k40
            have Hhl42 : Hid (LiesQ w39 (Par w V0.heap.size [] P) U46.kids _) := par_give hl42 (Below.size (kept_trans Kk13.out (kept_trans Kk21.out (kept_trans Kk29.out Kk38.out)))) (xlt_nil _)
            clear hl42
            clear hHeld
            refine hK.out _ _ ?_ (fun hHeld => ?_)
            · (try dsimp only)
              exact sees_kept _ (kept_trans Kk38.out Kk47.out)
            clear hK K
            (try simp only [Act.put, List.setIfInBounds_toArray, List.set_cons_zero, List.set_cons_succ])
            refine wpAnyH_ready (rs := [15, 28]) (by kernel_rfl) (by simp) ?_
            refine AllReadyH.cons (o := hthenr4_15) rfl (fun K hK => ?_) ?_
            · unfold hthenr4_15
              go_simp
              refine (hpoint_any g.i g.b g.y (Par w V0.heap.size [] P) _ (.slice agb g.b.kids.length cgb) (.slice agy g.y.kids.length cgy) Gg.out.1 Gg.out.2.2.1 (HLgb.out.later (kept_trans Kk13.out (kept_trans Kk21.out (kept_trans Kk29.out (kept_trans Kk38.out Kk47.out))))) Gg.out.2.2.2.2.1 (HLgy.out.later (kept_trans Kk13.out (kept_trans Kk21.out (kept_trans Kk29.out (kept_trans Kk38.out Kk47.out))))) (heR_pl Hhb11.out _ (by simp)) (heR_pl Hhb11.out _ (by simp))).mono ?_
              obtain ⟨U55, hU55⟩ : ∃ qu, pointT g.i g.b g.y = qu := ⟨_, rfl⟩
              rw [hU55]
              have HU55 := Lib.hid hU55
              clear hU55
              rintro e w48 ⟨s50, rfl, hl51, k49⟩
              obtain ⟨a52, c53, S54, rfl, -⟩ := hl51.out
              have Kk56 := Lib.hid k49
              clear k49
              have Hhl51 : Hid (LiesQ w48 (Par w V0.heap.size [] P) U55.kids _) := par_give hl51 (Below.size (kept_trans Kk13.out (kept_trans Kk21.out (kept_trans Kk29.out (kept_trans Kk38.out Kk47.out))))) (xlt_nil _)
              clear hl51
              clear hHeld
              refine hK.out _ _ ?_ (fun hHeld => ?_)
              · (try dsimp only)
                exact sees_kept _ (kept_trans Kk38.out (kept_trans Kk47.out Kk56.out))
              clear hK K
              (try simp only [Act.put, List.setIfInBounds_toArray, List.set_cons_zero, List.set_cons_succ])
              refine wpAnyH_ready (rs := [21, 28]) (by kernel_rfl) (by simp) ?_
              refine AllReadyH.cons (o := hthenr4_21) rfl (fun K hK => ?_) ?_
              · unfold hthenr4_21
                go_simp
                refine (hpoint_any g.i h.b h.y (Par w V0.heap.size [] P) _ (.slice ahb h.b.kids.length chb) (.slice ahy h.y.kids.length chy) Gg.out.1 Gh.out.2.2.1 (HLhb.out.later (kept_trans Kk13.out (kept_trans Kk21.out (kept_trans Kk29.out (kept_trans Kk38.out (kept_trans Kk47.out Kk56.out)))))) Gh.out.2.2.2.2.1 (HLhy.out.later (kept_trans Kk13.out (kept_trans Kk21.out (kept_trans Kk29.out (kept_trans Kk38.out (kept_trans Kk47.out Kk56.out)))))) (heR_pl Hhb19.out _ (by simp)) (heR_pl Hhb19.out _ (by simp))).mono ?_
                obtain ⟨U64, hU64⟩ : ∃ qu, pointT g.i h.b h.y = qu := ⟨_, rfl⟩
                rw [hU64]
                have HU64 := Lib.hid hU64
                clear hU64
                rintro e w57 ⟨s59, rfl, hl60, k58⟩
                obtain ⟨a61, c62, S63, rfl, -⟩ := hl60.out
                have Kk65 := Lib.hid k58
                clear k58
                have Hhl60 : Hid (LiesQ w57 (Par w V0.heap.size [] P) U64.kids _) := par_give hl60 (Below.size (kept_trans Kk13.out (kept_trans Kk21.out (kept_trans Kk29.out (kept_trans Kk38.out (kept_trans Kk47.out Kk56.out)))))) (xlt_nil _)
                clear hl60
                clear hHeld
                refine hK.out _ _ ?_ (fun hHeld => ?_)
                · (try dsimp only)
                  exact sees_kept _ (kept_trans Kk38.out (kept_trans Kk47.out (kept_trans Kk56.out Kk65.out)))
                clear hK K
                (try simp only [Act.put, List.setIfInBounds_toArray, List.set_cons_zero, List.set_cons_succ])
                refine wpAnyH_ready (rs := [26, 28]) (by kernel_rfl) (by simp) ?_
                refine AllReadyH.cons (o := hthenr4_26) rfl (fun K hK => ?_) ?_
                · unfold hthenr4_26
                  go_simp
                  refine at_K (fun W67 hW67 => ?_)
                  obtain ⟨k69, x68, z70⟩ := alloc1 hW67
                  have Kk71 := Lib.hid k69
                  clear k69
                  have Hx68 := Lib.hid x68
                  have Hz70 := Lib.hid z70
                  clear x68 z70 hW67
                  have HR72 : Hid (LiesQ W67 (Par w V0.heap.size [] P) [U37, U46, U55, U64, g.h, h.h] (.slice (some ⟨w57.heap.size, 0, none⟩) 6 6)) := q_row [(U37, (.slice a34 U37.kids.length c35)), (U46, (.slice a43 U46.kids.length c44)), (U55, (.slice a52 U55.kids.length c53)), (U64, (.slice a61 U64.kids.length c62)), (g.h, (.slice agh g.h.kids.length cgh)), (h.h, (.slice ahh h.h.kids.length chh))] _ rfl Hx68.out (par_new (Below.size (kept_trans Kk13.out (kept_trans Kk21.out (kept_trans Kk29.out (kept_trans Kk38.out (kept_trans Kk47.out (kept_trans Kk56.out Kk65.out))))))) (xlt_nil _) (Nat.le_refl _)) (fun p hp => by
                    simp only [List.mem_cons, List.not_mem_nil, or_false] at hp
                    rcases hp with rfl | rfl | rfl | rfl | rfl | rfl
                    · exact ⟨(by rw [← HU37.out]; exact (right_fine (plain_right (points_plain (heR_lev Hhb11.out))))), (Hhl33.out.later (kept_trans Kk47.out (kept_trans Kk56.out (kept_trans Kk65.out Kk71.out))))⟩
                    · exact ⟨(by rw [← HU46.out]; exact (right_fine (plain_right (point_plain (heR_lev Hhb11.out) (heR_pl Hhb11.out _ (by simp)) (heR_pl Hhb11.out _ (by simp)))))), (Hhl42.out.later (kept_trans Kk56.out (kept_trans Kk65.out Kk71.out)))⟩
                    · exact ⟨(by rw [← HU55.out]; exact (right_fine (plain_right (point_plain (heR_lev Hhb11.out) (heR_pl Hhb11.out _ (by simp)) (heR_pl Hhb11.out _ (by simp)))))), (Hhl51.out.later (kept_trans Kk65.out Kk71.out))⟩
                    · exact ⟨(by rw [← HU64.out]; exact (right_fine (plain_right (point_plain (heR_lev Hhb11.out) (heR_pl Hhb19.out _ (by simp)) (heR_pl Hhb19.out _ (by simp)))))), (Hhl60.out.later Kk71.out)⟩
                    · exact ⟨Gg.out.2.2.2.2.2, (HLgh.out.later (kept_trans Kk13.out (kept_trans Kk21.out (kept_trans Kk29.out (kept_trans Kk38.out (kept_trans Kk47.out (kept_trans Kk56.out (kept_trans Kk65.out Kk71.out))))))))⟩
                    · exact ⟨Gh.out.2.2.2.2.2, (HLhh.out.later (kept_trans Kk13.out (kept_trans Kk21.out (kept_trans Kk29.out (kept_trans Kk38.out (kept_trans Kk47.out (kept_trans Kk56.out (kept_trans Kk65.out Kk71.out))))))))⟩) (Nat.le_of_ble_eq_true rfl)
                  clear hHeld
                  refine hK.out _ _ ?_ (fun hHeld => ?_)
                  · (try dsimp only)
                    exact sees_kept _ (kept_trans Kk38.out (kept_trans Kk47.out (kept_trans Kk56.out (kept_trans Kk65.out Kk71.out))))
                  clear hK K
                  (try simp only [Act.put, List.setIfInBounds_toArray, List.set_cons_zero, List.set_cons_succ])
                  refine wpAnyH_ready (rs := [27, 28]) (by kernel_rfl) (by simp) ?_
                  refine AllReadyH.cons (o := hthenr4_27) rfl (fun K hK => ?_) ?_
                  · unfold hthenr4_27
                    go_simp
                    refine (huse_any 4 (g.i + 1) [U37, U46, U55, U64, g.h, h.h] (Par w V0.heap.size [] P) _ _ (show I64 4 from by unfold I64; decide) (lev_succ (heR_lev Hhb11.out) (by decide)) HR72.out (fun x hx => by
                      simp only [List.mem_cons, List.not_mem_nil, or_false] at hx
                      rcases hx with rfl | rfl | rfl | rfl | rfl | rfl
                      · exact (by rw [← HU37.out]; exact (points_plain (heR_lev Hhb11.out)))
                      · exact (by rw [← HU46.out]; exact (point_plain (heR_lev Hhb11.out) (heR_pl Hhb11.out _ (by simp)) (heR_pl Hhb11.out _ (by simp))))
                      · exact (by rw [← HU55.out]; exact (point_plain (heR_lev Hhb11.out) (heR_pl Hhb11.out _ (by simp)) (heR_pl Hhb11.out _ (by simp))))
                      · exact (by rw [← HU64.out]; exact (point_plain (heR_lev Hhb11.out) (heR_pl Hhb19.out _ (by simp)) (heR_pl Hhb19.out _ (by simp))))
                      · exact (heR_pl Hhb11.out _ (by simp))
                      · exact (heR_pl Hhb19.out _ (by simp))) (Nat.le_of_ble_eq_true rfl)).mono ?_
                    obtain ⟨U80, hU80⟩ : ∃ qu, useT 4 (g.i + 1) 0 [U37, U46, U55, U64, g.h, h.h] = qu := ⟨_, rfl⟩
                    rw [hU80]
                    have HU80 := Lib.hid hU80
                    clear hU80
                    rintro e w73 ⟨s75, rfl, hl76, k74⟩
                    obtain ⟨a77, c78, S79, rfl, -⟩ := hl76.out
                    have Kk81 := Lib.hid k74
                    clear k74
                    have Hhl76 : Hid (LiesQ w73 (Par w V0.heap.size [] P) U80.kids _) := par_give hl76 (Below.size (kept_trans Kk13.out (kept_trans Kk21.out (kept_trans Kk29.out (kept_trans Kk38.out (kept_trans Kk47.out (kept_trans Kk56.out (kept_trans Kk65.out Kk71.out)))))))) (xlt_nil _)
                    clear hl76
                    clear hHeld
                    refine hK.out _ _ ?_ (fun hHeld => ?_)
                    · (try dsimp only)
                      exact sees_kept _ (kept_trans Kk38.out (kept_trans Kk47.out (kept_trans Kk56.out (kept_trans Kk65.out (kept_trans Kk71.out Kk81.out)))))
                    clear hK K
                    (try simp only [Act.put, List.setIfInBounds_toArray, List.set_cons_zero, List.set_cons_succ])
                    refine wpAnyH_ready (rs := [28]) (by kernel_rfl) (by simp) ?_
                    refine AllReadyH.cons (o := hthenr4_28) rfl (fun K hK => ?_) ?_
                    · unfold hthenr4_28
                      go_simp
                      refine at_K (fun W82 hW82 => ?_)
                      obtain ⟨k84, x83, z85⟩ := alloc1 hW82
                      have Kk86 := Lib.hid k84
                      clear k84
                      have Hx83 := Lib.hid x83
                      have Hz85 := Lib.hid z85
                      clear x83 z85 hW82
                      have HG87 : Hid (V0.heap.size ≤ w73.heap.size) := (Below.size (kept_trans Kk13.out (kept_trans Kk21.out (kept_trans Kk29.out (kept_trans Kk38.out (kept_trans Kk47.out (kept_trans Kk56.out (kept_trans Kk65.out (kept_trans Kk71.out Kk81.out)))))))))
                      have XL88 := Lib.hid (xlt_more (xlt_nil _) Kk86.out (by have := Hz85.out; omega))
                      have HL89 : Hid (LiesQ W82 (Par w V0.heap.size (w73.heap.size :: []) P) g.a.kids _) := (par_more (HLga.out.later (kept_trans Kk13.out (kept_trans Kk21.out (kept_trans Kk29.out (kept_trans Kk38.out (kept_trans Kk47.out (kept_trans Kk56.out (kept_trans Kk65.out (kept_trans Kk71.out Kk81.out)))))))))).later Kk86.out
                      have HL90 : Hid (LiesQ W82 (Par w V0.heap.size (w73.heap.size :: []) P) g.b.kids _) := (par_more (HLgb.out.later (kept_trans Kk13.out (kept_trans Kk21.out (kept_trans Kk29.out (kept_trans Kk38.out (kept_trans Kk47.out (kept_trans Kk56.out (kept_trans Kk65.out (kept_trans Kk71.out Kk81.out)))))))))).later Kk86.out
                      have HL91 : Hid (LiesQ W82 (Par w V0.heap.size (w73.heap.size :: []) P) g.x.kids _) := (par_more (HLgx.out.later (kept_trans Kk13.out (kept_trans Kk21.out (kept_trans Kk29.out (kept_trans Kk38.out (kept_trans Kk47.out (kept_trans Kk56.out (kept_trans Kk65.out (kept_trans Kk71.out Kk81.out)))))))))).later Kk86.out
                      have HL92 : Hid (LiesQ W82 (Par w V0.heap.size (w73.heap.size :: []) P) g.y.kids _) := (par_more (HLgy.out.later (kept_trans Kk13.out (kept_trans Kk21.out (kept_trans Kk29.out (kept_trans Kk38.out (kept_trans Kk47.out (kept_trans Kk56.out (kept_trans Kk65.out (kept_trans Kk71.out Kk81.out)))))))))).later Kk86.out
                      have HL93 : Hid (LiesQ W82 (Par w V0.heap.size (w73.heap.size :: []) P) g.h.kids _) := (par_more (HLgh.out.later (kept_trans Kk13.out (kept_trans Kk21.out (kept_trans Kk29.out (kept_trans Kk38.out (kept_trans Kk47.out (kept_trans Kk56.out (kept_trans Kk65.out (kept_trans Kk71.out Kk81.out)))))))))).later Kk86.out
                      have HL94 : Hid (LiesQ W82 (Par w V0.heap.size (w73.heap.size :: []) P) h.a.kids _) := (par_more (HLha.out.later (kept_trans Kk13.out (kept_trans Kk21.out (kept_trans Kk29.out (kept_trans Kk38.out (kept_trans Kk47.out (kept_trans Kk56.out (kept_trans Kk65.out (kept_trans Kk71.out Kk81.out)))))))))).later Kk86.out
                      have HL95 : Hid (LiesQ W82 (Par w V0.heap.size (w73.heap.size :: []) P) h.b.kids _) := (par_more (HLhb.out.later (kept_trans Kk13.out (kept_trans Kk21.out (kept_trans Kk29.out (kept_trans Kk38.out (kept_trans Kk47.out (kept_trans Kk56.out (kept_trans Kk65.out (kept_trans Kk71.out Kk81.out)))))))))).later Kk86.out
                      have HL96 : Hid (LiesQ W82 (Par w V0.heap.size (w73.heap.size :: []) P) h.x.kids _) := (par_more (HLhx.out.later (kept_trans Kk13.out (kept_trans Kk21.out (kept_trans Kk29.out (kept_trans Kk38.out (kept_trans Kk47.out (kept_trans Kk56.out (kept_trans Kk65.out (kept_trans Kk71.out Kk81.out)))))))))).later Kk86.out
                      have HL97 : Hid (LiesQ W82 (Par w V0.heap.size (w73.heap.size :: []) P) h.y.kids _) := (par_more (HLhy.out.later (kept_trans Kk13.out (kept_trans Kk21.out (kept_trans Kk29.out (kept_trans Kk38.out (kept_trans Kk47.out (kept_trans Kk56.out (kept_trans Kk65.out (kept_trans Kk71.out Kk81.out)))))))))).later Kk86.out
                      have HL98 : Hid (LiesQ W82 (Par w V0.heap.size (w73.heap.size :: []) P) h.h.kids _) := (par_more (HLhh.out.later (kept_trans Kk13.out (kept_trans Kk21.out (kept_trans Kk29.out (kept_trans Kk38.out (kept_trans Kk47.out (kept_trans Kk56.out (kept_trans Kk65.out (kept_trans Kk71.out Kk81.out)))))))))).later Kk86.out
                      have HL99 : Hid (LiesQ W82 (Par w V0.heap.size (w73.heap.size :: []) P) U37.kids _) := (par_more (Hhl33.out.later (kept_trans Kk47.out (kept_trans Kk56.out (kept_trans Kk65.out (kept_trans Kk71.out Kk81.out)))))).later Kk86.out
                      have HL100 : Hid (LiesQ W82 (Par w V0.heap.size (w73.heap.size :: []) P) U46.kids _) := (par_more (Hhl42.out.later (kept_trans Kk56.out (kept_trans Kk65.out (kept_trans Kk71.out Kk81.out))))).later Kk86.out
                      have HL101 : Hid (LiesQ W82 (Par w V0.heap.size (w73.heap.size :: []) P) U55.kids _) := (par_more (Hhl51.out.later (kept_trans Kk65.out (kept_trans Kk71.out Kk81.out)))).later Kk86.out
                      have HL102 : Hid (LiesQ W82 (Par w V0.heap.size (w73.heap.size :: []) P) U64.kids _) := (par_more (Hhl60.out.later (kept_trans Kk71.out Kk81.out))).later Kk86.out
                      have HL103 : Hid (LiesQ W82 (Par w V0.heap.size (w73.heap.size :: []) P) [U37, U46, U55, U64, g.h, h.h] _) := (par_more (HR72.out.later Kk81.out)).later Kk86.out
                      have HL104 : Hid (LiesQ W82 (Par w V0.heap.size (w73.heap.size :: []) P) U80.kids _) := (par_more Hhl76.out).later Kk86.out
                      clear hHeld
                      refine hK.out _ _ ?_ (fun hHeld => ?_)
                      · (try dsimp only)
                        exact sees_kept _ (kept_trans Kk38.out (kept_trans Kk47.out (kept_trans Kk56.out (kept_trans Kk65.out (kept_trans Kk71.out (kept_trans Kk81.out Kk86.out))))))
                      clear hK K
                      (try simp only [Act.put, List.setIfInBounds_toArray, List.set_cons_zero, List.set_cons_succ])
                      refine wpAnyH_ready (rs := [29]) (by kernel_rfl) (by simp) ?_
                      refine AllReadyH.cons (o := hthenr4_29) rfl (fun K hK => ?_) ?_
                      · unfold hthenr4_29
                        refine step_store_part rfl 32 (.tmp 6) (.tmp 52) rfl (w73.heap.size) 0 #[.int .i64 U80.k, .int .i64 U80.i, .int .i64 U80.j, .int .i64 U80.n, (.slice a77 U80.kids.length c78)] rfl rfl 32 size_term (row_ok rfl) _ #[.int .i64 U80.k, .int .i64 U80.i, .int .i64 U80.j, .int .i64 U80.n, (.slice a77 U80.kids.length c78)] Hx83.out rfl (Nat.le_of_ble_eq_true rfl) ?_
                        intro W105 hW105
                        have KB106 := Lib.hid (kept_set (kept_trans Kk6.out (kept_trans Kk13.out (kept_trans Kk21.out (kept_trans Kk29.out (kept_trans Kk38.out (kept_trans Kk47.out (kept_trans Kk56.out (kept_trans Kk65.out (kept_trans Kk71.out (kept_trans Kk81.out Kk86.out)))))))))) hW105 (by have := HG87.out; have := Z0.out; omega))
                        have KB107 := Lib.hid (kept_set (kept_trans Kk13.out (kept_trans Kk21.out (kept_trans Kk29.out (kept_trans Kk38.out (kept_trans Kk47.out (kept_trans Kk56.out (kept_trans Kk65.out (kept_trans Kk71.out (kept_trans Kk81.out Kk86.out))))))))) hW105 HG87.out)
                        have KB108 := Lib.hid (kept_set (kept_trans Kk38.out (kept_trans Kk47.out (kept_trans Kk56.out (kept_trans Kk65.out (kept_trans Kk71.out (kept_trans Kk81.out Kk86.out)))))) hW105 (Below.size (kept_trans Kk38.out (kept_trans Kk47.out (kept_trans Kk56.out (kept_trans Kk65.out (kept_trans Kk71.out Kk81.out)))))))
                        have HL109 : Hid (LiesQ W105 (Par w V0.heap.size (w73.heap.size :: []) P) g.a.kids _) := par_set HL89.out hW105 (List.mem_cons_self ..) (by have := HG87.out; have := Z0.out; omega)
                        have HL110 : Hid (LiesQ W105 (Par w V0.heap.size (w73.heap.size :: []) P) g.b.kids _) := par_set HL90.out hW105 (List.mem_cons_self ..) (by have := HG87.out; have := Z0.out; omega)
                        have HL111 : Hid (LiesQ W105 (Par w V0.heap.size (w73.heap.size :: []) P) g.x.kids _) := par_set HL91.out hW105 (List.mem_cons_self ..) (by have := HG87.out; have := Z0.out; omega)
                        have HL112 : Hid (LiesQ W105 (Par w V0.heap.size (w73.heap.size :: []) P) g.y.kids _) := par_set HL92.out hW105 (List.mem_cons_self ..) (by have := HG87.out; have := Z0.out; omega)
                        have HL113 : Hid (LiesQ W105 (Par w V0.heap.size (w73.heap.size :: []) P) g.h.kids _) := par_set HL93.out hW105 (List.mem_cons_self ..) (by have := HG87.out; have := Z0.out; omega)
                        have HL114 : Hid (LiesQ W105 (Par w V0.heap.size (w73.heap.size :: []) P) h.a.kids _) := par_set HL94.out hW105 (List.mem_cons_self ..) (by have := HG87.out; have := Z0.out; omega)
                        have HL115 : Hid (LiesQ W105 (Par w V0.heap.size (w73.heap.size :: []) P) h.b.kids _) := par_set HL95.out hW105 (List.mem_cons_self ..) (by have := HG87.out; have := Z0.out; omega)
                        have HL116 : Hid (LiesQ W105 (Par w V0.heap.size (w73.heap.size :: []) P) h.x.kids _) := par_set HL96.out hW105 (List.mem_cons_self ..) (by have := HG87.out; have := Z0.out; omega)
                        have HL117 : Hid (LiesQ W105 (Par w V0.heap.size (w73.heap.size :: []) P) h.y.kids _) := par_set HL97.out hW105 (List.mem_cons_self ..) (by have := HG87.out; have := Z0.out; omega)
                        have HL118 : Hid (LiesQ W105 (Par w V0.heap.size (w73.heap.size :: []) P) h.h.kids _) := par_set HL98.out hW105 (List.mem_cons_self ..) (by have := HG87.out; have := Z0.out; omega)
                        have HL119 : Hid (LiesQ W105 (Par w V0.heap.size (w73.heap.size :: []) P) U37.kids _) := par_set HL99.out hW105 (List.mem_cons_self ..) (by have := HG87.out; have := Z0.out; omega)
                        have HL120 : Hid (LiesQ W105 (Par w V0.heap.size (w73.heap.size :: []) P) U46.kids _) := par_set HL100.out hW105 (List.mem_cons_self ..) (by have := HG87.out; have := Z0.out; omega)
                        have HL121 : Hid (LiesQ W105 (Par w V0.heap.size (w73.heap.size :: []) P) U55.kids _) := par_set HL101.out hW105 (List.mem_cons_self ..) (by have := HG87.out; have := Z0.out; omega)
                        have HL122 : Hid (LiesQ W105 (Par w V0.heap.size (w73.heap.size :: []) P) U64.kids _) := par_set HL102.out hW105 (List.mem_cons_self ..) (by have := HG87.out; have := Z0.out; omega)
                        have HL123 : Hid (LiesQ W105 (Par w V0.heap.size (w73.heap.size :: []) P) [U37, U46, U55, U64, g.h, h.h] _) := par_set HL103.out hW105 (List.mem_cons_self ..) (by have := HG87.out; have := Z0.out; omega)
                        have HL124 : Hid (LiesQ W105 (Par w V0.heap.size (w73.heap.size :: []) P) U80.kids _) := par_set HL104.out hW105 (List.mem_cons_self ..) (by have := HG87.out; have := Z0.out; omega)
                        have XL125 := Lib.hid (xlt_set XL88.out hW105)
                        have HX126 := Lib.hid (blk_same Hx83.out hW105)
                        clear hW105
                        clear hHeld
                        refine hK.out _ _ ?_ (fun hHeld => ?_)
                        · (try dsimp only)
                          exact sees_kept _ KB108.out
                        clear hK K
                        (try simp only [Act.put])
                        refine wpAnyH_done (by kernel_rfl) ?_ _
                        clear hHeld
                        have kvV0 : Sees V0 (w.heap.size + 2) W105 := sees_kept _ KB107.out
                        have kvW105 : Sees W105 (w.heap.size + 2) W105 := sees_kept _ (kept_refl _)
                        go_wp2_with (refine stop_load 32 (.tmp 54) rfl ?_)
                        intro _
                        refine wpList_load_part (w.heap.size) 1 32 (.tmp 54) #[.int .i64 g.a.k, .int .i64 g.a.i, .int .i64 g.a.j, .int .i64 g.a.n, (.slice aga g.a.kids.length cga)] du (blk_at Hx1.out KB107.out) (by rfl) rfl (by rfl) (by rfl) hu1 (by cases du <;> first | rfl | exact hu2) size_term ?_
                        go_wp2_with (refine stop_load 32 (.tmp 56) rfl ?_)
                        intro _
                        refine wpList_load_part (w.heap.size + 1) 6 32 (.tmp 56) #[.int .i64 h.b.k, .int .i64 h.b.i, .int .i64 h.b.j, .int .i64 h.b.n, (.slice ahb h.b.kids.length chb)] du (blk_at Hx2.out KB107.out) (by rfl) rfl (by rfl) (by rfl) hu1 (by cases du <;> first | rfl | exact hu2) size_term ?_
                        go_wp2_with (refine stop_load 32 (.tmp 58) rfl ?_)
                        intro _
                        refine wpList_load_part (w.heap.size) 11 32 (.tmp 58) #[.int .i64 g.x.k, .int .i64 g.x.i, .int .i64 g.x.j, .int .i64 g.x.n, (.slice agx g.x.kids.length cgx)] du (blk_at Hx1.out KB107.out) (by rfl) rfl (by rfl) (by rfl) hu1 (by cases du <;> first | rfl | exact hu2) size_term ?_
                        go_wp2_with (refine stop_load 32 (.tmp 60) rfl ?_)
                        intro _
                        refine wpList_load_part (w.heap.size + 1) 16 32 (.tmp 60) #[.int .i64 h.y.k, .int .i64 h.y.i, .int .i64 h.y.j, .int .i64 h.y.n, (.slice ahy h.y.kids.length chy)] du (blk_at Hx2.out KB107.out) (by rfl) rfl (by rfl) (by rfl) hu1 (by cases du <;> first | rfl | exact hu2) size_term ?_
                        go_wp2_with (refine stop_load 32 (.tmp 6) rfl ?_)
                        intro _
                        refine wpList_load_part (w73.heap.size) 0 32 (.tmp 6) #[.int .i64 U80.k, .int .i64 U80.i, .int .i64 U80.j, .int .i64 U80.n, (.slice a77 U80.kids.length c78)] du HX126.out (by rfl) rfl (by rfl) (by rfl) hu1 (by cases du <;> first | rfl | exact hu2) size_term ?_
                        go_wp2_with fail
                        clear kvV0
                        clear kvW105
                        refine (hfresh_any (⟨g.i, g.a, h.b, g.x, h.y, U80⟩ : He) (Par w V0.heap.size (w73.heap.size :: []) P) _ (.slice aga g.a.kids.length cga) (.slice ahb h.b.kids.length chb) (.slice agx g.x.kids.length cgx) (.slice ahy h.y.kids.length chy) (.slice a77 U80.kids.length c78) ⟨Gg.out.1, Gg.out.2.1, Gh.out.2.2.1, Gg.out.2.2.2.1, Gh.out.2.2.2.2.1, (by rw [← HU80.out]; exact (use_fine (show I64 4 from by unfold I64; decide) (lev_succ (heR_lev Hhb11.out) (by decide)) (by unfold I64; decide)))⟩ ⟨HL109.out, HL115.out, HL111.out, HL117.out, HL124.out⟩ (heR_pl Hhb11.out _ (by simp)) (heR_pl Hhb19.out _ (by simp)) (heR_pl Hhb11.out _ (by simp)) (heR_pl Hhb19.out _ (by simp))).mono ?_
                        obtain ⟨U129, hU129⟩ : ∃ qu, (⟨g.i, g.a, h.b, g.x, h.y, U80⟩ : He) = qu := ⟨_, rfl⟩
                        rw [hU129]
                        have HU129 := Lib.hid hU129
                        clear hU129
                        rintro e w127 ⟨s130, s131, s132, s133, s134, rfl, ⟨hl135, hl136, hl137, hl138, hl139⟩, k128⟩
                        obtain ⟨a140, c141, S142, rfl, -⟩ := hl135.out
                        obtain ⟨a143, c144, S145, rfl, -⟩ := hl136.out
                        obtain ⟨a146, c147, S148, rfl, -⟩ := hl137.out
                        obtain ⟨a149, c150, S151, rfl, -⟩ := hl138.out
                        obtain ⟨a152, c153, S154, rfl, -⟩ := hl139.out
                        have Kk155 := Lib.hid k128
                        clear k128
                        have Hhl135 : Hid (LiesQ w127 (Par w V0.heap.size (w73.heap.size :: []) P) U129.a.kids _) := par_give hl135 (Below.size KB107.out) XL125.out
                        have Hhl136 : Hid (LiesQ w127 (Par w V0.heap.size (w73.heap.size :: []) P) U129.b.kids _) := par_give hl136 (Below.size KB107.out) XL125.out
                        have Hhl137 : Hid (LiesQ w127 (Par w V0.heap.size (w73.heap.size :: []) P) U129.x.kids _) := par_give hl137 (Below.size KB107.out) XL125.out
                        have Hhl138 : Hid (LiesQ w127 (Par w V0.heap.size (w73.heap.size :: []) P) U129.y.kids _) := par_give hl138 (Below.size KB107.out) XL125.out
                        have Hhl139 : Hid (LiesQ w127 (Par w V0.heap.size (w73.heap.size :: []) P) U129.h.kids _) := par_give hl139 (Below.size KB107.out) XL125.out
                        clear hl135 hl136 hl137 hl138 hl139
                        have kvV0 : Sees V0 (w.heap.size + 2) w127 := sees_kept _ (kept_trans KB107.out Kk155.out)
                        have kvW105 : Sees W105 (w.heap.size + 2) w127 := sees_kept _ Kk155.out
                        go_wp2_with (refine stop_store 51 (.tmp 4) (.tmp 64) rfl ?_)
                        intro _
                        refine wpList_store_part_n (by rfl) 51 (.tmp 4) (.tmp 64) rfl (w.heap.size + 2) 0 #[.int .i64 U129.i, .int .i64 U129.a.k, .int .i64 U129.a.i, .int .i64 U129.a.j, .int .i64 U129.a.n, (.slice a140 U129.a.kids.length c141), .int .i64 U129.b.k, .int .i64 U129.b.i, .int .i64 U129.b.j, .int .i64 U129.b.n, (.slice a143 U129.b.kids.length c144), .int .i64 U129.x.k, .int .i64 U129.x.i, .int .i64 U129.x.j, .int .i64 U129.x.n, (.slice a146 U129.x.kids.length c147), .int .i64 U129.y.k, .int .i64 U129.y.i, .int .i64 U129.y.j, .int .i64 U129.y.n, (.slice a149 U129.y.kids.length c150), .int .i64 U129.h.k, .int .i64 U129.h.i, .int .i64 U129.h.j, .int .i64 U129.h.n, (.slice a152 U129.h.kids.length c153)] (by rfl) (by rfl) 51 (by kernel_rfl) (row_ok rfl) ?_
                        intro W156 hW156
                        clear kvV0
                        clear kvW105
                        subst hW156
                        refine ⟨_, #[.int .i64 U129.i, .int .i64 U129.a.k, .int .i64 U129.a.i, .int .i64 U129.a.j, .int .i64 U129.a.n, (.slice a140 U129.a.kids.length c141), .int .i64 U129.b.k, .int .i64 U129.b.i, .int .i64 U129.b.j, .int .i64 U129.b.n, (.slice a143 U129.b.kids.length c144), .int .i64 U129.x.k, .int .i64 U129.x.i, .int .i64 U129.x.j, .int .i64 U129.x.n, (.slice a146 U129.x.kids.length c147), .int .i64 U129.y.k, .int .i64 U129.y.i, .int .i64 U129.y.j, .int .i64 U129.y.n, (.slice a149 U129.y.kids.length c150), .int .i64 U129.h.k, .int .i64 U129.h.i, .int .i64 U129.h.j, .int .i64 U129.h.n, (.slice a152 U129.h.kids.length c153)], (blk_at Hx3.out (kept_trans KB107.out Kk155.out)), rfl, Nat.le_of_ble_eq_true rfl, ?_⟩
                        intro W157 hW157
                        go_wp2_with fail
                        refine bodyPost_ret (results_cell_row rfl _ _ (w.heap.size + 2) 51 _ _ dh rfl (blk_same (blk_at Hx3.out (kept_trans KB107.out Kk155.out)) hW157) dh1 (by cases dh <;> first | rfl | exact dh2) (by kernel_rfl)) rfl ?_
                        rw [show heThen g h = U129 from by unfold heThen; rw [Hhb11.out, Hhb19.out, Ec25.out]; rw [← HU129.out]; rw [← HU80.out]; rw [← HU64.out]; rw [← HU55.out]; rw [← HU46.out]; rw [← HU37.out]; (try rfl)]
                        exact ⟨_, _, _, _, _, rfl, ⟨par_end (par_row' Hhl135.out hW157 (by omega) (by have := Z0.out; omega)) (by have := Z0.out; omega), par_end (par_row' Hhl136.out hW157 (by omega) (by have := Z0.out; omega)) (by have := Z0.out; omega), par_end (par_row' Hhl137.out hW157 (by omega) (by have := Z0.out; omega)) (by have := Z0.out; omega), par_end (par_row' Hhl138.out hW157 (by omega) (by have := Z0.out; omega)) (by have := Z0.out; omega), par_end (par_row' Hhl139.out hW157 (by omega) (by have := Z0.out; omega)) (by have := Z0.out; omega)⟩, kept_set (kept_trans KB106.out Kk155.out) hW157 (by omega)⟩
                      exact AllReadyH.nil
                    exact AllReadyH.nil
                  refine AllReadyH.cons (o := hthenr4_28) rfl (fun K hK => ?_) ?_
                  · unfold hthenr4_28
                    go_simp
                    refine at_K (fun W158 hW158 => ?_)
                    obtain ⟨k160, x159, z161⟩ := alloc1 hW158
                    have Kk162 := Lib.hid k160
                    clear k160
                    have Hx159 := Lib.hid x159
                    have Hz161 := Lib.hid z161
                    clear x159 z161 hW158
                    have HG163 : Hid (V0.heap.size ≤ W67.heap.size) := (Below.size (kept_trans Kk13.out (kept_trans Kk21.out (kept_trans Kk29.out (kept_trans Kk38.out (kept_trans Kk47.out (kept_trans Kk56.out (kept_trans Kk65.out Kk71.out))))))))
                    have XL164 := Lib.hid (xlt_more (xlt_nil _) Kk162.out (by have := Hz161.out; omega))
                    have HL165 : Hid (LiesQ W158 (Par w V0.heap.size (W67.heap.size :: []) P) g.a.kids _) := (par_more (HLga.out.later (kept_trans Kk13.out (kept_trans Kk21.out (kept_trans Kk29.out (kept_trans Kk38.out (kept_trans Kk47.out (kept_trans Kk56.out (kept_trans Kk65.out Kk71.out))))))))).later Kk162.out
                    have HL166 : Hid (LiesQ W158 (Par w V0.heap.size (W67.heap.size :: []) P) g.b.kids _) := (par_more (HLgb.out.later (kept_trans Kk13.out (kept_trans Kk21.out (kept_trans Kk29.out (kept_trans Kk38.out (kept_trans Kk47.out (kept_trans Kk56.out (kept_trans Kk65.out Kk71.out))))))))).later Kk162.out
                    have HL167 : Hid (LiesQ W158 (Par w V0.heap.size (W67.heap.size :: []) P) g.x.kids _) := (par_more (HLgx.out.later (kept_trans Kk13.out (kept_trans Kk21.out (kept_trans Kk29.out (kept_trans Kk38.out (kept_trans Kk47.out (kept_trans Kk56.out (kept_trans Kk65.out Kk71.out))))))))).later Kk162.out
                    have HL168 : Hid (LiesQ W158 (Par w V0.heap.size (W67.heap.size :: []) P) g.y.kids _) := (par_more (HLgy.out.later (kept_trans Kk13.out (kept_trans Kk21.out (kept_trans Kk29.out (kept_trans Kk38.out (kept_trans Kk47.out (kept_trans Kk56.out (kept_trans Kk65.out Kk71.out))))))))).later Kk162.out
                    have HL169 : Hid (LiesQ W158 (Par w V0.heap.size (W67.heap.size :: []) P) g.h.kids _) := (par_more (HLgh.out.later (kept_trans Kk13.out (kept_trans Kk21.out (kept_trans Kk29.out (kept_trans Kk38.out (kept_trans Kk47.out (kept_trans Kk56.out (kept_trans Kk65.out Kk71.out))))))))).later Kk162.out
                    have HL170 : Hid (LiesQ W158 (Par w V0.heap.size (W67.heap.size :: []) P) h.a.kids _) := (par_more (HLha.out.later (kept_trans Kk13.out (kept_trans Kk21.out (kept_trans Kk29.out (kept_trans Kk38.out (kept_trans Kk47.out (kept_trans Kk56.out (kept_trans Kk65.out Kk71.out))))))))).later Kk162.out
                    have HL171 : Hid (LiesQ W158 (Par w V0.heap.size (W67.heap.size :: []) P) h.b.kids _) := (par_more (HLhb.out.later (kept_trans Kk13.out (kept_trans Kk21.out (kept_trans Kk29.out (kept_trans Kk38.out (kept_trans Kk47.out (kept_trans Kk56.out (kept_trans Kk65.out Kk71.out))))))))).later Kk162.out
                    have HL172 : Hid (LiesQ W158 (Par w V0.heap.size (W67.heap.size :: []) P) h.x.kids _) := (par_more (HLhx.out.later (kept_trans Kk13.out (kept_trans Kk21.out (kept_trans Kk29.out (kept_trans Kk38.out (kept_trans Kk47.out (kept_trans Kk56.out (kept_trans Kk65.out Kk71.out))))))))).later Kk162.out
                    have HL173 : Hid (LiesQ W158 (Par w V0.heap.size (W67.heap.size :: []) P) h.y.kids _) := (par_more (HLhy.out.later (kept_trans Kk13.out (kept_trans Kk21.out (kept_trans Kk29.out (kept_trans Kk38.out (kept_trans Kk47.out (kept_trans Kk56.out (kept_trans Kk65.out Kk71.out))))))))).later Kk162.out
                    have HL174 : Hid (LiesQ W158 (Par w V0.heap.size (W67.heap.size :: []) P) h.h.kids _) := (par_more (HLhh.out.later (kept_trans Kk13.out (kept_trans Kk21.out (kept_trans Kk29.out (kept_trans Kk38.out (kept_trans Kk47.out (kept_trans Kk56.out (kept_trans Kk65.out Kk71.out))))))))).later Kk162.out
                    have HL175 : Hid (LiesQ W158 (Par w V0.heap.size (W67.heap.size :: []) P) U37.kids _) := (par_more (Hhl33.out.later (kept_trans Kk47.out (kept_trans Kk56.out (kept_trans Kk65.out Kk71.out))))).later Kk162.out
                    have HL176 : Hid (LiesQ W158 (Par w V0.heap.size (W67.heap.size :: []) P) U46.kids _) := (par_more (Hhl42.out.later (kept_trans Kk56.out (kept_trans Kk65.out Kk71.out)))).later Kk162.out
                    have HL177 : Hid (LiesQ W158 (Par w V0.heap.size (W67.heap.size :: []) P) U55.kids _) := (par_more (Hhl51.out.later (kept_trans Kk65.out Kk71.out))).later Kk162.out
                    have HL178 : Hid (LiesQ W158 (Par w V0.heap.size (W67.heap.size :: []) P) U64.kids _) := (par_more (Hhl60.out.later Kk71.out)).later Kk162.out
                    have HL179 : Hid (LiesQ W158 (Par w V0.heap.size (W67.heap.size :: []) P) [U37, U46, U55, U64, g.h, h.h] _) := (par_more HR72.out).later Kk162.out
                    clear hHeld
                    refine hK.out _ _ ?_ (fun hHeld => ?_)
                    · (try dsimp only)
                      exact sees_kept _ (kept_trans Kk38.out (kept_trans Kk47.out (kept_trans Kk56.out (kept_trans Kk65.out (kept_trans Kk71.out Kk162.out)))))
                    clear hK K
                    (try simp only [Act.put, List.setIfInBounds_toArray, List.set_cons_zero, List.set_cons_succ])
                    refine wpAnyH_ready (rs := [27]) (by kernel_rfl) (by simp) ?_
                    refine AllReadyH.cons (o := hthenr4_27) rfl (fun K hK => ?_) ?_
                    · unfold hthenr4_27
                      go_simp
                      refine (huse_any 4 (g.i + 1) [U37, U46, U55, U64, g.h, h.h] (Par w V0.heap.size (W67.heap.size :: []) P) _ _ (show I64 4 from by unfold I64; decide) (lev_succ (heR_lev Hhb11.out) (by decide)) HL179.out (fun x hx => by
                        simp only [List.mem_cons, List.not_mem_nil, or_false] at hx
                        rcases hx with rfl | rfl | rfl | rfl | rfl | rfl
                        · exact (by rw [← HU37.out]; exact (points_plain (heR_lev Hhb11.out)))
                        · exact (by rw [← HU46.out]; exact (point_plain (heR_lev Hhb11.out) (heR_pl Hhb11.out _ (by simp)) (heR_pl Hhb11.out _ (by simp))))
                        · exact (by rw [← HU55.out]; exact (point_plain (heR_lev Hhb11.out) (heR_pl Hhb11.out _ (by simp)) (heR_pl Hhb11.out _ (by simp))))
                        · exact (by rw [← HU64.out]; exact (point_plain (heR_lev Hhb11.out) (heR_pl Hhb19.out _ (by simp)) (heR_pl Hhb19.out _ (by simp))))
                        · exact (heR_pl Hhb11.out _ (by simp))
                        · exact (heR_pl Hhb19.out _ (by simp))) (Nat.le_of_ble_eq_true rfl)).mono ?_
                      obtain ⟨U187, hU187⟩ : ∃ qu, useT 4 (g.i + 1) 0 [U37, U46, U55, U64, g.h, h.h] = qu := ⟨_, rfl⟩
                      rw [hU187]
                      have HU187 := Lib.hid hU187
                      clear hU187
                      rintro e w180 ⟨s182, rfl, hl183, k181⟩
                      obtain ⟨a184, c185, S186, rfl, -⟩ := hl183.out
                      have Kk188 := Lib.hid k181
                      clear k181
                      have Hhl183 : Hid (LiesQ w180 (Par w V0.heap.size (W67.heap.size :: []) P) U187.kids _) := par_give hl183 (Below.size (kept_trans Kk13.out (kept_trans Kk21.out (kept_trans Kk29.out (kept_trans Kk38.out (kept_trans Kk47.out (kept_trans Kk56.out (kept_trans Kk65.out (kept_trans Kk71.out Kk162.out))))))))) XL164.out
                      clear hl183
                      clear hHeld
                      refine hK.out _ _ ?_ (fun hHeld => ?_)
                      · (try dsimp only)
                        exact sees_kept _ (kept_trans Kk38.out (kept_trans Kk47.out (kept_trans Kk56.out (kept_trans Kk65.out (kept_trans Kk71.out (kept_trans Kk162.out Kk188.out))))))
                      clear hK K
                      (try simp only [Act.put, List.setIfInBounds_toArray, List.set_cons_zero, List.set_cons_succ])
                      refine wpAnyH_ready (rs := [29]) (by kernel_rfl) (by simp) ?_
                      refine AllReadyH.cons (o := hthenr4_29) rfl (fun K hK => ?_) ?_
                      · unfold hthenr4_29
                        refine step_store_part rfl 32 (.tmp 6) (.tmp 52) rfl (W67.heap.size) 0 #[.int .i64 U187.k, .int .i64 U187.i, .int .i64 U187.j, .int .i64 U187.n, (.slice a184 U187.kids.length c185)] rfl rfl 32 size_term (row_ok rfl) _ #[.int .i64 U187.k, .int .i64 U187.i, .int .i64 U187.j, .int .i64 U187.n, (.slice a184 U187.kids.length c185)] (blk_at Hx159.out Kk188.out) rfl (Nat.le_of_ble_eq_true rfl) ?_
                        intro W189 hW189
                        have KB190 := Lib.hid (kept_set (kept_trans Kk6.out (kept_trans Kk13.out (kept_trans Kk21.out (kept_trans Kk29.out (kept_trans Kk38.out (kept_trans Kk47.out (kept_trans Kk56.out (kept_trans Kk65.out (kept_trans Kk71.out (kept_trans Kk162.out Kk188.out)))))))))) hW189 (by have := HG163.out; have := Z0.out; omega))
                        have KB191 := Lib.hid (kept_set (kept_trans Kk13.out (kept_trans Kk21.out (kept_trans Kk29.out (kept_trans Kk38.out (kept_trans Kk47.out (kept_trans Kk56.out (kept_trans Kk65.out (kept_trans Kk71.out (kept_trans Kk162.out Kk188.out))))))))) hW189 HG163.out)
                        have KB192 := Lib.hid (kept_set (kept_trans Kk38.out (kept_trans Kk47.out (kept_trans Kk56.out (kept_trans Kk65.out (kept_trans Kk71.out (kept_trans Kk162.out Kk188.out)))))) hW189 (Below.size (kept_trans Kk38.out (kept_trans Kk47.out (kept_trans Kk56.out (kept_trans Kk65.out Kk71.out))))))
                        have HL193 : Hid (LiesQ W189 (Par w V0.heap.size (W67.heap.size :: []) P) g.a.kids _) := par_set (HL165.out.later Kk188.out) hW189 (List.mem_cons_self ..) (by have := HG163.out; have := Z0.out; omega)
                        have HL194 : Hid (LiesQ W189 (Par w V0.heap.size (W67.heap.size :: []) P) g.b.kids _) := par_set (HL166.out.later Kk188.out) hW189 (List.mem_cons_self ..) (by have := HG163.out; have := Z0.out; omega)
                        have HL195 : Hid (LiesQ W189 (Par w V0.heap.size (W67.heap.size :: []) P) g.x.kids _) := par_set (HL167.out.later Kk188.out) hW189 (List.mem_cons_self ..) (by have := HG163.out; have := Z0.out; omega)
                        have HL196 : Hid (LiesQ W189 (Par w V0.heap.size (W67.heap.size :: []) P) g.y.kids _) := par_set (HL168.out.later Kk188.out) hW189 (List.mem_cons_self ..) (by have := HG163.out; have := Z0.out; omega)
                        have HL197 : Hid (LiesQ W189 (Par w V0.heap.size (W67.heap.size :: []) P) g.h.kids _) := par_set (HL169.out.later Kk188.out) hW189 (List.mem_cons_self ..) (by have := HG163.out; have := Z0.out; omega)
                        have HL198 : Hid (LiesQ W189 (Par w V0.heap.size (W67.heap.size :: []) P) h.a.kids _) := par_set (HL170.out.later Kk188.out) hW189 (List.mem_cons_self ..) (by have := HG163.out; have := Z0.out; omega)
                        have HL199 : Hid (LiesQ W189 (Par w V0.heap.size (W67.heap.size :: []) P) h.b.kids _) := par_set (HL171.out.later Kk188.out) hW189 (List.mem_cons_self ..) (by have := HG163.out; have := Z0.out; omega)
                        have HL200 : Hid (LiesQ W189 (Par w V0.heap.size (W67.heap.size :: []) P) h.x.kids _) := par_set (HL172.out.later Kk188.out) hW189 (List.mem_cons_self ..) (by have := HG163.out; have := Z0.out; omega)
                        have HL201 : Hid (LiesQ W189 (Par w V0.heap.size (W67.heap.size :: []) P) h.y.kids _) := par_set (HL173.out.later Kk188.out) hW189 (List.mem_cons_self ..) (by have := HG163.out; have := Z0.out; omega)
                        have HL202 : Hid (LiesQ W189 (Par w V0.heap.size (W67.heap.size :: []) P) h.h.kids _) := par_set (HL174.out.later Kk188.out) hW189 (List.mem_cons_self ..) (by have := HG163.out; have := Z0.out; omega)
                        have HL203 : Hid (LiesQ W189 (Par w V0.heap.size (W67.heap.size :: []) P) U37.kids _) := par_set (HL175.out.later Kk188.out) hW189 (List.mem_cons_self ..) (by have := HG163.out; have := Z0.out; omega)
                        have HL204 : Hid (LiesQ W189 (Par w V0.heap.size (W67.heap.size :: []) P) U46.kids _) := par_set (HL176.out.later Kk188.out) hW189 (List.mem_cons_self ..) (by have := HG163.out; have := Z0.out; omega)
                        have HL205 : Hid (LiesQ W189 (Par w V0.heap.size (W67.heap.size :: []) P) U55.kids _) := par_set (HL177.out.later Kk188.out) hW189 (List.mem_cons_self ..) (by have := HG163.out; have := Z0.out; omega)
                        have HL206 : Hid (LiesQ W189 (Par w V0.heap.size (W67.heap.size :: []) P) U64.kids _) := par_set (HL178.out.later Kk188.out) hW189 (List.mem_cons_self ..) (by have := HG163.out; have := Z0.out; omega)
                        have HL207 : Hid (LiesQ W189 (Par w V0.heap.size (W67.heap.size :: []) P) [U37, U46, U55, U64, g.h, h.h] _) := par_set (HL179.out.later Kk188.out) hW189 (List.mem_cons_self ..) (by have := HG163.out; have := Z0.out; omega)
                        have HL208 : Hid (LiesQ W189 (Par w V0.heap.size (W67.heap.size :: []) P) U187.kids _) := par_set Hhl183.out hW189 (List.mem_cons_self ..) (by have := HG163.out; have := Z0.out; omega)
                        have XL209 := Lib.hid (xlt_set (xlt_later XL164.out Kk188.out) hW189)
                        have HX210 := Lib.hid (blk_same (blk_at Hx159.out Kk188.out) hW189)
                        clear hW189
                        clear hHeld
                        refine hK.out _ _ ?_ (fun hHeld => ?_)
                        · (try dsimp only)
                          exact sees_kept _ KB192.out
                        clear hK K
                        (try simp only [Act.put])
                        refine wpAnyH_done (by kernel_rfl) ?_ _
                        clear hHeld
                        have kvV0 : Sees V0 (w.heap.size + 2) W189 := sees_kept _ KB191.out
                        have kvW189 : Sees W189 (w.heap.size + 2) W189 := sees_kept _ (kept_refl _)
                        go_wp2_with (refine stop_load 32 (.tmp 54) rfl ?_)
                        intro _
                        refine wpList_load_part (w.heap.size) 1 32 (.tmp 54) #[.int .i64 g.a.k, .int .i64 g.a.i, .int .i64 g.a.j, .int .i64 g.a.n, (.slice aga g.a.kids.length cga)] du (blk_at Hx1.out KB191.out) (by rfl) rfl (by rfl) (by rfl) hu1 (by cases du <;> first | rfl | exact hu2) size_term ?_
                        go_wp2_with (refine stop_load 32 (.tmp 56) rfl ?_)
                        intro _
                        refine wpList_load_part (w.heap.size + 1) 6 32 (.tmp 56) #[.int .i64 h.b.k, .int .i64 h.b.i, .int .i64 h.b.j, .int .i64 h.b.n, (.slice ahb h.b.kids.length chb)] du (blk_at Hx2.out KB191.out) (by rfl) rfl (by rfl) (by rfl) hu1 (by cases du <;> first | rfl | exact hu2) size_term ?_
                        go_wp2_with (refine stop_load 32 (.tmp 58) rfl ?_)
                        intro _
                        refine wpList_load_part (w.heap.size) 11 32 (.tmp 58) #[.int .i64 g.x.k, .int .i64 g.x.i, .int .i64 g.x.j, .int .i64 g.x.n, (.slice agx g.x.kids.length cgx)] du (blk_at Hx1.out KB191.out) (by rfl) rfl (by rfl) (by rfl) hu1 (by cases du <;> first | rfl | exact hu2) size_term ?_
                        go_wp2_with (refine stop_load 32 (.tmp 60) rfl ?_)
                        intro _
                        refine wpList_load_part (w.heap.size + 1) 16 32 (.tmp 60) #[.int .i64 h.y.k, .int .i64 h.y.i, .int .i64 h.y.j, .int .i64 h.y.n, (.slice ahy h.y.kids.length chy)] du (blk_at Hx2.out KB191.out) (by rfl) rfl (by rfl) (by rfl) hu1 (by cases du <;> first | rfl | exact hu2) size_term ?_
                        go_wp2_with (refine stop_load 32 (.tmp 6) rfl ?_)
                        intro _
                        refine wpList_load_part (W67.heap.size) 0 32 (.tmp 6) #[.int .i64 U187.k, .int .i64 U187.i, .int .i64 U187.j, .int .i64 U187.n, (.slice a184 U187.kids.length c185)] du HX210.out (by rfl) rfl (by rfl) (by rfl) hu1 (by cases du <;> first | rfl | exact hu2) size_term ?_
                        go_wp2_with fail
                        clear kvV0
                        clear kvW189
                        refine (hfresh_any (⟨g.i, g.a, h.b, g.x, h.y, U187⟩ : He) (Par w V0.heap.size (W67.heap.size :: []) P) _ (.slice aga g.a.kids.length cga) (.slice ahb h.b.kids.length chb) (.slice agx g.x.kids.length cgx) (.slice ahy h.y.kids.length chy) (.slice a184 U187.kids.length c185) ⟨Gg.out.1, Gg.out.2.1, Gh.out.2.2.1, Gg.out.2.2.2.1, Gh.out.2.2.2.2.1, (by rw [← HU187.out]; exact (use_fine (show I64 4 from by unfold I64; decide) (lev_succ (heR_lev Hhb11.out) (by decide)) (by unfold I64; decide)))⟩ ⟨HL193.out, HL199.out, HL195.out, HL201.out, HL208.out⟩ (heR_pl Hhb11.out _ (by simp)) (heR_pl Hhb19.out _ (by simp)) (heR_pl Hhb11.out _ (by simp)) (heR_pl Hhb19.out _ (by simp))).mono ?_
                        obtain ⟨U213, hU213⟩ : ∃ qu, (⟨g.i, g.a, h.b, g.x, h.y, U187⟩ : He) = qu := ⟨_, rfl⟩
                        rw [hU213]
                        have HU213 := Lib.hid hU213
                        clear hU213
                        rintro e w211 ⟨s214, s215, s216, s217, s218, rfl, ⟨hl219, hl220, hl221, hl222, hl223⟩, k212⟩
                        obtain ⟨a224, c225, S226, rfl, -⟩ := hl219.out
                        obtain ⟨a227, c228, S229, rfl, -⟩ := hl220.out
                        obtain ⟨a230, c231, S232, rfl, -⟩ := hl221.out
                        obtain ⟨a233, c234, S235, rfl, -⟩ := hl222.out
                        obtain ⟨a236, c237, S238, rfl, -⟩ := hl223.out
                        have Kk239 := Lib.hid k212
                        clear k212
                        have Hhl219 : Hid (LiesQ w211 (Par w V0.heap.size (W67.heap.size :: []) P) U213.a.kids _) := par_give hl219 (Below.size KB191.out) XL209.out
                        have Hhl220 : Hid (LiesQ w211 (Par w V0.heap.size (W67.heap.size :: []) P) U213.b.kids _) := par_give hl220 (Below.size KB191.out) XL209.out
                        have Hhl221 : Hid (LiesQ w211 (Par w V0.heap.size (W67.heap.size :: []) P) U213.x.kids _) := par_give hl221 (Below.size KB191.out) XL209.out
                        have Hhl222 : Hid (LiesQ w211 (Par w V0.heap.size (W67.heap.size :: []) P) U213.y.kids _) := par_give hl222 (Below.size KB191.out) XL209.out
                        have Hhl223 : Hid (LiesQ w211 (Par w V0.heap.size (W67.heap.size :: []) P) U213.h.kids _) := par_give hl223 (Below.size KB191.out) XL209.out
                        clear hl219 hl220 hl221 hl222 hl223
                        have kvV0 : Sees V0 (w.heap.size + 2) w211 := sees_kept _ (kept_trans KB191.out Kk239.out)
                        have kvW189 : Sees W189 (w.heap.size + 2) w211 := sees_kept _ Kk239.out
                        go_wp2_with (refine stop_store 51 (.tmp 4) (.tmp 64) rfl ?_)
                        intro _
                        refine wpList_store_part_n (by rfl) 51 (.tmp 4) (.tmp 64) rfl (w.heap.size + 2) 0 #[.int .i64 U213.i, .int .i64 U213.a.k, .int .i64 U213.a.i, .int .i64 U213.a.j, .int .i64 U213.a.n, (.slice a224 U213.a.kids.length c225), .int .i64 U213.b.k, .int .i64 U213.b.i, .int .i64 U213.b.j, .int .i64 U213.b.n, (.slice a227 U213.b.kids.length c228), .int .i64 U213.x.k, .int .i64 U213.x.i, .int .i64 U213.x.j, .int .i64 U213.x.n, (.slice a230 U213.x.kids.length c231), .int .i64 U213.y.k, .int .i64 U213.y.i, .int .i64 U213.y.j, .int .i64 U213.y.n, (.slice a233 U213.y.kids.length c234), .int .i64 U213.h.k, .int .i64 U213.h.i, .int .i64 U213.h.j, .int .i64 U213.h.n, (.slice a236 U213.h.kids.length c237)] (by rfl) (by rfl) 51 (by kernel_rfl) (row_ok rfl) ?_
                        intro W240 hW240
                        clear kvV0
                        clear kvW189
                        subst hW240
                        refine ⟨_, #[.int .i64 U213.i, .int .i64 U213.a.k, .int .i64 U213.a.i, .int .i64 U213.a.j, .int .i64 U213.a.n, (.slice a224 U213.a.kids.length c225), .int .i64 U213.b.k, .int .i64 U213.b.i, .int .i64 U213.b.j, .int .i64 U213.b.n, (.slice a227 U213.b.kids.length c228), .int .i64 U213.x.k, .int .i64 U213.x.i, .int .i64 U213.x.j, .int .i64 U213.x.n, (.slice a230 U213.x.kids.length c231), .int .i64 U213.y.k, .int .i64 U213.y.i, .int .i64 U213.y.j, .int .i64 U213.y.n, (.slice a233 U213.y.kids.length c234), .int .i64 U213.h.k, .int .i64 U213.h.i, .int .i64 U213.h.j, .int .i64 U213.h.n, (.slice a236 U213.h.kids.length c237)], (blk_at Hx3.out (kept_trans KB191.out Kk239.out)), rfl, Nat.le_of_ble_eq_true rfl, ?_⟩
                        intro W241 hW241
                        go_wp2_with fail
                        refine bodyPost_ret (results_cell_row rfl _ _ (w.heap.size + 2) 51 _ _ dh rfl (blk_same (blk_at Hx3.out (kept_trans KB191.out Kk239.out)) hW241) dh1 (by cases dh <;> first | rfl | exact dh2) (by kernel_rfl)) rfl ?_
                        rw [show heThen g h = U213 from by unfold heThen; rw [Hhb11.out, Hhb19.out, Ec25.out]; rw [← HU213.out]; rw [← HU187.out]; rw [← HU64.out]; rw [← HU55.out]; rw [← HU46.out]; rw [← HU37.out]; (try rfl)]
                        exact ⟨_, _, _, _, _, rfl, ⟨par_end (par_row' Hhl219.out hW241 (by omega) (by have := Z0.out; omega)) (by have := Z0.out; omega), par_end (par_row' Hhl220.out hW241 (by omega) (by have := Z0.out; omega)) (by have := Z0.out; omega), par_end (par_row' Hhl221.out hW241 (by omega) (by have := Z0.out; omega)) (by have := Z0.out; omega), par_end (par_row' Hhl222.out hW241 (by omega) (by have := Z0.out; omega)) (by have := Z0.out; omega), par_end (par_row' Hhl223.out hW241 (by omega) (by have := Z0.out; omega)) (by have := Z0.out; omega)⟩, kept_set (kept_trans KB190.out Kk239.out) hW241 (by omega)⟩
                      exact AllReadyH.nil
                    exact AllReadyH.nil
                  exact AllReadyH.nil
                refine AllReadyH.cons (o := hthenr4_28) rfl (fun K hK => ?_) ?_
                · unfold hthenr4_28
                  go_simp
                  refine at_K (fun W242 hW242 => ?_)
                  obtain ⟨k244, x243, z245⟩ := alloc1 hW242
                  have Kk246 := Lib.hid k244
                  clear k244
                  have Hx243 := Lib.hid x243
                  have Hz245 := Lib.hid z245
                  clear x243 z245 hW242
                  have HG247 : Hid (V0.heap.size ≤ w57.heap.size) := (Below.size (kept_trans Kk13.out (kept_trans Kk21.out (kept_trans Kk29.out (kept_trans Kk38.out (kept_trans Kk47.out (kept_trans Kk56.out Kk65.out)))))))
                  have XL248 := Lib.hid (xlt_more (xlt_nil _) Kk246.out (by have := Hz245.out; omega))
                  have HL249 : Hid (LiesQ W242 (Par w V0.heap.size (w57.heap.size :: []) P) g.a.kids _) := (par_more (HLga.out.later (kept_trans Kk13.out (kept_trans Kk21.out (kept_trans Kk29.out (kept_trans Kk38.out (kept_trans Kk47.out (kept_trans Kk56.out Kk65.out)))))))).later Kk246.out
                  have HL250 : Hid (LiesQ W242 (Par w V0.heap.size (w57.heap.size :: []) P) g.b.kids _) := (par_more (HLgb.out.later (kept_trans Kk13.out (kept_trans Kk21.out (kept_trans Kk29.out (kept_trans Kk38.out (kept_trans Kk47.out (kept_trans Kk56.out Kk65.out)))))))).later Kk246.out
                  have HL251 : Hid (LiesQ W242 (Par w V0.heap.size (w57.heap.size :: []) P) g.x.kids _) := (par_more (HLgx.out.later (kept_trans Kk13.out (kept_trans Kk21.out (kept_trans Kk29.out (kept_trans Kk38.out (kept_trans Kk47.out (kept_trans Kk56.out Kk65.out)))))))).later Kk246.out
                  have HL252 : Hid (LiesQ W242 (Par w V0.heap.size (w57.heap.size :: []) P) g.y.kids _) := (par_more (HLgy.out.later (kept_trans Kk13.out (kept_trans Kk21.out (kept_trans Kk29.out (kept_trans Kk38.out (kept_trans Kk47.out (kept_trans Kk56.out Kk65.out)))))))).later Kk246.out
                  have HL253 : Hid (LiesQ W242 (Par w V0.heap.size (w57.heap.size :: []) P) g.h.kids _) := (par_more (HLgh.out.later (kept_trans Kk13.out (kept_trans Kk21.out (kept_trans Kk29.out (kept_trans Kk38.out (kept_trans Kk47.out (kept_trans Kk56.out Kk65.out)))))))).later Kk246.out
                  have HL254 : Hid (LiesQ W242 (Par w V0.heap.size (w57.heap.size :: []) P) h.a.kids _) := (par_more (HLha.out.later (kept_trans Kk13.out (kept_trans Kk21.out (kept_trans Kk29.out (kept_trans Kk38.out (kept_trans Kk47.out (kept_trans Kk56.out Kk65.out)))))))).later Kk246.out
                  have HL255 : Hid (LiesQ W242 (Par w V0.heap.size (w57.heap.size :: []) P) h.b.kids _) := (par_more (HLhb.out.later (kept_trans Kk13.out (kept_trans Kk21.out (kept_trans Kk29.out (kept_trans Kk38.out (kept_trans Kk47.out (kept_trans Kk56.out Kk65.out)))))))).later Kk246.out
                  have HL256 : Hid (LiesQ W242 (Par w V0.heap.size (w57.heap.size :: []) P) h.x.kids _) := (par_more (HLhx.out.later (kept_trans Kk13.out (kept_trans Kk21.out (kept_trans Kk29.out (kept_trans Kk38.out (kept_trans Kk47.out (kept_trans Kk56.out Kk65.out)))))))).later Kk246.out
                  have HL257 : Hid (LiesQ W242 (Par w V0.heap.size (w57.heap.size :: []) P) h.y.kids _) := (par_more (HLhy.out.later (kept_trans Kk13.out (kept_trans Kk21.out (kept_trans Kk29.out (kept_trans Kk38.out (kept_trans Kk47.out (kept_trans Kk56.out Kk65.out)))))))).later Kk246.out
                  have HL258 : Hid (LiesQ W242 (Par w V0.heap.size (w57.heap.size :: []) P) h.h.kids _) := (par_more (HLhh.out.later (kept_trans Kk13.out (kept_trans Kk21.out (kept_trans Kk29.out (kept_trans Kk38.out (kept_trans Kk47.out (kept_trans Kk56.out Kk65.out)))))))).later Kk246.out
                  have HL259 : Hid (LiesQ W242 (Par w V0.heap.size (w57.heap.size :: []) P) U37.kids _) := (par_more (Hhl33.out.later (kept_trans Kk47.out (kept_trans Kk56.out Kk65.out)))).later Kk246.out
                  have HL260 : Hid (LiesQ W242 (Par w V0.heap.size (w57.heap.size :: []) P) U46.kids _) := (par_more (Hhl42.out.later (kept_trans Kk56.out Kk65.out))).later Kk246.out
                  have HL261 : Hid (LiesQ W242 (Par w V0.heap.size (w57.heap.size :: []) P) U55.kids _) := (par_more (Hhl51.out.later Kk65.out)).later Kk246.out
                  have HL262 : Hid (LiesQ W242 (Par w V0.heap.size (w57.heap.size :: []) P) U64.kids _) := (par_more Hhl60.out).later Kk246.out
                  clear hHeld
                  refine hK.out _ _ ?_ (fun hHeld => ?_)
                  · (try dsimp only)
                    exact sees_kept _ (kept_trans Kk38.out (kept_trans Kk47.out (kept_trans Kk56.out (kept_trans Kk65.out Kk246.out))))
                  clear hK K
                  (try simp only [Act.put, List.setIfInBounds_toArray, List.set_cons_zero, List.set_cons_succ])
                  refine wpAnyH_ready (rs := [26]) (by kernel_rfl) (by simp) ?_
                  refine AllReadyH.cons (o := hthenr4_26) rfl (fun K hK => ?_) ?_
                  · unfold hthenr4_26
                    go_simp
                    refine at_K (fun W264 hW264 => ?_)
                    obtain ⟨k266, x265, z267⟩ := alloc1 hW264
                    have Kk268 := Lib.hid k266
                    clear k266
                    have Hx265 := Lib.hid x265
                    have Hz267 := Lib.hid z267
                    clear x265 z267 hW264
                    have HR269 : Hid (LiesQ W264 (Par w V0.heap.size (w57.heap.size :: []) P) [U37, U46, U55, U64, g.h, h.h] (.slice (some ⟨W242.heap.size, 0, none⟩) 6 6)) := q_row [(U37, (.slice a34 U37.kids.length c35)), (U46, (.slice a43 U46.kids.length c44)), (U55, (.slice a52 U55.kids.length c53)), (U64, (.slice a61 U64.kids.length c62)), (g.h, (.slice agh g.h.kids.length cgh)), (h.h, (.slice ahh h.h.kids.length chh))] _ rfl Hx265.out (par_new (Below.size (kept_trans Kk13.out (kept_trans Kk21.out (kept_trans Kk29.out (kept_trans Kk38.out (kept_trans Kk47.out (kept_trans Kk56.out (kept_trans Kk65.out Kk246.out)))))))) XL248.out (Nat.le_refl _)) (fun p hp => by
                      simp only [List.mem_cons, List.not_mem_nil, or_false] at hp
                      rcases hp with rfl | rfl | rfl | rfl | rfl | rfl
                      · exact ⟨(by rw [← HU37.out]; exact (right_fine (plain_right (points_plain (heR_lev Hhb11.out))))), (HL259.out.later Kk268.out)⟩
                      · exact ⟨(by rw [← HU46.out]; exact (right_fine (plain_right (point_plain (heR_lev Hhb11.out) (heR_pl Hhb11.out _ (by simp)) (heR_pl Hhb11.out _ (by simp)))))), (HL260.out.later Kk268.out)⟩
                      · exact ⟨(by rw [← HU55.out]; exact (right_fine (plain_right (point_plain (heR_lev Hhb11.out) (heR_pl Hhb11.out _ (by simp)) (heR_pl Hhb11.out _ (by simp)))))), (HL261.out.later Kk268.out)⟩
                      · exact ⟨(by rw [← HU64.out]; exact (right_fine (plain_right (point_plain (heR_lev Hhb11.out) (heR_pl Hhb19.out _ (by simp)) (heR_pl Hhb19.out _ (by simp)))))), (HL262.out.later Kk268.out)⟩
                      · exact ⟨Gg.out.2.2.2.2.2, (HL253.out.later Kk268.out)⟩
                      · exact ⟨Gh.out.2.2.2.2.2, (HL258.out.later Kk268.out)⟩) (Nat.le_of_ble_eq_true rfl)
                    clear hHeld
                    refine hK.out _ _ ?_ (fun hHeld => ?_)
                    · (try dsimp only)
                      exact sees_kept _ (kept_trans Kk38.out (kept_trans Kk47.out (kept_trans Kk56.out (kept_trans Kk65.out (kept_trans Kk246.out Kk268.out)))))
                    clear hK K
                    (try simp only [Act.put, List.setIfInBounds_toArray, List.set_cons_zero, List.set_cons_succ])
                    refine wpAnyH_ready (rs := [27]) (by kernel_rfl) (by simp) ?_
                    refine AllReadyH.cons (o := hthenr4_27) rfl (fun K hK => ?_) ?_
                    · unfold hthenr4_27
                      go_simp
                      refine (huse_any 4 (g.i + 1) [U37, U46, U55, U64, g.h, h.h] (Par w V0.heap.size (w57.heap.size :: []) P) _ _ (show I64 4 from by unfold I64; decide) (lev_succ (heR_lev Hhb11.out) (by decide)) HR269.out (fun x hx => by
                        simp only [List.mem_cons, List.not_mem_nil, or_false] at hx
                        rcases hx with rfl | rfl | rfl | rfl | rfl | rfl
                        · exact (by rw [← HU37.out]; exact (points_plain (heR_lev Hhb11.out)))
                        · exact (by rw [← HU46.out]; exact (point_plain (heR_lev Hhb11.out) (heR_pl Hhb11.out _ (by simp)) (heR_pl Hhb11.out _ (by simp))))
                        · exact (by rw [← HU55.out]; exact (point_plain (heR_lev Hhb11.out) (heR_pl Hhb11.out _ (by simp)) (heR_pl Hhb11.out _ (by simp))))
                        · exact (by rw [← HU64.out]; exact (point_plain (heR_lev Hhb11.out) (heR_pl Hhb19.out _ (by simp)) (heR_pl Hhb19.out _ (by simp))))
                        · exact (heR_pl Hhb11.out _ (by simp))
                        · exact (heR_pl Hhb19.out _ (by simp))) (Nat.le_of_ble_eq_true rfl)).mono ?_
                      obtain ⟨U277, hU277⟩ : ∃ qu, useT 4 (g.i + 1) 0 [U37, U46, U55, U64, g.h, h.h] = qu := ⟨_, rfl⟩
                      rw [hU277]
                      have HU277 := Lib.hid hU277
                      clear hU277
                      rintro e w270 ⟨s272, rfl, hl273, k271⟩
                      obtain ⟨a274, c275, S276, rfl, -⟩ := hl273.out
                      have Kk278 := Lib.hid k271
                      clear k271
                      have Hhl273 : Hid (LiesQ w270 (Par w V0.heap.size (w57.heap.size :: []) P) U277.kids _) := par_give hl273 (Below.size (kept_trans Kk13.out (kept_trans Kk21.out (kept_trans Kk29.out (kept_trans Kk38.out (kept_trans Kk47.out (kept_trans Kk56.out (kept_trans Kk65.out (kept_trans Kk246.out Kk268.out))))))))) (xlt_later XL248.out Kk268.out)
                      clear hl273
                      clear hHeld
                      refine hK.out _ _ ?_ (fun hHeld => ?_)
                      · (try dsimp only)
                        exact sees_kept _ (kept_trans Kk38.out (kept_trans Kk47.out (kept_trans Kk56.out (kept_trans Kk65.out (kept_trans Kk246.out (kept_trans Kk268.out Kk278.out))))))
                      clear hK K
                      (try simp only [Act.put, List.setIfInBounds_toArray, List.set_cons_zero, List.set_cons_succ])
                      refine wpAnyH_ready (rs := [29]) (by kernel_rfl) (by simp) ?_
                      refine AllReadyH.cons (o := hthenr4_29) rfl (fun K hK => ?_) ?_
                      · unfold hthenr4_29
                        refine step_store_part rfl 32 (.tmp 6) (.tmp 52) rfl (w57.heap.size) 0 #[.int .i64 U277.k, .int .i64 U277.i, .int .i64 U277.j, .int .i64 U277.n, (.slice a274 U277.kids.length c275)] rfl rfl 32 size_term (row_ok rfl) _ #[.int .i64 U277.k, .int .i64 U277.i, .int .i64 U277.j, .int .i64 U277.n, (.slice a274 U277.kids.length c275)] (blk_at Hx243.out (kept_trans Kk268.out Kk278.out)) rfl (Nat.le_of_ble_eq_true rfl) ?_
                        intro W279 hW279
                        have KB280 := Lib.hid (kept_set (kept_trans Kk6.out (kept_trans Kk13.out (kept_trans Kk21.out (kept_trans Kk29.out (kept_trans Kk38.out (kept_trans Kk47.out (kept_trans Kk56.out (kept_trans Kk65.out (kept_trans Kk246.out (kept_trans Kk268.out Kk278.out)))))))))) hW279 (by have := HG247.out; have := Z0.out; omega))
                        have KB281 := Lib.hid (kept_set (kept_trans Kk13.out (kept_trans Kk21.out (kept_trans Kk29.out (kept_trans Kk38.out (kept_trans Kk47.out (kept_trans Kk56.out (kept_trans Kk65.out (kept_trans Kk246.out (kept_trans Kk268.out Kk278.out))))))))) hW279 HG247.out)
                        have KB282 := Lib.hid (kept_set (kept_trans Kk38.out (kept_trans Kk47.out (kept_trans Kk56.out (kept_trans Kk65.out (kept_trans Kk246.out (kept_trans Kk268.out Kk278.out)))))) hW279 (Below.size (kept_trans Kk38.out (kept_trans Kk47.out (kept_trans Kk56.out Kk65.out)))))
                        have HL283 : Hid (LiesQ W279 (Par w V0.heap.size (w57.heap.size :: []) P) g.a.kids _) := par_set (HL249.out.later (kept_trans Kk268.out Kk278.out)) hW279 (List.mem_cons_self ..) (by have := HG247.out; have := Z0.out; omega)
                        have HL284 : Hid (LiesQ W279 (Par w V0.heap.size (w57.heap.size :: []) P) g.b.kids _) := par_set (HL250.out.later (kept_trans Kk268.out Kk278.out)) hW279 (List.mem_cons_self ..) (by have := HG247.out; have := Z0.out; omega)
                        have HL285 : Hid (LiesQ W279 (Par w V0.heap.size (w57.heap.size :: []) P) g.x.kids _) := par_set (HL251.out.later (kept_trans Kk268.out Kk278.out)) hW279 (List.mem_cons_self ..) (by have := HG247.out; have := Z0.out; omega)
                        have HL286 : Hid (LiesQ W279 (Par w V0.heap.size (w57.heap.size :: []) P) g.y.kids _) := par_set (HL252.out.later (kept_trans Kk268.out Kk278.out)) hW279 (List.mem_cons_self ..) (by have := HG247.out; have := Z0.out; omega)
                        have HL287 : Hid (LiesQ W279 (Par w V0.heap.size (w57.heap.size :: []) P) g.h.kids _) := par_set (HL253.out.later (kept_trans Kk268.out Kk278.out)) hW279 (List.mem_cons_self ..) (by have := HG247.out; have := Z0.out; omega)
                        have HL288 : Hid (LiesQ W279 (Par w V0.heap.size (w57.heap.size :: []) P) h.a.kids _) := par_set (HL254.out.later (kept_trans Kk268.out Kk278.out)) hW279 (List.mem_cons_self ..) (by have := HG247.out; have := Z0.out; omega)
                        have HL289 : Hid (LiesQ W279 (Par w V0.heap.size (w57.heap.size :: []) P) h.b.kids _) := par_set (HL255.out.later (kept_trans Kk268.out Kk278.out)) hW279 (List.mem_cons_self ..) (by have := HG247.out; have := Z0.out; omega)
                        have HL290 : Hid (LiesQ W279 (Par w V0.heap.size (w57.heap.size :: []) P) h.x.kids _) := par_set (HL256.out.later (kept_trans Kk268.out Kk278.out)) hW279 (List.mem_cons_self ..) (by have := HG247.out; have := Z0.out; omega)
                        have HL291 : Hid (LiesQ W279 (Par w V0.heap.size (w57.heap.size :: []) P) h.y.kids _) := par_set (HL257.out.later (kept_trans Kk268.out Kk278.out)) hW279 (List.mem_cons_self ..) (by have := HG247.out; have := Z0.out; omega)
                        have HL292 : Hid (LiesQ W279 (Par w V0.heap.size (w57.heap.size :: []) P) h.h.kids _) := par_set (HL258.out.later (kept_trans Kk268.out Kk278.out)) hW279 (List.mem_cons_self ..) (by have := HG247.out; have := Z0.out; omega)
                        have HL293 : Hid (LiesQ W279 (Par w V0.heap.size (w57.heap.size :: []) P) U37.kids _) := par_set (HL259.out.later (kept_trans Kk268.out Kk278.out)) hW279 (List.mem_cons_self ..) (by have := HG247.out; have := Z0.out; omega)
                        have HL294 : Hid (LiesQ W279 (Par w V0.heap.size (w57.heap.size :: []) P) U46.kids _) := par_set (HL260.out.later (kept_trans Kk268.out Kk278.out)) hW279 (List.mem_cons_self ..) (by have := HG247.out; have := Z0.out; omega)
                        have HL295 : Hid (LiesQ W279 (Par w V0.heap.size (w57.heap.size :: []) P) U55.kids _) := par_set (HL261.out.later (kept_trans Kk268.out Kk278.out)) hW279 (List.mem_cons_self ..) (by have := HG247.out; have := Z0.out; omega)
                        have HL296 : Hid (LiesQ W279 (Par w V0.heap.size (w57.heap.size :: []) P) U64.kids _) := par_set (HL262.out.later (kept_trans Kk268.out Kk278.out)) hW279 (List.mem_cons_self ..) (by have := HG247.out; have := Z0.out; omega)
                        have HL297 : Hid (LiesQ W279 (Par w V0.heap.size (w57.heap.size :: []) P) [U37, U46, U55, U64, g.h, h.h] _) := par_set (HR269.out.later Kk278.out) hW279 (List.mem_cons_self ..) (by have := HG247.out; have := Z0.out; omega)
                        have HL298 : Hid (LiesQ W279 (Par w V0.heap.size (w57.heap.size :: []) P) U277.kids _) := par_set Hhl273.out hW279 (List.mem_cons_self ..) (by have := HG247.out; have := Z0.out; omega)
                        have XL299 := Lib.hid (xlt_set (xlt_later XL248.out (kept_trans Kk268.out Kk278.out)) hW279)
                        have HX300 := Lib.hid (blk_same (blk_at Hx243.out (kept_trans Kk268.out Kk278.out)) hW279)
                        clear hW279
                        clear hHeld
                        refine hK.out _ _ ?_ (fun hHeld => ?_)
                        · (try dsimp only)
                          exact sees_kept _ KB282.out
                        clear hK K
                        (try simp only [Act.put])
                        refine wpAnyH_done (by kernel_rfl) ?_ _
                        clear hHeld
                        have kvV0 : Sees V0 (w.heap.size + 2) W279 := sees_kept _ KB281.out
                        have kvW279 : Sees W279 (w.heap.size + 2) W279 := sees_kept _ (kept_refl _)
                        go_wp2_with (refine stop_load 32 (.tmp 54) rfl ?_)
                        intro _
                        refine wpList_load_part (w.heap.size) 1 32 (.tmp 54) #[.int .i64 g.a.k, .int .i64 g.a.i, .int .i64 g.a.j, .int .i64 g.a.n, (.slice aga g.a.kids.length cga)] du (blk_at Hx1.out KB281.out) (by rfl) rfl (by rfl) (by rfl) hu1 (by cases du <;> first | rfl | exact hu2) size_term ?_
                        go_wp2_with (refine stop_load 32 (.tmp 56) rfl ?_)
                        intro _
                        refine wpList_load_part (w.heap.size + 1) 6 32 (.tmp 56) #[.int .i64 h.b.k, .int .i64 h.b.i, .int .i64 h.b.j, .int .i64 h.b.n, (.slice ahb h.b.kids.length chb)] du (blk_at Hx2.out KB281.out) (by rfl) rfl (by rfl) (by rfl) hu1 (by cases du <;> first | rfl | exact hu2) size_term ?_
                        go_wp2_with (refine stop_load 32 (.tmp 58) rfl ?_)
                        intro _
                        refine wpList_load_part (w.heap.size) 11 32 (.tmp 58) #[.int .i64 g.x.k, .int .i64 g.x.i, .int .i64 g.x.j, .int .i64 g.x.n, (.slice agx g.x.kids.length cgx)] du (blk_at Hx1.out KB281.out) (by rfl) rfl (by rfl) (by rfl) hu1 (by cases du <;> first | rfl | exact hu2) size_term ?_
                        go_wp2_with (refine stop_load 32 (.tmp 60) rfl ?_)
                        intro _
                        refine wpList_load_part (w.heap.size + 1) 16 32 (.tmp 60) #[.int .i64 h.y.k, .int .i64 h.y.i, .int .i64 h.y.j, .int .i64 h.y.n, (.slice ahy h.y.kids.length chy)] du (blk_at Hx2.out KB281.out) (by rfl) rfl (by rfl) (by rfl) hu1 (by cases du <;> first | rfl | exact hu2) size_term ?_
                        go_wp2_with (refine stop_load 32 (.tmp 6) rfl ?_)
                        intro _
                        refine wpList_load_part (w57.heap.size) 0 32 (.tmp 6) #[.int .i64 U277.k, .int .i64 U277.i, .int .i64 U277.j, .int .i64 U277.n, (.slice a274 U277.kids.length c275)] du HX300.out (by rfl) rfl (by rfl) (by rfl) hu1 (by cases du <;> first | rfl | exact hu2) size_term ?_
                        go_wp2_with fail
                        clear kvV0
                        clear kvW279
                        refine (hfresh_any (⟨g.i, g.a, h.b, g.x, h.y, U277⟩ : He) (Par w V0.heap.size (w57.heap.size :: []) P) _ (.slice aga g.a.kids.length cga) (.slice ahb h.b.kids.length chb) (.slice agx g.x.kids.length cgx) (.slice ahy h.y.kids.length chy) (.slice a274 U277.kids.length c275) ⟨Gg.out.1, Gg.out.2.1, Gh.out.2.2.1, Gg.out.2.2.2.1, Gh.out.2.2.2.2.1, (by rw [← HU277.out]; exact (use_fine (show I64 4 from by unfold I64; decide) (lev_succ (heR_lev Hhb11.out) (by decide)) (by unfold I64; decide)))⟩ ⟨HL283.out, HL289.out, HL285.out, HL291.out, HL298.out⟩ (heR_pl Hhb11.out _ (by simp)) (heR_pl Hhb19.out _ (by simp)) (heR_pl Hhb11.out _ (by simp)) (heR_pl Hhb19.out _ (by simp))).mono ?_
                        obtain ⟨U303, hU303⟩ : ∃ qu, (⟨g.i, g.a, h.b, g.x, h.y, U277⟩ : He) = qu := ⟨_, rfl⟩
                        rw [hU303]
                        have HU303 := Lib.hid hU303
                        clear hU303
                        rintro e w301 ⟨s304, s305, s306, s307, s308, rfl, ⟨hl309, hl310, hl311, hl312, hl313⟩, k302⟩
                        obtain ⟨a314, c315, S316, rfl, -⟩ := hl309.out
                        obtain ⟨a317, c318, S319, rfl, -⟩ := hl310.out
                        obtain ⟨a320, c321, S322, rfl, -⟩ := hl311.out
                        obtain ⟨a323, c324, S325, rfl, -⟩ := hl312.out
                        obtain ⟨a326, c327, S328, rfl, -⟩ := hl313.out
                        have Kk329 := Lib.hid k302
                        clear k302
                        have Hhl309 : Hid (LiesQ w301 (Par w V0.heap.size (w57.heap.size :: []) P) U303.a.kids _) := par_give hl309 (Below.size KB281.out) XL299.out
                        have Hhl310 : Hid (LiesQ w301 (Par w V0.heap.size (w57.heap.size :: []) P) U303.b.kids _) := par_give hl310 (Below.size KB281.out) XL299.out
                        have Hhl311 : Hid (LiesQ w301 (Par w V0.heap.size (w57.heap.size :: []) P) U303.x.kids _) := par_give hl311 (Below.size KB281.out) XL299.out
                        have Hhl312 : Hid (LiesQ w301 (Par w V0.heap.size (w57.heap.size :: []) P) U303.y.kids _) := par_give hl312 (Below.size KB281.out) XL299.out
                        have Hhl313 : Hid (LiesQ w301 (Par w V0.heap.size (w57.heap.size :: []) P) U303.h.kids _) := par_give hl313 (Below.size KB281.out) XL299.out
                        clear hl309 hl310 hl311 hl312 hl313
                        have kvV0 : Sees V0 (w.heap.size + 2) w301 := sees_kept _ (kept_trans KB281.out Kk329.out)
                        have kvW279 : Sees W279 (w.heap.size + 2) w301 := sees_kept _ Kk329.out
                        go_wp2_with (refine stop_store 51 (.tmp 4) (.tmp 64) rfl ?_)
                        intro _
                        refine wpList_store_part_n (by rfl) 51 (.tmp 4) (.tmp 64) rfl (w.heap.size + 2) 0 #[.int .i64 U303.i, .int .i64 U303.a.k, .int .i64 U303.a.i, .int .i64 U303.a.j, .int .i64 U303.a.n, (.slice a314 U303.a.kids.length c315), .int .i64 U303.b.k, .int .i64 U303.b.i, .int .i64 U303.b.j, .int .i64 U303.b.n, (.slice a317 U303.b.kids.length c318), .int .i64 U303.x.k, .int .i64 U303.x.i, .int .i64 U303.x.j, .int .i64 U303.x.n, (.slice a320 U303.x.kids.length c321), .int .i64 U303.y.k, .int .i64 U303.y.i, .int .i64 U303.y.j, .int .i64 U303.y.n, (.slice a323 U303.y.kids.length c324), .int .i64 U303.h.k, .int .i64 U303.h.i, .int .i64 U303.h.j, .int .i64 U303.h.n, (.slice a326 U303.h.kids.length c327)] (by rfl) (by rfl) 51 (by kernel_rfl) (row_ok rfl) ?_
                        intro W330 hW330
                        clear kvV0
                        clear kvW279
                        subst hW330
                        refine ⟨_, #[.int .i64 U303.i, .int .i64 U303.a.k, .int .i64 U303.a.i, .int .i64 U303.a.j, .int .i64 U303.a.n, (.slice a314 U303.a.kids.length c315), .int .i64 U303.b.k, .int .i64 U303.b.i, .int .i64 U303.b.j, .int .i64 U303.b.n, (.slice a317 U303.b.kids.length c318), .int .i64 U303.x.k, .int .i64 U303.x.i, .int .i64 U303.x.j, .int .i64 U303.x.n, (.slice a320 U303.x.kids.length c321), .int .i64 U303.y.k, .int .i64 U303.y.i, .int .i64 U303.y.j, .int .i64 U303.y.n, (.slice a323 U303.y.kids.length c324), .int .i64 U303.h.k, .int .i64 U303.h.i, .int .i64 U303.h.j, .int .i64 U303.h.n, (.slice a326 U303.h.kids.length c327)], (blk_at Hx3.out (kept_trans KB281.out Kk329.out)), rfl, Nat.le_of_ble_eq_true rfl, ?_⟩
                        intro W331 hW331
                        go_wp2_with fail
                        refine bodyPost_ret (results_cell_row rfl _ _ (w.heap.size + 2) 51 _ _ dh rfl (blk_same (blk_at Hx3.out (kept_trans KB281.out Kk329.out)) hW331) dh1 (by cases dh <;> first | rfl | exact dh2) (by kernel_rfl)) rfl ?_
                        rw [show heThen g h = U303 from by unfold heThen; rw [Hhb11.out, Hhb19.out, Ec25.out]; rw [← HU303.out]; rw [← HU277.out]; rw [← HU64.out]; rw [← HU55.out]; rw [← HU46.out]; rw [← HU37.out]; (try rfl)]
                        exact ⟨_, _, _, _, _, rfl, ⟨par_end (par_row' Hhl309.out hW331 (by omega) (by have := Z0.out; omega)) (by have := Z0.out; omega), par_end (par_row' Hhl310.out hW331 (by omega) (by have := Z0.out; omega)) (by have := Z0.out; omega), par_end (par_row' Hhl311.out hW331 (by omega) (by have := Z0.out; omega)) (by have := Z0.out; omega), par_end (par_row' Hhl312.out hW331 (by omega) (by have := Z0.out; omega)) (by have := Z0.out; omega), par_end (par_row' Hhl313.out hW331 (by omega) (by have := Z0.out; omega)) (by have := Z0.out; omega)⟩, kept_set (kept_trans KB280.out Kk329.out) hW331 (by omega)⟩
                      exact AllReadyH.nil
                    exact AllReadyH.nil
                  exact AllReadyH.nil
                exact AllReadyH.nil
              refine AllReadyH.cons (o := hthenr4_28) rfl (fun K hK => ?_) ?_
              · unfold hthenr4_28
                go_simp
                refine at_K (fun W332 hW332 => ?_)
                obtain ⟨k334, x333, z335⟩ := alloc1 hW332
                have Kk336 := Lib.hid k334
                clear k334
                have Hx333 := Lib.hid x333
                have Hz335 := Lib.hid z335
                clear x333 z335 hW332
                have HG337 : Hid (V0.heap.size ≤ w48.heap.size) := (Below.size (kept_trans Kk13.out (kept_trans Kk21.out (kept_trans Kk29.out (kept_trans Kk38.out (kept_trans Kk47.out Kk56.out))))))
                have XL338 := Lib.hid (xlt_more (xlt_nil _) Kk336.out (by have := Hz335.out; omega))
                have HL339 : Hid (LiesQ W332 (Par w V0.heap.size (w48.heap.size :: []) P) g.a.kids _) := (par_more (HLga.out.later (kept_trans Kk13.out (kept_trans Kk21.out (kept_trans Kk29.out (kept_trans Kk38.out (kept_trans Kk47.out Kk56.out))))))).later Kk336.out
                have HL340 : Hid (LiesQ W332 (Par w V0.heap.size (w48.heap.size :: []) P) g.b.kids _) := (par_more (HLgb.out.later (kept_trans Kk13.out (kept_trans Kk21.out (kept_trans Kk29.out (kept_trans Kk38.out (kept_trans Kk47.out Kk56.out))))))).later Kk336.out
                have HL341 : Hid (LiesQ W332 (Par w V0.heap.size (w48.heap.size :: []) P) g.x.kids _) := (par_more (HLgx.out.later (kept_trans Kk13.out (kept_trans Kk21.out (kept_trans Kk29.out (kept_trans Kk38.out (kept_trans Kk47.out Kk56.out))))))).later Kk336.out
                have HL342 : Hid (LiesQ W332 (Par w V0.heap.size (w48.heap.size :: []) P) g.y.kids _) := (par_more (HLgy.out.later (kept_trans Kk13.out (kept_trans Kk21.out (kept_trans Kk29.out (kept_trans Kk38.out (kept_trans Kk47.out Kk56.out))))))).later Kk336.out
                have HL343 : Hid (LiesQ W332 (Par w V0.heap.size (w48.heap.size :: []) P) g.h.kids _) := (par_more (HLgh.out.later (kept_trans Kk13.out (kept_trans Kk21.out (kept_trans Kk29.out (kept_trans Kk38.out (kept_trans Kk47.out Kk56.out))))))).later Kk336.out
                have HL344 : Hid (LiesQ W332 (Par w V0.heap.size (w48.heap.size :: []) P) h.a.kids _) := (par_more (HLha.out.later (kept_trans Kk13.out (kept_trans Kk21.out (kept_trans Kk29.out (kept_trans Kk38.out (kept_trans Kk47.out Kk56.out))))))).later Kk336.out
                have HL345 : Hid (LiesQ W332 (Par w V0.heap.size (w48.heap.size :: []) P) h.b.kids _) := (par_more (HLhb.out.later (kept_trans Kk13.out (kept_trans Kk21.out (kept_trans Kk29.out (kept_trans Kk38.out (kept_trans Kk47.out Kk56.out))))))).later Kk336.out
                have HL346 : Hid (LiesQ W332 (Par w V0.heap.size (w48.heap.size :: []) P) h.x.kids _) := (par_more (HLhx.out.later (kept_trans Kk13.out (kept_trans Kk21.out (kept_trans Kk29.out (kept_trans Kk38.out (kept_trans Kk47.out Kk56.out))))))).later Kk336.out
                have HL347 : Hid (LiesQ W332 (Par w V0.heap.size (w48.heap.size :: []) P) h.y.kids _) := (par_more (HLhy.out.later (kept_trans Kk13.out (kept_trans Kk21.out (kept_trans Kk29.out (kept_trans Kk38.out (kept_trans Kk47.out Kk56.out))))))).later Kk336.out
                have HL348 : Hid (LiesQ W332 (Par w V0.heap.size (w48.heap.size :: []) P) h.h.kids _) := (par_more (HLhh.out.later (kept_trans Kk13.out (kept_trans Kk21.out (kept_trans Kk29.out (kept_trans Kk38.out (kept_trans Kk47.out Kk56.out))))))).later Kk336.out
                have HL349 : Hid (LiesQ W332 (Par w V0.heap.size (w48.heap.size :: []) P) U37.kids _) := (par_more (Hhl33.out.later (kept_trans Kk47.out Kk56.out))).later Kk336.out
                have HL350 : Hid (LiesQ W332 (Par w V0.heap.size (w48.heap.size :: []) P) U46.kids _) := (par_more (Hhl42.out.later Kk56.out)).later Kk336.out
                have HL351 : Hid (LiesQ W332 (Par w V0.heap.size (w48.heap.size :: []) P) U55.kids _) := (par_more Hhl51.out).later Kk336.out
                clear hHeld
                refine hK.out _ _ ?_ (fun hHeld => ?_)
                · (try dsimp only)
                  exact sees_kept _ (kept_trans Kk38.out (kept_trans Kk47.out (kept_trans Kk56.out Kk336.out)))
                clear hK K
                (try simp only [Act.put, List.setIfInBounds_toArray, List.set_cons_zero, List.set_cons_succ])
                refine wpAnyH_ready (rs := [21]) (by kernel_rfl) (by simp) ?_
                refine AllReadyH.cons (o := hthenr4_21) rfl (fun K hK => ?_) ?_
                · unfold hthenr4_21
                  go_simp
                  refine (hpoint_any g.i h.b h.y (Par w V0.heap.size (w48.heap.size :: []) P) _ (.slice ahb h.b.kids.length chb) (.slice ahy h.y.kids.length chy) Gg.out.1 Gh.out.2.2.1 HL345.out Gh.out.2.2.2.2.1 HL347.out (heR_pl Hhb19.out _ (by simp)) (heR_pl Hhb19.out _ (by simp))).mono ?_
                  obtain ⟨U359, hU359⟩ : ∃ qu, pointT g.i h.b h.y = qu := ⟨_, rfl⟩
                  rw [hU359]
                  have HU359 := Lib.hid hU359
                  clear hU359
                  rintro e w352 ⟨s354, rfl, hl355, k353⟩
                  obtain ⟨a356, c357, S358, rfl, -⟩ := hl355.out
                  have Kk360 := Lib.hid k353
                  clear k353
                  have Hhl355 : Hid (LiesQ w352 (Par w V0.heap.size (w48.heap.size :: []) P) U359.kids _) := par_give hl355 (Below.size (kept_trans Kk13.out (kept_trans Kk21.out (kept_trans Kk29.out (kept_trans Kk38.out (kept_trans Kk47.out (kept_trans Kk56.out Kk336.out))))))) XL338.out
                  clear hl355
                  clear hHeld
                  refine hK.out _ _ ?_ (fun hHeld => ?_)
                  · (try dsimp only)
                    exact sees_kept _ (kept_trans Kk38.out (kept_trans Kk47.out (kept_trans Kk56.out (kept_trans Kk336.out Kk360.out))))
                  clear hK K
                  (try simp only [Act.put, List.setIfInBounds_toArray, List.set_cons_zero, List.set_cons_succ])
                  refine wpAnyH_ready (rs := [26]) (by kernel_rfl) (by simp) ?_
                  refine AllReadyH.cons (o := hthenr4_26) rfl (fun K hK => ?_) ?_
                  · unfold hthenr4_26
                    go_simp
                    refine at_K (fun W362 hW362 => ?_)
                    obtain ⟨k364, x363, z365⟩ := alloc1 hW362
                    have Kk366 := Lib.hid k364
                    clear k364
                    have Hx363 := Lib.hid x363
                    have Hz365 := Lib.hid z365
                    clear x363 z365 hW362
                    have HR367 : Hid (LiesQ W362 (Par w V0.heap.size (w48.heap.size :: []) P) [U37, U46, U55, U359, g.h, h.h] (.slice (some ⟨w352.heap.size, 0, none⟩) 6 6)) := q_row [(U37, (.slice a34 U37.kids.length c35)), (U46, (.slice a43 U46.kids.length c44)), (U55, (.slice a52 U55.kids.length c53)), (U359, (.slice a356 U359.kids.length c357)), (g.h, (.slice agh g.h.kids.length cgh)), (h.h, (.slice ahh h.h.kids.length chh))] _ rfl Hx363.out (par_new (Below.size (kept_trans Kk13.out (kept_trans Kk21.out (kept_trans Kk29.out (kept_trans Kk38.out (kept_trans Kk47.out (kept_trans Kk56.out (kept_trans Kk336.out Kk360.out)))))))) (xlt_later XL338.out Kk360.out) (Nat.le_refl _)) (fun p hp => by
                      simp only [List.mem_cons, List.not_mem_nil, or_false] at hp
                      rcases hp with rfl | rfl | rfl | rfl | rfl | rfl
                      · exact ⟨(by rw [← HU37.out]; exact (right_fine (plain_right (points_plain (heR_lev Hhb11.out))))), (HL349.out.later (kept_trans Kk360.out Kk366.out))⟩
                      · exact ⟨(by rw [← HU46.out]; exact (right_fine (plain_right (point_plain (heR_lev Hhb11.out) (heR_pl Hhb11.out _ (by simp)) (heR_pl Hhb11.out _ (by simp)))))), (HL350.out.later (kept_trans Kk360.out Kk366.out))⟩
                      · exact ⟨(by rw [← HU55.out]; exact (right_fine (plain_right (point_plain (heR_lev Hhb11.out) (heR_pl Hhb11.out _ (by simp)) (heR_pl Hhb11.out _ (by simp)))))), (HL351.out.later (kept_trans Kk360.out Kk366.out))⟩
                      · exact ⟨(by rw [← HU359.out]; exact (right_fine (plain_right (point_plain (heR_lev Hhb11.out) (heR_pl Hhb19.out _ (by simp)) (heR_pl Hhb19.out _ (by simp)))))), (Hhl355.out.later Kk366.out)⟩
                      · exact ⟨Gg.out.2.2.2.2.2, (HL343.out.later (kept_trans Kk360.out Kk366.out))⟩
                      · exact ⟨Gh.out.2.2.2.2.2, (HL348.out.later (kept_trans Kk360.out Kk366.out))⟩) (Nat.le_of_ble_eq_true rfl)
                    clear hHeld
                    refine hK.out _ _ ?_ (fun hHeld => ?_)
                    · (try dsimp only)
                      exact sees_kept _ (kept_trans Kk38.out (kept_trans Kk47.out (kept_trans Kk56.out (kept_trans Kk336.out (kept_trans Kk360.out Kk366.out)))))
                    clear hK K
                    (try simp only [Act.put, List.setIfInBounds_toArray, List.set_cons_zero, List.set_cons_succ])
                    refine wpAnyH_ready (rs := [27]) (by kernel_rfl) (by simp) ?_
                    refine AllReadyH.cons (o := hthenr4_27) rfl (fun K hK => ?_) ?_
                    · unfold hthenr4_27
                      go_simp
                      refine (huse_any 4 (g.i + 1) [U37, U46, U55, U359, g.h, h.h] (Par w V0.heap.size (w48.heap.size :: []) P) _ _ (show I64 4 from by unfold I64; decide) (lev_succ (heR_lev Hhb11.out) (by decide)) HR367.out (fun x hx => by
                        simp only [List.mem_cons, List.not_mem_nil, or_false] at hx
                        rcases hx with rfl | rfl | rfl | rfl | rfl | rfl
                        · exact (by rw [← HU37.out]; exact (points_plain (heR_lev Hhb11.out)))
                        · exact (by rw [← HU46.out]; exact (point_plain (heR_lev Hhb11.out) (heR_pl Hhb11.out _ (by simp)) (heR_pl Hhb11.out _ (by simp))))
                        · exact (by rw [← HU55.out]; exact (point_plain (heR_lev Hhb11.out) (heR_pl Hhb11.out _ (by simp)) (heR_pl Hhb11.out _ (by simp))))
                        · exact (by rw [← HU359.out]; exact (point_plain (heR_lev Hhb11.out) (heR_pl Hhb19.out _ (by simp)) (heR_pl Hhb19.out _ (by simp))))
                        · exact (heR_pl Hhb11.out _ (by simp))
                        · exact (heR_pl Hhb19.out _ (by simp))) (Nat.le_of_ble_eq_true rfl)).mono ?_
                      obtain ⟨U375, hU375⟩ : ∃ qu, useT 4 (g.i + 1) 0 [U37, U46, U55, U359, g.h, h.h] = qu := ⟨_, rfl⟩
                      rw [hU375]
                      have HU375 := Lib.hid hU375
                      clear hU375
                      rintro e w368 ⟨s370, rfl, hl371, k369⟩
                      obtain ⟨a372, c373, S374, rfl, -⟩ := hl371.out
                      have Kk376 := Lib.hid k369
                      clear k369
                      have Hhl371 : Hid (LiesQ w368 (Par w V0.heap.size (w48.heap.size :: []) P) U375.kids _) := par_give hl371 (Below.size (kept_trans Kk13.out (kept_trans Kk21.out (kept_trans Kk29.out (kept_trans Kk38.out (kept_trans Kk47.out (kept_trans Kk56.out (kept_trans Kk336.out (kept_trans Kk360.out Kk366.out))))))))) (xlt_later XL338.out (kept_trans Kk360.out Kk366.out))
                      clear hl371
                      clear hHeld
                      refine hK.out _ _ ?_ (fun hHeld => ?_)
                      · (try dsimp only)
                        exact sees_kept _ (kept_trans Kk38.out (kept_trans Kk47.out (kept_trans Kk56.out (kept_trans Kk336.out (kept_trans Kk360.out (kept_trans Kk366.out Kk376.out))))))
                      clear hK K
                      (try simp only [Act.put, List.setIfInBounds_toArray, List.set_cons_zero, List.set_cons_succ])
                      refine wpAnyH_ready (rs := [29]) (by kernel_rfl) (by simp) ?_
                      refine AllReadyH.cons (o := hthenr4_29) rfl (fun K hK => ?_) ?_
                      · unfold hthenr4_29
                        refine step_store_part rfl 32 (.tmp 6) (.tmp 52) rfl (w48.heap.size) 0 #[.int .i64 U375.k, .int .i64 U375.i, .int .i64 U375.j, .int .i64 U375.n, (.slice a372 U375.kids.length c373)] rfl rfl 32 size_term (row_ok rfl) _ #[.int .i64 U375.k, .int .i64 U375.i, .int .i64 U375.j, .int .i64 U375.n, (.slice a372 U375.kids.length c373)] (blk_at Hx333.out (kept_trans Kk360.out (kept_trans Kk366.out Kk376.out))) rfl (Nat.le_of_ble_eq_true rfl) ?_
                        intro W377 hW377
                        have KB378 := Lib.hid (kept_set (kept_trans Kk6.out (kept_trans Kk13.out (kept_trans Kk21.out (kept_trans Kk29.out (kept_trans Kk38.out (kept_trans Kk47.out (kept_trans Kk56.out (kept_trans Kk336.out (kept_trans Kk360.out (kept_trans Kk366.out Kk376.out)))))))))) hW377 (by have := HG337.out; have := Z0.out; omega))
                        have KB379 := Lib.hid (kept_set (kept_trans Kk13.out (kept_trans Kk21.out (kept_trans Kk29.out (kept_trans Kk38.out (kept_trans Kk47.out (kept_trans Kk56.out (kept_trans Kk336.out (kept_trans Kk360.out (kept_trans Kk366.out Kk376.out))))))))) hW377 HG337.out)
                        have KB380 := Lib.hid (kept_set (kept_trans Kk38.out (kept_trans Kk47.out (kept_trans Kk56.out (kept_trans Kk336.out (kept_trans Kk360.out (kept_trans Kk366.out Kk376.out)))))) hW377 (Below.size (kept_trans Kk38.out (kept_trans Kk47.out Kk56.out))))
                        have HL381 : Hid (LiesQ W377 (Par w V0.heap.size (w48.heap.size :: []) P) g.a.kids _) := par_set (HL339.out.later (kept_trans Kk360.out (kept_trans Kk366.out Kk376.out))) hW377 (List.mem_cons_self ..) (by have := HG337.out; have := Z0.out; omega)
                        have HL382 : Hid (LiesQ W377 (Par w V0.heap.size (w48.heap.size :: []) P) g.b.kids _) := par_set (HL340.out.later (kept_trans Kk360.out (kept_trans Kk366.out Kk376.out))) hW377 (List.mem_cons_self ..) (by have := HG337.out; have := Z0.out; omega)
                        have HL383 : Hid (LiesQ W377 (Par w V0.heap.size (w48.heap.size :: []) P) g.x.kids _) := par_set (HL341.out.later (kept_trans Kk360.out (kept_trans Kk366.out Kk376.out))) hW377 (List.mem_cons_self ..) (by have := HG337.out; have := Z0.out; omega)
                        have HL384 : Hid (LiesQ W377 (Par w V0.heap.size (w48.heap.size :: []) P) g.y.kids _) := par_set (HL342.out.later (kept_trans Kk360.out (kept_trans Kk366.out Kk376.out))) hW377 (List.mem_cons_self ..) (by have := HG337.out; have := Z0.out; omega)
                        have HL385 : Hid (LiesQ W377 (Par w V0.heap.size (w48.heap.size :: []) P) g.h.kids _) := par_set (HL343.out.later (kept_trans Kk360.out (kept_trans Kk366.out Kk376.out))) hW377 (List.mem_cons_self ..) (by have := HG337.out; have := Z0.out; omega)
                        have HL386 : Hid (LiesQ W377 (Par w V0.heap.size (w48.heap.size :: []) P) h.a.kids _) := par_set (HL344.out.later (kept_trans Kk360.out (kept_trans Kk366.out Kk376.out))) hW377 (List.mem_cons_self ..) (by have := HG337.out; have := Z0.out; omega)
                        have HL387 : Hid (LiesQ W377 (Par w V0.heap.size (w48.heap.size :: []) P) h.b.kids _) := par_set (HL345.out.later (kept_trans Kk360.out (kept_trans Kk366.out Kk376.out))) hW377 (List.mem_cons_self ..) (by have := HG337.out; have := Z0.out; omega)
                        have HL388 : Hid (LiesQ W377 (Par w V0.heap.size (w48.heap.size :: []) P) h.x.kids _) := par_set (HL346.out.later (kept_trans Kk360.out (kept_trans Kk366.out Kk376.out))) hW377 (List.mem_cons_self ..) (by have := HG337.out; have := Z0.out; omega)
                        have HL389 : Hid (LiesQ W377 (Par w V0.heap.size (w48.heap.size :: []) P) h.y.kids _) := par_set (HL347.out.later (kept_trans Kk360.out (kept_trans Kk366.out Kk376.out))) hW377 (List.mem_cons_self ..) (by have := HG337.out; have := Z0.out; omega)
                        have HL390 : Hid (LiesQ W377 (Par w V0.heap.size (w48.heap.size :: []) P) h.h.kids _) := par_set (HL348.out.later (kept_trans Kk360.out (kept_trans Kk366.out Kk376.out))) hW377 (List.mem_cons_self ..) (by have := HG337.out; have := Z0.out; omega)
                        have HL391 : Hid (LiesQ W377 (Par w V0.heap.size (w48.heap.size :: []) P) U37.kids _) := par_set (HL349.out.later (kept_trans Kk360.out (kept_trans Kk366.out Kk376.out))) hW377 (List.mem_cons_self ..) (by have := HG337.out; have := Z0.out; omega)
                        have HL392 : Hid (LiesQ W377 (Par w V0.heap.size (w48.heap.size :: []) P) U46.kids _) := par_set (HL350.out.later (kept_trans Kk360.out (kept_trans Kk366.out Kk376.out))) hW377 (List.mem_cons_self ..) (by have := HG337.out; have := Z0.out; omega)
                        have HL393 : Hid (LiesQ W377 (Par w V0.heap.size (w48.heap.size :: []) P) U55.kids _) := par_set (HL351.out.later (kept_trans Kk360.out (kept_trans Kk366.out Kk376.out))) hW377 (List.mem_cons_self ..) (by have := HG337.out; have := Z0.out; omega)
                        have HL394 : Hid (LiesQ W377 (Par w V0.heap.size (w48.heap.size :: []) P) U359.kids _) := par_set (Hhl355.out.later (kept_trans Kk366.out Kk376.out)) hW377 (List.mem_cons_self ..) (by have := HG337.out; have := Z0.out; omega)
                        have HL395 : Hid (LiesQ W377 (Par w V0.heap.size (w48.heap.size :: []) P) [U37, U46, U55, U359, g.h, h.h] _) := par_set (HR367.out.later Kk376.out) hW377 (List.mem_cons_self ..) (by have := HG337.out; have := Z0.out; omega)
                        have HL396 : Hid (LiesQ W377 (Par w V0.heap.size (w48.heap.size :: []) P) U375.kids _) := par_set Hhl371.out hW377 (List.mem_cons_self ..) (by have := HG337.out; have := Z0.out; omega)
                        have XL397 := Lib.hid (xlt_set (xlt_later XL338.out (kept_trans Kk360.out (kept_trans Kk366.out Kk376.out))) hW377)
                        have HX398 := Lib.hid (blk_same (blk_at Hx333.out (kept_trans Kk360.out (kept_trans Kk366.out Kk376.out))) hW377)
                        clear hW377
                        clear hHeld
                        refine hK.out _ _ ?_ (fun hHeld => ?_)
                        · (try dsimp only)
                          exact sees_kept _ KB380.out
                        clear hK K
                        (try simp only [Act.put])
                        refine wpAnyH_done (by kernel_rfl) ?_ _
                        clear hHeld
                        have kvV0 : Sees V0 (w.heap.size + 2) W377 := sees_kept _ KB379.out
                        have kvW377 : Sees W377 (w.heap.size + 2) W377 := sees_kept _ (kept_refl _)
                        go_wp2_with (refine stop_load 32 (.tmp 54) rfl ?_)
                        intro _
                        refine wpList_load_part (w.heap.size) 1 32 (.tmp 54) #[.int .i64 g.a.k, .int .i64 g.a.i, .int .i64 g.a.j, .int .i64 g.a.n, (.slice aga g.a.kids.length cga)] du (blk_at Hx1.out KB379.out) (by rfl) rfl (by rfl) (by rfl) hu1 (by cases du <;> first | rfl | exact hu2) size_term ?_
                        go_wp2_with (refine stop_load 32 (.tmp 56) rfl ?_)
                        intro _
                        refine wpList_load_part (w.heap.size + 1) 6 32 (.tmp 56) #[.int .i64 h.b.k, .int .i64 h.b.i, .int .i64 h.b.j, .int .i64 h.b.n, (.slice ahb h.b.kids.length chb)] du (blk_at Hx2.out KB379.out) (by rfl) rfl (by rfl) (by rfl) hu1 (by cases du <;> first | rfl | exact hu2) size_term ?_
                        go_wp2_with (refine stop_load 32 (.tmp 58) rfl ?_)
                        intro _
                        refine wpList_load_part (w.heap.size) 11 32 (.tmp 58) #[.int .i64 g.x.k, .int .i64 g.x.i, .int .i64 g.x.j, .int .i64 g.x.n, (.slice agx g.x.kids.length cgx)] du (blk_at Hx1.out KB379.out) (by rfl) rfl (by rfl) (by rfl) hu1 (by cases du <;> first | rfl | exact hu2) size_term ?_
                        go_wp2_with (refine stop_load 32 (.tmp 60) rfl ?_)
                        intro _
                        refine wpList_load_part (w.heap.size + 1) 16 32 (.tmp 60) #[.int .i64 h.y.k, .int .i64 h.y.i, .int .i64 h.y.j, .int .i64 h.y.n, (.slice ahy h.y.kids.length chy)] du (blk_at Hx2.out KB379.out) (by rfl) rfl (by rfl) (by rfl) hu1 (by cases du <;> first | rfl | exact hu2) size_term ?_
                        go_wp2_with (refine stop_load 32 (.tmp 6) rfl ?_)
                        intro _
                        refine wpList_load_part (w48.heap.size) 0 32 (.tmp 6) #[.int .i64 U375.k, .int .i64 U375.i, .int .i64 U375.j, .int .i64 U375.n, (.slice a372 U375.kids.length c373)] du HX398.out (by rfl) rfl (by rfl) (by rfl) hu1 (by cases du <;> first | rfl | exact hu2) size_term ?_
                        go_wp2_with fail
                        clear kvV0
                        clear kvW377
                        refine (hfresh_any (⟨g.i, g.a, h.b, g.x, h.y, U375⟩ : He) (Par w V0.heap.size (w48.heap.size :: []) P) _ (.slice aga g.a.kids.length cga) (.slice ahb h.b.kids.length chb) (.slice agx g.x.kids.length cgx) (.slice ahy h.y.kids.length chy) (.slice a372 U375.kids.length c373) ⟨Gg.out.1, Gg.out.2.1, Gh.out.2.2.1, Gg.out.2.2.2.1, Gh.out.2.2.2.2.1, (by rw [← HU375.out]; exact (use_fine (show I64 4 from by unfold I64; decide) (lev_succ (heR_lev Hhb11.out) (by decide)) (by unfold I64; decide)))⟩ ⟨HL381.out, HL387.out, HL383.out, HL389.out, HL396.out⟩ (heR_pl Hhb11.out _ (by simp)) (heR_pl Hhb19.out _ (by simp)) (heR_pl Hhb11.out _ (by simp)) (heR_pl Hhb19.out _ (by simp))).mono ?_
                        obtain ⟨U401, hU401⟩ : ∃ qu, (⟨g.i, g.a, h.b, g.x, h.y, U375⟩ : He) = qu := ⟨_, rfl⟩
                        rw [hU401]
                        have HU401 := Lib.hid hU401
                        clear hU401
                        rintro e w399 ⟨s402, s403, s404, s405, s406, rfl, ⟨hl407, hl408, hl409, hl410, hl411⟩, k400⟩
                        obtain ⟨a412, c413, S414, rfl, -⟩ := hl407.out
                        obtain ⟨a415, c416, S417, rfl, -⟩ := hl408.out
                        obtain ⟨a418, c419, S420, rfl, -⟩ := hl409.out
                        obtain ⟨a421, c422, S423, rfl, -⟩ := hl410.out
                        obtain ⟨a424, c425, S426, rfl, -⟩ := hl411.out
                        have Kk427 := Lib.hid k400
                        clear k400
                        have Hhl407 : Hid (LiesQ w399 (Par w V0.heap.size (w48.heap.size :: []) P) U401.a.kids _) := par_give hl407 (Below.size KB379.out) XL397.out
                        have Hhl408 : Hid (LiesQ w399 (Par w V0.heap.size (w48.heap.size :: []) P) U401.b.kids _) := par_give hl408 (Below.size KB379.out) XL397.out
                        have Hhl409 : Hid (LiesQ w399 (Par w V0.heap.size (w48.heap.size :: []) P) U401.x.kids _) := par_give hl409 (Below.size KB379.out) XL397.out
                        have Hhl410 : Hid (LiesQ w399 (Par w V0.heap.size (w48.heap.size :: []) P) U401.y.kids _) := par_give hl410 (Below.size KB379.out) XL397.out
                        have Hhl411 : Hid (LiesQ w399 (Par w V0.heap.size (w48.heap.size :: []) P) U401.h.kids _) := par_give hl411 (Below.size KB379.out) XL397.out
                        clear hl407 hl408 hl409 hl410 hl411
                        have kvV0 : Sees V0 (w.heap.size + 2) w399 := sees_kept _ (kept_trans KB379.out Kk427.out)
                        have kvW377 : Sees W377 (w.heap.size + 2) w399 := sees_kept _ Kk427.out
                        go_wp2_with (refine stop_store 51 (.tmp 4) (.tmp 64) rfl ?_)
                        intro _
                        refine wpList_store_part_n (by rfl) 51 (.tmp 4) (.tmp 64) rfl (w.heap.size + 2) 0 #[.int .i64 U401.i, .int .i64 U401.a.k, .int .i64 U401.a.i, .int .i64 U401.a.j, .int .i64 U401.a.n, (.slice a412 U401.a.kids.length c413), .int .i64 U401.b.k, .int .i64 U401.b.i, .int .i64 U401.b.j, .int .i64 U401.b.n, (.slice a415 U401.b.kids.length c416), .int .i64 U401.x.k, .int .i64 U401.x.i, .int .i64 U401.x.j, .int .i64 U401.x.n, (.slice a418 U401.x.kids.length c419), .int .i64 U401.y.k, .int .i64 U401.y.i, .int .i64 U401.y.j, .int .i64 U401.y.n, (.slice a421 U401.y.kids.length c422), .int .i64 U401.h.k, .int .i64 U401.h.i, .int .i64 U401.h.j, .int .i64 U401.h.n, (.slice a424 U401.h.kids.length c425)] (by rfl) (by rfl) 51 (by kernel_rfl) (row_ok rfl) ?_
                        intro W428 hW428
                        clear kvV0
                        clear kvW377
                        subst hW428
                        refine ⟨_, #[.int .i64 U401.i, .int .i64 U401.a.k, .int .i64 U401.a.i, .int .i64 U401.a.j, .int .i64 U401.a.n, (.slice a412 U401.a.kids.length c413), .int .i64 U401.b.k, .int .i64 U401.b.i, .int .i64 U401.b.j, .int .i64 U401.b.n, (.slice a415 U401.b.kids.length c416), .int .i64 U401.x.k, .int .i64 U401.x.i, .int .i64 U401.x.j, .int .i64 U401.x.n, (.slice a418 U401.x.kids.length c419), .int .i64 U401.y.k, .int .i64 U401.y.i, .int .i64 U401.y.j, .int .i64 U401.y.n, (.slice a421 U401.y.kids.length c422), .int .i64 U401.h.k, .int .i64 U401.h.i, .int .i64 U401.h.j, .int .i64 U401.h.n, (.slice a424 U401.h.kids.length c425)], (blk_at Hx3.out (kept_trans KB379.out Kk427.out)), rfl, Nat.le_of_ble_eq_true rfl, ?_⟩
                        intro W429 hW429
                        go_wp2_with fail
                        refine bodyPost_ret (results_cell_row rfl _ _ (w.heap.size + 2) 51 _ _ dh rfl (blk_same (blk_at Hx3.out (kept_trans KB379.out Kk427.out)) hW429) dh1 (by cases dh <;> first | rfl | exact dh2) (by kernel_rfl)) rfl ?_
                        rw [show heThen g h = U401 from by unfold heThen; rw [Hhb11.out, Hhb19.out, Ec25.out]; rw [← HU401.out]; rw [← HU375.out]; rw [← HU359.out]; rw [← HU55.out]; rw [← HU46.out]; rw [← HU37.out]; (try rfl)]
                        exact ⟨_, _, _, _, _, rfl, ⟨par_end (par_row' Hhl407.out hW429 (by omega) (by have := Z0.out; omega)) (by have := Z0.out; omega), par_end (par_row' Hhl408.out hW429 (by omega) (by have := Z0.out; omega)) (by have := Z0.out; omega), par_end (par_row' Hhl409.out hW429 (by omega) (by have := Z0.out; omega)) (by have := Z0.out; omega), par_end (par_row' Hhl410.out hW429 (by omega) (by have := Z0.out; omega)) (by have := Z0.out; omega), par_end (par_row' Hhl411.out hW429 (by omega) (by have := Z0.out; omega)) (by have := Z0.out; omega)⟩, kept_set (kept_trans KB378.out Kk427.out) hW429 (by omega)⟩
                      exact AllReadyH.nil
                    exact AllReadyH.nil
                  exact AllReadyH.nil
                exact AllReadyH.nil
              exact AllReadyH.nil
            refine AllReadyH.cons (o := hthenr4_28) rfl (fun K hK => ?_) ?_
            · unfold hthenr4_28
              go_simp
              refine at_K (fun W430 hW430 => ?_)
              obtain ⟨k432, x431, z433⟩ := alloc1 hW430
              have Kk434 := Lib.hid k432
              clear k432
              have Hx431 := Lib.hid x431
              have Hz433 := Lib.hid z433
              clear x431 z433 hW430
              have HG435 : Hid (V0.heap.size ≤ w39.heap.size) := (Below.size (kept_trans Kk13.out (kept_trans Kk21.out (kept_trans Kk29.out (kept_trans Kk38.out Kk47.out)))))
              have XL436 := Lib.hid (xlt_more (xlt_nil _) Kk434.out (by have := Hz433.out; omega))
              have HL437 : Hid (LiesQ W430 (Par w V0.heap.size (w39.heap.size :: []) P) g.a.kids _) := (par_more (HLga.out.later (kept_trans Kk13.out (kept_trans Kk21.out (kept_trans Kk29.out (kept_trans Kk38.out Kk47.out)))))).later Kk434.out
              have HL438 : Hid (LiesQ W430 (Par w V0.heap.size (w39.heap.size :: []) P) g.b.kids _) := (par_more (HLgb.out.later (kept_trans Kk13.out (kept_trans Kk21.out (kept_trans Kk29.out (kept_trans Kk38.out Kk47.out)))))).later Kk434.out
              have HL439 : Hid (LiesQ W430 (Par w V0.heap.size (w39.heap.size :: []) P) g.x.kids _) := (par_more (HLgx.out.later (kept_trans Kk13.out (kept_trans Kk21.out (kept_trans Kk29.out (kept_trans Kk38.out Kk47.out)))))).later Kk434.out
              have HL440 : Hid (LiesQ W430 (Par w V0.heap.size (w39.heap.size :: []) P) g.y.kids _) := (par_more (HLgy.out.later (kept_trans Kk13.out (kept_trans Kk21.out (kept_trans Kk29.out (kept_trans Kk38.out Kk47.out)))))).later Kk434.out
              have HL441 : Hid (LiesQ W430 (Par w V0.heap.size (w39.heap.size :: []) P) g.h.kids _) := (par_more (HLgh.out.later (kept_trans Kk13.out (kept_trans Kk21.out (kept_trans Kk29.out (kept_trans Kk38.out Kk47.out)))))).later Kk434.out
              have HL442 : Hid (LiesQ W430 (Par w V0.heap.size (w39.heap.size :: []) P) h.a.kids _) := (par_more (HLha.out.later (kept_trans Kk13.out (kept_trans Kk21.out (kept_trans Kk29.out (kept_trans Kk38.out Kk47.out)))))).later Kk434.out
              have HL443 : Hid (LiesQ W430 (Par w V0.heap.size (w39.heap.size :: []) P) h.b.kids _) := (par_more (HLhb.out.later (kept_trans Kk13.out (kept_trans Kk21.out (kept_trans Kk29.out (kept_trans Kk38.out Kk47.out)))))).later Kk434.out
              have HL444 : Hid (LiesQ W430 (Par w V0.heap.size (w39.heap.size :: []) P) h.x.kids _) := (par_more (HLhx.out.later (kept_trans Kk13.out (kept_trans Kk21.out (kept_trans Kk29.out (kept_trans Kk38.out Kk47.out)))))).later Kk434.out
              have HL445 : Hid (LiesQ W430 (Par w V0.heap.size (w39.heap.size :: []) P) h.y.kids _) := (par_more (HLhy.out.later (kept_trans Kk13.out (kept_trans Kk21.out (kept_trans Kk29.out (kept_trans Kk38.out Kk47.out)))))).later Kk434.out
              have HL446 : Hid (LiesQ W430 (Par w V0.heap.size (w39.heap.size :: []) P) h.h.kids _) := (par_more (HLhh.out.later (kept_trans Kk13.out (kept_trans Kk21.out (kept_trans Kk29.out (kept_trans Kk38.out Kk47.out)))))).later Kk434.out
              have HL447 : Hid (LiesQ W430 (Par w V0.heap.size (w39.heap.size :: []) P) U37.kids _) := (par_more (Hhl33.out.later Kk47.out)).later Kk434.out
              have HL448 : Hid (LiesQ W430 (Par w V0.heap.size (w39.heap.size :: []) P) U46.kids _) := (par_more Hhl42.out).later Kk434.out
              clear hHeld
              refine hK.out _ _ ?_ (fun hHeld => ?_)
              · (try dsimp only)
                exact sees_kept _ (kept_trans Kk38.out (kept_trans Kk47.out Kk434.out))
              clear hK K
              (try simp only [Act.put, List.setIfInBounds_toArray, List.set_cons_zero, List.set_cons_succ])
              refine wpAnyH_ready (rs := [15]) (by kernel_rfl) (by simp) ?_
              refine AllReadyH.cons (o := hthenr4_15) rfl (fun K hK => ?_) ?_
              · unfold hthenr4_15
                go_simp
                refine (hpoint_any g.i g.b g.y (Par w V0.heap.size (w39.heap.size :: []) P) _ (.slice agb g.b.kids.length cgb) (.slice agy g.y.kids.length cgy) Gg.out.1 Gg.out.2.2.1 HL438.out Gg.out.2.2.2.2.1 HL440.out (heR_pl Hhb11.out _ (by simp)) (heR_pl Hhb11.out _ (by simp))).mono ?_
                obtain ⟨U456, hU456⟩ : ∃ qu, pointT g.i g.b g.y = qu := ⟨_, rfl⟩
                rw [hU456]
                have HU456 := Lib.hid hU456
                clear hU456
                rintro e w449 ⟨s451, rfl, hl452, k450⟩
                obtain ⟨a453, c454, S455, rfl, -⟩ := hl452.out
                have Kk457 := Lib.hid k450
                clear k450
                have Hhl452 : Hid (LiesQ w449 (Par w V0.heap.size (w39.heap.size :: []) P) U456.kids _) := par_give hl452 (Below.size (kept_trans Kk13.out (kept_trans Kk21.out (kept_trans Kk29.out (kept_trans Kk38.out (kept_trans Kk47.out Kk434.out)))))) XL436.out
                clear hl452
                clear hHeld
                refine hK.out _ _ ?_ (fun hHeld => ?_)
                · (try dsimp only)
                  exact sees_kept _ (kept_trans Kk38.out (kept_trans Kk47.out (kept_trans Kk434.out Kk457.out)))
                clear hK K
                (try simp only [Act.put, List.setIfInBounds_toArray, List.set_cons_zero, List.set_cons_succ])
                refine wpAnyH_ready (rs := [21]) (by kernel_rfl) (by simp) ?_
                refine AllReadyH.cons (o := hthenr4_21) rfl (fun K hK => ?_) ?_
                · unfold hthenr4_21
                  go_simp
                  refine (hpoint_any g.i h.b h.y (Par w V0.heap.size (w39.heap.size :: []) P) _ (.slice ahb h.b.kids.length chb) (.slice ahy h.y.kids.length chy) Gg.out.1 Gh.out.2.2.1 (HL443.out.later Kk457.out) Gh.out.2.2.2.2.1 (HL445.out.later Kk457.out) (heR_pl Hhb19.out _ (by simp)) (heR_pl Hhb19.out _ (by simp))).mono ?_
                  obtain ⟨U465, hU465⟩ : ∃ qu, pointT g.i h.b h.y = qu := ⟨_, rfl⟩
                  rw [hU465]
                  have HU465 := Lib.hid hU465
                  clear hU465
                  rintro e w458 ⟨s460, rfl, hl461, k459⟩
                  obtain ⟨a462, c463, S464, rfl, -⟩ := hl461.out
                  have Kk466 := Lib.hid k459
                  clear k459
                  have Hhl461 : Hid (LiesQ w458 (Par w V0.heap.size (w39.heap.size :: []) P) U465.kids _) := par_give hl461 (Below.size (kept_trans Kk13.out (kept_trans Kk21.out (kept_trans Kk29.out (kept_trans Kk38.out (kept_trans Kk47.out (kept_trans Kk434.out Kk457.out))))))) (xlt_later XL436.out Kk457.out)
                  clear hl461
                  clear hHeld
                  refine hK.out _ _ ?_ (fun hHeld => ?_)
                  · (try dsimp only)
                    exact sees_kept _ (kept_trans Kk38.out (kept_trans Kk47.out (kept_trans Kk434.out (kept_trans Kk457.out Kk466.out))))
                  clear hK K
                  (try simp only [Act.put, List.setIfInBounds_toArray, List.set_cons_zero, List.set_cons_succ])
                  refine wpAnyH_ready (rs := [26]) (by kernel_rfl) (by simp) ?_
                  refine AllReadyH.cons (o := hthenr4_26) rfl (fun K hK => ?_) ?_
                  · unfold hthenr4_26
                    go_simp
                    refine at_K (fun W468 hW468 => ?_)
                    obtain ⟨k470, x469, z471⟩ := alloc1 hW468
                    have Kk472 := Lib.hid k470
                    clear k470
                    have Hx469 := Lib.hid x469
                    have Hz471 := Lib.hid z471
                    clear x469 z471 hW468
                    have HR473 : Hid (LiesQ W468 (Par w V0.heap.size (w39.heap.size :: []) P) [U37, U46, U456, U465, g.h, h.h] (.slice (some ⟨w458.heap.size, 0, none⟩) 6 6)) := q_row [(U37, (.slice a34 U37.kids.length c35)), (U46, (.slice a43 U46.kids.length c44)), (U456, (.slice a453 U456.kids.length c454)), (U465, (.slice a462 U465.kids.length c463)), (g.h, (.slice agh g.h.kids.length cgh)), (h.h, (.slice ahh h.h.kids.length chh))] _ rfl Hx469.out (par_new (Below.size (kept_trans Kk13.out (kept_trans Kk21.out (kept_trans Kk29.out (kept_trans Kk38.out (kept_trans Kk47.out (kept_trans Kk434.out (kept_trans Kk457.out Kk466.out)))))))) (xlt_later XL436.out (kept_trans Kk457.out Kk466.out)) (Nat.le_refl _)) (fun p hp => by
                      simp only [List.mem_cons, List.not_mem_nil, or_false] at hp
                      rcases hp with rfl | rfl | rfl | rfl | rfl | rfl
                      · exact ⟨(by rw [← HU37.out]; exact (right_fine (plain_right (points_plain (heR_lev Hhb11.out))))), (HL447.out.later (kept_trans Kk457.out (kept_trans Kk466.out Kk472.out)))⟩
                      · exact ⟨(by rw [← HU46.out]; exact (right_fine (plain_right (point_plain (heR_lev Hhb11.out) (heR_pl Hhb11.out _ (by simp)) (heR_pl Hhb11.out _ (by simp)))))), (HL448.out.later (kept_trans Kk457.out (kept_trans Kk466.out Kk472.out)))⟩
                      · exact ⟨(by rw [← HU456.out]; exact (right_fine (plain_right (point_plain (heR_lev Hhb11.out) (heR_pl Hhb11.out _ (by simp)) (heR_pl Hhb11.out _ (by simp)))))), (Hhl452.out.later (kept_trans Kk466.out Kk472.out))⟩
                      · exact ⟨(by rw [← HU465.out]; exact (right_fine (plain_right (point_plain (heR_lev Hhb11.out) (heR_pl Hhb19.out _ (by simp)) (heR_pl Hhb19.out _ (by simp)))))), (Hhl461.out.later Kk472.out)⟩
                      · exact ⟨Gg.out.2.2.2.2.2, (HL441.out.later (kept_trans Kk457.out (kept_trans Kk466.out Kk472.out)))⟩
                      · exact ⟨Gh.out.2.2.2.2.2, (HL446.out.later (kept_trans Kk457.out (kept_trans Kk466.out Kk472.out)))⟩) (Nat.le_of_ble_eq_true rfl)
                    clear hHeld
                    refine hK.out _ _ ?_ (fun hHeld => ?_)
                    · (try dsimp only)
                      exact sees_kept _ (kept_trans Kk38.out (kept_trans Kk47.out (kept_trans Kk434.out (kept_trans Kk457.out (kept_trans Kk466.out Kk472.out)))))
                    clear hK K
                    (try simp only [Act.put, List.setIfInBounds_toArray, List.set_cons_zero, List.set_cons_succ])
                    refine wpAnyH_ready (rs := [27]) (by kernel_rfl) (by simp) ?_
                    refine AllReadyH.cons (o := hthenr4_27) rfl (fun K hK => ?_) ?_
                    · unfold hthenr4_27
                      go_simp
                      refine (huse_any 4 (g.i + 1) [U37, U46, U456, U465, g.h, h.h] (Par w V0.heap.size (w39.heap.size :: []) P) _ _ (show I64 4 from by unfold I64; decide) (lev_succ (heR_lev Hhb11.out) (by decide)) HR473.out (fun x hx => by
                        simp only [List.mem_cons, List.not_mem_nil, or_false] at hx
                        rcases hx with rfl | rfl | rfl | rfl | rfl | rfl
                        · exact (by rw [← HU37.out]; exact (points_plain (heR_lev Hhb11.out)))
                        · exact (by rw [← HU46.out]; exact (point_plain (heR_lev Hhb11.out) (heR_pl Hhb11.out _ (by simp)) (heR_pl Hhb11.out _ (by simp))))
                        · exact (by rw [← HU456.out]; exact (point_plain (heR_lev Hhb11.out) (heR_pl Hhb11.out _ (by simp)) (heR_pl Hhb11.out _ (by simp))))
                        · exact (by rw [← HU465.out]; exact (point_plain (heR_lev Hhb11.out) (heR_pl Hhb19.out _ (by simp)) (heR_pl Hhb19.out _ (by simp))))
                        · exact (heR_pl Hhb11.out _ (by simp))
                        · exact (heR_pl Hhb19.out _ (by simp))) (Nat.le_of_ble_eq_true rfl)).mono ?_
                      obtain ⟨U481, hU481⟩ : ∃ qu, useT 4 (g.i + 1) 0 [U37, U46, U456, U465, g.h, h.h] = qu := ⟨_, rfl⟩
                      rw [hU481]
                      have HU481 := Lib.hid hU481
                      clear hU481
                      rintro e w474 ⟨s476, rfl, hl477, k475⟩
                      obtain ⟨a478, c479, S480, rfl, -⟩ := hl477.out
                      have Kk482 := Lib.hid k475
                      clear k475
                      have Hhl477 : Hid (LiesQ w474 (Par w V0.heap.size (w39.heap.size :: []) P) U481.kids _) := par_give hl477 (Below.size (kept_trans Kk13.out (kept_trans Kk21.out (kept_trans Kk29.out (kept_trans Kk38.out (kept_trans Kk47.out (kept_trans Kk434.out (kept_trans Kk457.out (kept_trans Kk466.out Kk472.out))))))))) (xlt_later XL436.out (kept_trans Kk457.out (kept_trans Kk466.out Kk472.out)))
                      clear hl477
                      clear hHeld
                      refine hK.out _ _ ?_ (fun hHeld => ?_)
                      · (try dsimp only)
                        exact sees_kept _ (kept_trans Kk38.out (kept_trans Kk47.out (kept_trans Kk434.out (kept_trans Kk457.out (kept_trans Kk466.out (kept_trans Kk472.out Kk482.out))))))
                      clear hK K
                      (try simp only [Act.put, List.setIfInBounds_toArray, List.set_cons_zero, List.set_cons_succ])
                      refine wpAnyH_ready (rs := [29]) (by kernel_rfl) (by simp) ?_
                      refine AllReadyH.cons (o := hthenr4_29) rfl (fun K hK => ?_) ?_
                      · unfold hthenr4_29
                        refine step_store_part rfl 32 (.tmp 6) (.tmp 52) rfl (w39.heap.size) 0 #[.int .i64 U481.k, .int .i64 U481.i, .int .i64 U481.j, .int .i64 U481.n, (.slice a478 U481.kids.length c479)] rfl rfl 32 size_term (row_ok rfl) _ #[.int .i64 U481.k, .int .i64 U481.i, .int .i64 U481.j, .int .i64 U481.n, (.slice a478 U481.kids.length c479)] (blk_at Hx431.out (kept_trans Kk457.out (kept_trans Kk466.out (kept_trans Kk472.out Kk482.out)))) rfl (Nat.le_of_ble_eq_true rfl) ?_
                        intro W483 hW483
                        have KB484 := Lib.hid (kept_set (kept_trans Kk6.out (kept_trans Kk13.out (kept_trans Kk21.out (kept_trans Kk29.out (kept_trans Kk38.out (kept_trans Kk47.out (kept_trans Kk434.out (kept_trans Kk457.out (kept_trans Kk466.out (kept_trans Kk472.out Kk482.out)))))))))) hW483 (by have := HG435.out; have := Z0.out; omega))
                        have KB485 := Lib.hid (kept_set (kept_trans Kk13.out (kept_trans Kk21.out (kept_trans Kk29.out (kept_trans Kk38.out (kept_trans Kk47.out (kept_trans Kk434.out (kept_trans Kk457.out (kept_trans Kk466.out (kept_trans Kk472.out Kk482.out))))))))) hW483 HG435.out)
                        have KB486 := Lib.hid (kept_set (kept_trans Kk38.out (kept_trans Kk47.out (kept_trans Kk434.out (kept_trans Kk457.out (kept_trans Kk466.out (kept_trans Kk472.out Kk482.out)))))) hW483 (Below.size (kept_trans Kk38.out Kk47.out)))
                        have HL487 : Hid (LiesQ W483 (Par w V0.heap.size (w39.heap.size :: []) P) g.a.kids _) := par_set (HL437.out.later (kept_trans Kk457.out (kept_trans Kk466.out (kept_trans Kk472.out Kk482.out)))) hW483 (List.mem_cons_self ..) (by have := HG435.out; have := Z0.out; omega)
                        have HL488 : Hid (LiesQ W483 (Par w V0.heap.size (w39.heap.size :: []) P) g.b.kids _) := par_set (HL438.out.later (kept_trans Kk457.out (kept_trans Kk466.out (kept_trans Kk472.out Kk482.out)))) hW483 (List.mem_cons_self ..) (by have := HG435.out; have := Z0.out; omega)
                        have HL489 : Hid (LiesQ W483 (Par w V0.heap.size (w39.heap.size :: []) P) g.x.kids _) := par_set (HL439.out.later (kept_trans Kk457.out (kept_trans Kk466.out (kept_trans Kk472.out Kk482.out)))) hW483 (List.mem_cons_self ..) (by have := HG435.out; have := Z0.out; omega)
                        have HL490 : Hid (LiesQ W483 (Par w V0.heap.size (w39.heap.size :: []) P) g.y.kids _) := par_set (HL440.out.later (kept_trans Kk457.out (kept_trans Kk466.out (kept_trans Kk472.out Kk482.out)))) hW483 (List.mem_cons_self ..) (by have := HG435.out; have := Z0.out; omega)
                        have HL491 : Hid (LiesQ W483 (Par w V0.heap.size (w39.heap.size :: []) P) g.h.kids _) := par_set (HL441.out.later (kept_trans Kk457.out (kept_trans Kk466.out (kept_trans Kk472.out Kk482.out)))) hW483 (List.mem_cons_self ..) (by have := HG435.out; have := Z0.out; omega)
                        have HL492 : Hid (LiesQ W483 (Par w V0.heap.size (w39.heap.size :: []) P) h.a.kids _) := par_set (HL442.out.later (kept_trans Kk457.out (kept_trans Kk466.out (kept_trans Kk472.out Kk482.out)))) hW483 (List.mem_cons_self ..) (by have := HG435.out; have := Z0.out; omega)
                        have HL493 : Hid (LiesQ W483 (Par w V0.heap.size (w39.heap.size :: []) P) h.b.kids _) := par_set (HL443.out.later (kept_trans Kk457.out (kept_trans Kk466.out (kept_trans Kk472.out Kk482.out)))) hW483 (List.mem_cons_self ..) (by have := HG435.out; have := Z0.out; omega)
                        have HL494 : Hid (LiesQ W483 (Par w V0.heap.size (w39.heap.size :: []) P) h.x.kids _) := par_set (HL444.out.later (kept_trans Kk457.out (kept_trans Kk466.out (kept_trans Kk472.out Kk482.out)))) hW483 (List.mem_cons_self ..) (by have := HG435.out; have := Z0.out; omega)
                        have HL495 : Hid (LiesQ W483 (Par w V0.heap.size (w39.heap.size :: []) P) h.y.kids _) := par_set (HL445.out.later (kept_trans Kk457.out (kept_trans Kk466.out (kept_trans Kk472.out Kk482.out)))) hW483 (List.mem_cons_self ..) (by have := HG435.out; have := Z0.out; omega)
                        have HL496 : Hid (LiesQ W483 (Par w V0.heap.size (w39.heap.size :: []) P) h.h.kids _) := par_set (HL446.out.later (kept_trans Kk457.out (kept_trans Kk466.out (kept_trans Kk472.out Kk482.out)))) hW483 (List.mem_cons_self ..) (by have := HG435.out; have := Z0.out; omega)
                        have HL497 : Hid (LiesQ W483 (Par w V0.heap.size (w39.heap.size :: []) P) U37.kids _) := par_set (HL447.out.later (kept_trans Kk457.out (kept_trans Kk466.out (kept_trans Kk472.out Kk482.out)))) hW483 (List.mem_cons_self ..) (by have := HG435.out; have := Z0.out; omega)
                        have HL498 : Hid (LiesQ W483 (Par w V0.heap.size (w39.heap.size :: []) P) U46.kids _) := par_set (HL448.out.later (kept_trans Kk457.out (kept_trans Kk466.out (kept_trans Kk472.out Kk482.out)))) hW483 (List.mem_cons_self ..) (by have := HG435.out; have := Z0.out; omega)
                        have HL499 : Hid (LiesQ W483 (Par w V0.heap.size (w39.heap.size :: []) P) U456.kids _) := par_set (Hhl452.out.later (kept_trans Kk466.out (kept_trans Kk472.out Kk482.out))) hW483 (List.mem_cons_self ..) (by have := HG435.out; have := Z0.out; omega)
                        have HL500 : Hid (LiesQ W483 (Par w V0.heap.size (w39.heap.size :: []) P) U465.kids _) := par_set (Hhl461.out.later (kept_trans Kk472.out Kk482.out)) hW483 (List.mem_cons_self ..) (by have := HG435.out; have := Z0.out; omega)
                        have HL501 : Hid (LiesQ W483 (Par w V0.heap.size (w39.heap.size :: []) P) [U37, U46, U456, U465, g.h, h.h] _) := par_set (HR473.out.later Kk482.out) hW483 (List.mem_cons_self ..) (by have := HG435.out; have := Z0.out; omega)
                        have HL502 : Hid (LiesQ W483 (Par w V0.heap.size (w39.heap.size :: []) P) U481.kids _) := par_set Hhl477.out hW483 (List.mem_cons_self ..) (by have := HG435.out; have := Z0.out; omega)
                        have XL503 := Lib.hid (xlt_set (xlt_later XL436.out (kept_trans Kk457.out (kept_trans Kk466.out (kept_trans Kk472.out Kk482.out)))) hW483)
                        have HX504 := Lib.hid (blk_same (blk_at Hx431.out (kept_trans Kk457.out (kept_trans Kk466.out (kept_trans Kk472.out Kk482.out)))) hW483)
                        clear hW483
                        clear hHeld
                        refine hK.out _ _ ?_ (fun hHeld => ?_)
                        · (try dsimp only)
                          exact sees_kept _ KB486.out
                        clear hK K
                        (try simp only [Act.put])
                        refine wpAnyH_done (by kernel_rfl) ?_ _
                        clear hHeld
                        have kvV0 : Sees V0 (w.heap.size + 2) W483 := sees_kept _ KB485.out
                        have kvW483 : Sees W483 (w.heap.size + 2) W483 := sees_kept _ (kept_refl _)
                        go_wp2_with (refine stop_load 32 (.tmp 54) rfl ?_)
                        intro _
                        refine wpList_load_part (w.heap.size) 1 32 (.tmp 54) #[.int .i64 g.a.k, .int .i64 g.a.i, .int .i64 g.a.j, .int .i64 g.a.n, (.slice aga g.a.kids.length cga)] du (blk_at Hx1.out KB485.out) (by rfl) rfl (by rfl) (by rfl) hu1 (by cases du <;> first | rfl | exact hu2) size_term ?_
                        go_wp2_with (refine stop_load 32 (.tmp 56) rfl ?_)
                        intro _
                        refine wpList_load_part (w.heap.size + 1) 6 32 (.tmp 56) #[.int .i64 h.b.k, .int .i64 h.b.i, .int .i64 h.b.j, .int .i64 h.b.n, (.slice ahb h.b.kids.length chb)] du (blk_at Hx2.out KB485.out) (by rfl) rfl (by rfl) (by rfl) hu1 (by cases du <;> first | rfl | exact hu2) size_term ?_
                        go_wp2_with (refine stop_load 32 (.tmp 58) rfl ?_)
                        intro _
                        refine wpList_load_part (w.heap.size) 11 32 (.tmp 58) #[.int .i64 g.x.k, .int .i64 g.x.i, .int .i64 g.x.j, .int .i64 g.x.n, (.slice agx g.x.kids.length cgx)] du (blk_at Hx1.out KB485.out) (by rfl) rfl (by rfl) (by rfl) hu1 (by cases du <;> first | rfl | exact hu2) size_term ?_
                        go_wp2_with (refine stop_load 32 (.tmp 60) rfl ?_)
                        intro _
                        refine wpList_load_part (w.heap.size + 1) 16 32 (.tmp 60) #[.int .i64 h.y.k, .int .i64 h.y.i, .int .i64 h.y.j, .int .i64 h.y.n, (.slice ahy h.y.kids.length chy)] du (blk_at Hx2.out KB485.out) (by rfl) rfl (by rfl) (by rfl) hu1 (by cases du <;> first | rfl | exact hu2) size_term ?_
                        go_wp2_with (refine stop_load 32 (.tmp 6) rfl ?_)
                        intro _
                        refine wpList_load_part (w39.heap.size) 0 32 (.tmp 6) #[.int .i64 U481.k, .int .i64 U481.i, .int .i64 U481.j, .int .i64 U481.n, (.slice a478 U481.kids.length c479)] du HX504.out (by rfl) rfl (by rfl) (by rfl) hu1 (by cases du <;> first | rfl | exact hu2) size_term ?_
                        go_wp2_with fail
                        clear kvV0
                        clear kvW483
                        refine (hfresh_any (⟨g.i, g.a, h.b, g.x, h.y, U481⟩ : He) (Par w V0.heap.size (w39.heap.size :: []) P) _ (.slice aga g.a.kids.length cga) (.slice ahb h.b.kids.length chb) (.slice agx g.x.kids.length cgx) (.slice ahy h.y.kids.length chy) (.slice a478 U481.kids.length c479) ⟨Gg.out.1, Gg.out.2.1, Gh.out.2.2.1, Gg.out.2.2.2.1, Gh.out.2.2.2.2.1, (by rw [← HU481.out]; exact (use_fine (show I64 4 from by unfold I64; decide) (lev_succ (heR_lev Hhb11.out) (by decide)) (by unfold I64; decide)))⟩ ⟨HL487.out, HL493.out, HL489.out, HL495.out, HL502.out⟩ (heR_pl Hhb11.out _ (by simp)) (heR_pl Hhb19.out _ (by simp)) (heR_pl Hhb11.out _ (by simp)) (heR_pl Hhb19.out _ (by simp))).mono ?_
                        obtain ⟨U507, hU507⟩ : ∃ qu, (⟨g.i, g.a, h.b, g.x, h.y, U481⟩ : He) = qu := ⟨_, rfl⟩
                        rw [hU507]
                        have HU507 := Lib.hid hU507
                        clear hU507
                        rintro e w505 ⟨s508, s509, s510, s511, s512, rfl, ⟨hl513, hl514, hl515, hl516, hl517⟩, k506⟩
                        obtain ⟨a518, c519, S520, rfl, -⟩ := hl513.out
                        obtain ⟨a521, c522, S523, rfl, -⟩ := hl514.out
                        obtain ⟨a524, c525, S526, rfl, -⟩ := hl515.out
                        obtain ⟨a527, c528, S529, rfl, -⟩ := hl516.out
                        obtain ⟨a530, c531, S532, rfl, -⟩ := hl517.out
                        have Kk533 := Lib.hid k506
                        clear k506
                        have Hhl513 : Hid (LiesQ w505 (Par w V0.heap.size (w39.heap.size :: []) P) U507.a.kids _) := par_give hl513 (Below.size KB485.out) XL503.out
                        have Hhl514 : Hid (LiesQ w505 (Par w V0.heap.size (w39.heap.size :: []) P) U507.b.kids _) := par_give hl514 (Below.size KB485.out) XL503.out
                        have Hhl515 : Hid (LiesQ w505 (Par w V0.heap.size (w39.heap.size :: []) P) U507.x.kids _) := par_give hl515 (Below.size KB485.out) XL503.out
                        have Hhl516 : Hid (LiesQ w505 (Par w V0.heap.size (w39.heap.size :: []) P) U507.y.kids _) := par_give hl516 (Below.size KB485.out) XL503.out
                        have Hhl517 : Hid (LiesQ w505 (Par w V0.heap.size (w39.heap.size :: []) P) U507.h.kids _) := par_give hl517 (Below.size KB485.out) XL503.out
                        clear hl513 hl514 hl515 hl516 hl517
                        have kvV0 : Sees V0 (w.heap.size + 2) w505 := sees_kept _ (kept_trans KB485.out Kk533.out)
                        have kvW483 : Sees W483 (w.heap.size + 2) w505 := sees_kept _ Kk533.out
                        go_wp2_with (refine stop_store 51 (.tmp 4) (.tmp 64) rfl ?_)
                        intro _
                        refine wpList_store_part_n (by rfl) 51 (.tmp 4) (.tmp 64) rfl (w.heap.size + 2) 0 #[.int .i64 U507.i, .int .i64 U507.a.k, .int .i64 U507.a.i, .int .i64 U507.a.j, .int .i64 U507.a.n, (.slice a518 U507.a.kids.length c519), .int .i64 U507.b.k, .int .i64 U507.b.i, .int .i64 U507.b.j, .int .i64 U507.b.n, (.slice a521 U507.b.kids.length c522), .int .i64 U507.x.k, .int .i64 U507.x.i, .int .i64 U507.x.j, .int .i64 U507.x.n, (.slice a524 U507.x.kids.length c525), .int .i64 U507.y.k, .int .i64 U507.y.i, .int .i64 U507.y.j, .int .i64 U507.y.n, (.slice a527 U507.y.kids.length c528), .int .i64 U507.h.k, .int .i64 U507.h.i, .int .i64 U507.h.j, .int .i64 U507.h.n, (.slice a530 U507.h.kids.length c531)] (by rfl) (by rfl) 51 (by kernel_rfl) (row_ok rfl) ?_
                        intro W534 hW534
                        clear kvV0
                        clear kvW483
                        subst hW534
                        refine ⟨_, #[.int .i64 U507.i, .int .i64 U507.a.k, .int .i64 U507.a.i, .int .i64 U507.a.j, .int .i64 U507.a.n, (.slice a518 U507.a.kids.length c519), .int .i64 U507.b.k, .int .i64 U507.b.i, .int .i64 U507.b.j, .int .i64 U507.b.n, (.slice a521 U507.b.kids.length c522), .int .i64 U507.x.k, .int .i64 U507.x.i, .int .i64 U507.x.j, .int .i64 U507.x.n, (.slice a524 U507.x.kids.length c525), .int .i64 U507.y.k, .int .i64 U507.y.i, .int .i64 U507.y.j, .int .i64 U507.y.n, (.slice a527 U507.y.kids.length c528), .int .i64 U507.h.k, .int .i64 U507.h.i, .int .i64 U507.h.j, .int .i64 U507.h.n, (.slice a530 U507.h.kids.length c531)], (blk_at Hx3.out (kept_trans KB485.out Kk533.out)), rfl, Nat.le_of_ble_eq_true rfl, ?_⟩
                        intro W535 hW535
                        go_wp2_with fail
                        refine bodyPost_ret (results_cell_row rfl _ _ (w.heap.size + 2) 51 _ _ dh rfl (blk_same (blk_at Hx3.out (kept_trans KB485.out Kk533.out)) hW535) dh1 (by cases dh <;> first | rfl | exact dh2) (by kernel_rfl)) rfl ?_
                        rw [show heThen g h = U507 from by unfold heThen; rw [Hhb11.out, Hhb19.out, Ec25.out]; rw [← HU507.out]; rw [← HU481.out]; rw [← HU465.out]; rw [← HU456.out]; rw [← HU46.out]; rw [← HU37.out]; (try rfl)]
                        exact ⟨_, _, _, _, _, rfl, ⟨par_end (par_row' Hhl513.out hW535 (by omega) (by have := Z0.out; omega)) (by have := Z0.out; omega), par_end (par_row' Hhl514.out hW535 (by omega) (by have := Z0.out; omega)) (by have := Z0.out; omega), par_end (par_row' Hhl515.out hW535 (by omega) (by have := Z0.out; omega)) (by have := Z0.out; omega), par_end (par_row' Hhl516.out hW535 (by omega) (by have := Z0.out; omega)) (by have := Z0.out; omega), par_end (par_row' Hhl517.out hW535 (by omega) (by have := Z0.out; omega)) (by have := Z0.out; omega)⟩, kept_set (kept_trans KB484.out Kk533.out) hW535 (by omega)⟩
                      exact AllReadyH.nil
                    exact AllReadyH.nil
                  exact AllReadyH.nil
                exact AllReadyH.nil
              exact AllReadyH.nil
            exact AllReadyH.nil
          refine AllReadyH.cons (o := hthenr4_28) rfl (fun K hK => ?_) ?_
          · unfold hthenr4_28
            go_simp
            refine at_K (fun W536 hW536 => ?_)
            obtain ⟨k538, x537, z539⟩ := alloc1 hW536
            have Kk540 := Lib.hid k538
            clear k538
            have Hx537 := Lib.hid x537
            have Hz539 := Lib.hid z539
            clear x537 z539 hW536
            have HG541 : Hid (V0.heap.size ≤ w30.heap.size) := (Below.size (kept_trans Kk13.out (kept_trans Kk21.out (kept_trans Kk29.out Kk38.out))))
            have XL542 := Lib.hid (xlt_more (xlt_nil _) Kk540.out (by have := Hz539.out; omega))
            have HL543 : Hid (LiesQ W536 (Par w V0.heap.size (w30.heap.size :: []) P) g.a.kids _) := (par_more (HLga.out.later (kept_trans Kk13.out (kept_trans Kk21.out (kept_trans Kk29.out Kk38.out))))).later Kk540.out
            have HL544 : Hid (LiesQ W536 (Par w V0.heap.size (w30.heap.size :: []) P) g.b.kids _) := (par_more (HLgb.out.later (kept_trans Kk13.out (kept_trans Kk21.out (kept_trans Kk29.out Kk38.out))))).later Kk540.out
            have HL545 : Hid (LiesQ W536 (Par w V0.heap.size (w30.heap.size :: []) P) g.x.kids _) := (par_more (HLgx.out.later (kept_trans Kk13.out (kept_trans Kk21.out (kept_trans Kk29.out Kk38.out))))).later Kk540.out
            have HL546 : Hid (LiesQ W536 (Par w V0.heap.size (w30.heap.size :: []) P) g.y.kids _) := (par_more (HLgy.out.later (kept_trans Kk13.out (kept_trans Kk21.out (kept_trans Kk29.out Kk38.out))))).later Kk540.out
            have HL547 : Hid (LiesQ W536 (Par w V0.heap.size (w30.heap.size :: []) P) g.h.kids _) := (par_more (HLgh.out.later (kept_trans Kk13.out (kept_trans Kk21.out (kept_trans Kk29.out Kk38.out))))).later Kk540.out
            have HL548 : Hid (LiesQ W536 (Par w V0.heap.size (w30.heap.size :: []) P) h.a.kids _) := (par_more (HLha.out.later (kept_trans Kk13.out (kept_trans Kk21.out (kept_trans Kk29.out Kk38.out))))).later Kk540.out
            have HL549 : Hid (LiesQ W536 (Par w V0.heap.size (w30.heap.size :: []) P) h.b.kids _) := (par_more (HLhb.out.later (kept_trans Kk13.out (kept_trans Kk21.out (kept_trans Kk29.out Kk38.out))))).later Kk540.out
            have HL550 : Hid (LiesQ W536 (Par w V0.heap.size (w30.heap.size :: []) P) h.x.kids _) := (par_more (HLhx.out.later (kept_trans Kk13.out (kept_trans Kk21.out (kept_trans Kk29.out Kk38.out))))).later Kk540.out
            have HL551 : Hid (LiesQ W536 (Par w V0.heap.size (w30.heap.size :: []) P) h.y.kids _) := (par_more (HLhy.out.later (kept_trans Kk13.out (kept_trans Kk21.out (kept_trans Kk29.out Kk38.out))))).later Kk540.out
            have HL552 : Hid (LiesQ W536 (Par w V0.heap.size (w30.heap.size :: []) P) h.h.kids _) := (par_more (HLhh.out.later (kept_trans Kk13.out (kept_trans Kk21.out (kept_trans Kk29.out Kk38.out))))).later Kk540.out
            have HL553 : Hid (LiesQ W536 (Par w V0.heap.size (w30.heap.size :: []) P) U37.kids _) := (par_more Hhl33.out).later Kk540.out
            clear hHeld
            refine hK.out _ _ ?_ (fun hHeld => ?_)
            · (try dsimp only)
              exact sees_kept _ (kept_trans Kk38.out Kk540.out)
            clear hK K
            (try simp only [Act.put, List.setIfInBounds_toArray, List.set_cons_zero, List.set_cons_succ])
            refine wpAnyH_ready (rs := [9]) (by kernel_rfl) (by simp) ?_
            refine AllReadyH.cons (o := hthenr4_9) rfl (fun K hK => ?_) ?_
            · unfold hthenr4_9
              go_simp
              refine (hpoint_any g.i g.a g.x (Par w V0.heap.size (w30.heap.size :: []) P) _ (.slice aga g.a.kids.length cga) (.slice agx g.x.kids.length cgx) Gg.out.1 Gg.out.2.1 HL543.out Gg.out.2.2.2.1 HL545.out (heR_pl Hhb11.out _ (by simp)) (heR_pl Hhb11.out _ (by simp))).mono ?_
              obtain ⟨U561, hU561⟩ : ∃ qu, pointT g.i g.a g.x = qu := ⟨_, rfl⟩
              rw [hU561]
              have HU561 := Lib.hid hU561
              clear hU561
              rintro e w554 ⟨s556, rfl, hl557, k555⟩
              obtain ⟨a558, c559, S560, rfl, -⟩ := hl557.out
              have Kk562 := Lib.hid k555
              clear k555
              have Hhl557 : Hid (LiesQ w554 (Par w V0.heap.size (w30.heap.size :: []) P) U561.kids _) := par_give hl557 (Below.size (kept_trans Kk13.out (kept_trans Kk21.out (kept_trans Kk29.out (kept_trans Kk38.out Kk540.out))))) XL542.out
              clear hl557
              clear hHeld
              refine hK.out _ _ ?_ (fun hHeld => ?_)
              · (try dsimp only)
                exact sees_kept _ (kept_trans Kk38.out (kept_trans Kk540.out Kk562.out))
              clear hK K
              (try simp only [Act.put, List.setIfInBounds_toArray, List.set_cons_zero, List.set_cons_succ])
              refine wpAnyH_ready (rs := [15]) (by kernel_rfl) (by simp) ?_
              refine AllReadyH.cons (o := hthenr4_15) rfl (fun K hK => ?_) ?_
              · unfold hthenr4_15
                go_simp
                refine (hpoint_any g.i g.b g.y (Par w V0.heap.size (w30.heap.size :: []) P) _ (.slice agb g.b.kids.length cgb) (.slice agy g.y.kids.length cgy) Gg.out.1 Gg.out.2.2.1 (HL544.out.later Kk562.out) Gg.out.2.2.2.2.1 (HL546.out.later Kk562.out) (heR_pl Hhb11.out _ (by simp)) (heR_pl Hhb11.out _ (by simp))).mono ?_
                obtain ⟨U570, hU570⟩ : ∃ qu, pointT g.i g.b g.y = qu := ⟨_, rfl⟩
                rw [hU570]
                have HU570 := Lib.hid hU570
                clear hU570
                rintro e w563 ⟨s565, rfl, hl566, k564⟩
                obtain ⟨a567, c568, S569, rfl, -⟩ := hl566.out
                have Kk571 := Lib.hid k564
                clear k564
                have Hhl566 : Hid (LiesQ w563 (Par w V0.heap.size (w30.heap.size :: []) P) U570.kids _) := par_give hl566 (Below.size (kept_trans Kk13.out (kept_trans Kk21.out (kept_trans Kk29.out (kept_trans Kk38.out (kept_trans Kk540.out Kk562.out)))))) (xlt_later XL542.out Kk562.out)
                clear hl566
                clear hHeld
                refine hK.out _ _ ?_ (fun hHeld => ?_)
                · (try dsimp only)
                  exact sees_kept _ (kept_trans Kk38.out (kept_trans Kk540.out (kept_trans Kk562.out Kk571.out)))
                clear hK K
                (try simp only [Act.put, List.setIfInBounds_toArray, List.set_cons_zero, List.set_cons_succ])
                refine wpAnyH_ready (rs := [21]) (by kernel_rfl) (by simp) ?_
                refine AllReadyH.cons (o := hthenr4_21) rfl (fun K hK => ?_) ?_
                · unfold hthenr4_21
                  go_simp
                  refine (hpoint_any g.i h.b h.y (Par w V0.heap.size (w30.heap.size :: []) P) _ (.slice ahb h.b.kids.length chb) (.slice ahy h.y.kids.length chy) Gg.out.1 Gh.out.2.2.1 (HL549.out.later (kept_trans Kk562.out Kk571.out)) Gh.out.2.2.2.2.1 (HL551.out.later (kept_trans Kk562.out Kk571.out)) (heR_pl Hhb19.out _ (by simp)) (heR_pl Hhb19.out _ (by simp))).mono ?_
                  obtain ⟨U579, hU579⟩ : ∃ qu, pointT g.i h.b h.y = qu := ⟨_, rfl⟩
                  rw [hU579]
                  have HU579 := Lib.hid hU579
                  clear hU579
                  rintro e w572 ⟨s574, rfl, hl575, k573⟩
                  obtain ⟨a576, c577, S578, rfl, -⟩ := hl575.out
                  have Kk580 := Lib.hid k573
                  clear k573
                  have Hhl575 : Hid (LiesQ w572 (Par w V0.heap.size (w30.heap.size :: []) P) U579.kids _) := par_give hl575 (Below.size (kept_trans Kk13.out (kept_trans Kk21.out (kept_trans Kk29.out (kept_trans Kk38.out (kept_trans Kk540.out (kept_trans Kk562.out Kk571.out))))))) (xlt_later XL542.out (kept_trans Kk562.out Kk571.out))
                  clear hl575
                  clear hHeld
                  refine hK.out _ _ ?_ (fun hHeld => ?_)
                  · (try dsimp only)
                    exact sees_kept _ (kept_trans Kk38.out (kept_trans Kk540.out (kept_trans Kk562.out (kept_trans Kk571.out Kk580.out))))
                  clear hK K
                  (try simp only [Act.put, List.setIfInBounds_toArray, List.set_cons_zero, List.set_cons_succ])
                  refine wpAnyH_ready (rs := [26]) (by kernel_rfl) (by simp) ?_
                  refine AllReadyH.cons (o := hthenr4_26) rfl (fun K hK => ?_) ?_
                  · unfold hthenr4_26
                    go_simp
                    refine at_K (fun W582 hW582 => ?_)
                    obtain ⟨k584, x583, z585⟩ := alloc1 hW582
                    have Kk586 := Lib.hid k584
                    clear k584
                    have Hx583 := Lib.hid x583
                    have Hz585 := Lib.hid z585
                    clear x583 z585 hW582
                    have HR587 : Hid (LiesQ W582 (Par w V0.heap.size (w30.heap.size :: []) P) [U37, U561, U570, U579, g.h, h.h] (.slice (some ⟨w572.heap.size, 0, none⟩) 6 6)) := q_row [(U37, (.slice a34 U37.kids.length c35)), (U561, (.slice a558 U561.kids.length c559)), (U570, (.slice a567 U570.kids.length c568)), (U579, (.slice a576 U579.kids.length c577)), (g.h, (.slice agh g.h.kids.length cgh)), (h.h, (.slice ahh h.h.kids.length chh))] _ rfl Hx583.out (par_new (Below.size (kept_trans Kk13.out (kept_trans Kk21.out (kept_trans Kk29.out (kept_trans Kk38.out (kept_trans Kk540.out (kept_trans Kk562.out (kept_trans Kk571.out Kk580.out)))))))) (xlt_later XL542.out (kept_trans Kk562.out (kept_trans Kk571.out Kk580.out))) (Nat.le_refl _)) (fun p hp => by
                      simp only [List.mem_cons, List.not_mem_nil, or_false] at hp
                      rcases hp with rfl | rfl | rfl | rfl | rfl | rfl
                      · exact ⟨(by rw [← HU37.out]; exact (right_fine (plain_right (points_plain (heR_lev Hhb11.out))))), (HL553.out.later (kept_trans Kk562.out (kept_trans Kk571.out (kept_trans Kk580.out Kk586.out))))⟩
                      · exact ⟨(by rw [← HU561.out]; exact (right_fine (plain_right (point_plain (heR_lev Hhb11.out) (heR_pl Hhb11.out _ (by simp)) (heR_pl Hhb11.out _ (by simp)))))), (Hhl557.out.later (kept_trans Kk571.out (kept_trans Kk580.out Kk586.out)))⟩
                      · exact ⟨(by rw [← HU570.out]; exact (right_fine (plain_right (point_plain (heR_lev Hhb11.out) (heR_pl Hhb11.out _ (by simp)) (heR_pl Hhb11.out _ (by simp)))))), (Hhl566.out.later (kept_trans Kk580.out Kk586.out))⟩
                      · exact ⟨(by rw [← HU579.out]; exact (right_fine (plain_right (point_plain (heR_lev Hhb11.out) (heR_pl Hhb19.out _ (by simp)) (heR_pl Hhb19.out _ (by simp)))))), (Hhl575.out.later Kk586.out)⟩
                      · exact ⟨Gg.out.2.2.2.2.2, (HL547.out.later (kept_trans Kk562.out (kept_trans Kk571.out (kept_trans Kk580.out Kk586.out))))⟩
                      · exact ⟨Gh.out.2.2.2.2.2, (HL552.out.later (kept_trans Kk562.out (kept_trans Kk571.out (kept_trans Kk580.out Kk586.out))))⟩) (Nat.le_of_ble_eq_true rfl)
                    clear hHeld
                    refine hK.out _ _ ?_ (fun hHeld => ?_)
                    · (try dsimp only)
                      exact sees_kept _ (kept_trans Kk38.out (kept_trans Kk540.out (kept_trans Kk562.out (kept_trans Kk571.out (kept_trans Kk580.out Kk586.out)))))
                    clear hK K
                    (try simp only [Act.put, List.setIfInBounds_toArray, List.set_cons_zero, List.set_cons_succ])
                    refine wpAnyH_ready (rs := [27]) (by kernel_rfl) (by simp) ?_
                    refine AllReadyH.cons (o := hthenr4_27) rfl (fun K hK => ?_) ?_
                    · unfold hthenr4_27
                      go_simp
                      refine (huse_any 4 (g.i + 1) [U37, U561, U570, U579, g.h, h.h] (Par w V0.heap.size (w30.heap.size :: []) P) _ _ (show I64 4 from by unfold I64; decide) (lev_succ (heR_lev Hhb11.out) (by decide)) HR587.out (fun x hx => by
                        simp only [List.mem_cons, List.not_mem_nil, or_false] at hx
                        rcases hx with rfl | rfl | rfl | rfl | rfl | rfl
                        · exact (by rw [← HU37.out]; exact (points_plain (heR_lev Hhb11.out)))
                        · exact (by rw [← HU561.out]; exact (point_plain (heR_lev Hhb11.out) (heR_pl Hhb11.out _ (by simp)) (heR_pl Hhb11.out _ (by simp))))
                        · exact (by rw [← HU570.out]; exact (point_plain (heR_lev Hhb11.out) (heR_pl Hhb11.out _ (by simp)) (heR_pl Hhb11.out _ (by simp))))
                        · exact (by rw [← HU579.out]; exact (point_plain (heR_lev Hhb11.out) (heR_pl Hhb19.out _ (by simp)) (heR_pl Hhb19.out _ (by simp))))
                        · exact (heR_pl Hhb11.out _ (by simp))
                        · exact (heR_pl Hhb19.out _ (by simp))) (Nat.le_of_ble_eq_true rfl)).mono ?_
                      obtain ⟨U595, hU595⟩ : ∃ qu, useT 4 (g.i + 1) 0 [U37, U561, U570, U579, g.h, h.h] = qu := ⟨_, rfl⟩
                      rw [hU595]
                      have HU595 := Lib.hid hU595
                      clear hU595
                      rintro e w588 ⟨s590, rfl, hl591, k589⟩
                      obtain ⟨a592, c593, S594, rfl, -⟩ := hl591.out
                      have Kk596 := Lib.hid k589
                      clear k589
                      have Hhl591 : Hid (LiesQ w588 (Par w V0.heap.size (w30.heap.size :: []) P) U595.kids _) := par_give hl591 (Below.size (kept_trans Kk13.out (kept_trans Kk21.out (kept_trans Kk29.out (kept_trans Kk38.out (kept_trans Kk540.out (kept_trans Kk562.out (kept_trans Kk571.out (kept_trans Kk580.out Kk586.out))))))))) (xlt_later XL542.out (kept_trans Kk562.out (kept_trans Kk571.out (kept_trans Kk580.out Kk586.out))))
                      clear hl591
                      clear hHeld
                      refine hK.out _ _ ?_ (fun hHeld => ?_)
                      · (try dsimp only)
                        exact sees_kept _ (kept_trans Kk38.out (kept_trans Kk540.out (kept_trans Kk562.out (kept_trans Kk571.out (kept_trans Kk580.out (kept_trans Kk586.out Kk596.out))))))
                      clear hK K
                      (try simp only [Act.put, List.setIfInBounds_toArray, List.set_cons_zero, List.set_cons_succ])
                      refine wpAnyH_ready (rs := [29]) (by kernel_rfl) (by simp) ?_
                      refine AllReadyH.cons (o := hthenr4_29) rfl (fun K hK => ?_) ?_
                      · unfold hthenr4_29
                        refine step_store_part rfl 32 (.tmp 6) (.tmp 52) rfl (w30.heap.size) 0 #[.int .i64 U595.k, .int .i64 U595.i, .int .i64 U595.j, .int .i64 U595.n, (.slice a592 U595.kids.length c593)] rfl rfl 32 size_term (row_ok rfl) _ #[.int .i64 U595.k, .int .i64 U595.i, .int .i64 U595.j, .int .i64 U595.n, (.slice a592 U595.kids.length c593)] (blk_at Hx537.out (kept_trans Kk562.out (kept_trans Kk571.out (kept_trans Kk580.out (kept_trans Kk586.out Kk596.out))))) rfl (Nat.le_of_ble_eq_true rfl) ?_
                        intro W597 hW597
                        have KB598 := Lib.hid (kept_set (kept_trans Kk6.out (kept_trans Kk13.out (kept_trans Kk21.out (kept_trans Kk29.out (kept_trans Kk38.out (kept_trans Kk540.out (kept_trans Kk562.out (kept_trans Kk571.out (kept_trans Kk580.out (kept_trans Kk586.out Kk596.out)))))))))) hW597 (by have := HG541.out; have := Z0.out; omega))
                        have KB599 := Lib.hid (kept_set (kept_trans Kk13.out (kept_trans Kk21.out (kept_trans Kk29.out (kept_trans Kk38.out (kept_trans Kk540.out (kept_trans Kk562.out (kept_trans Kk571.out (kept_trans Kk580.out (kept_trans Kk586.out Kk596.out))))))))) hW597 HG541.out)
                        have KB600 := Lib.hid (kept_set (kept_trans Kk38.out (kept_trans Kk540.out (kept_trans Kk562.out (kept_trans Kk571.out (kept_trans Kk580.out (kept_trans Kk586.out Kk596.out)))))) hW597 (Below.size Kk38.out))
                        have HL601 : Hid (LiesQ W597 (Par w V0.heap.size (w30.heap.size :: []) P) g.a.kids _) := par_set (HL543.out.later (kept_trans Kk562.out (kept_trans Kk571.out (kept_trans Kk580.out (kept_trans Kk586.out Kk596.out))))) hW597 (List.mem_cons_self ..) (by have := HG541.out; have := Z0.out; omega)
                        have HL602 : Hid (LiesQ W597 (Par w V0.heap.size (w30.heap.size :: []) P) g.b.kids _) := par_set (HL544.out.later (kept_trans Kk562.out (kept_trans Kk571.out (kept_trans Kk580.out (kept_trans Kk586.out Kk596.out))))) hW597 (List.mem_cons_self ..) (by have := HG541.out; have := Z0.out; omega)
                        have HL603 : Hid (LiesQ W597 (Par w V0.heap.size (w30.heap.size :: []) P) g.x.kids _) := par_set (HL545.out.later (kept_trans Kk562.out (kept_trans Kk571.out (kept_trans Kk580.out (kept_trans Kk586.out Kk596.out))))) hW597 (List.mem_cons_self ..) (by have := HG541.out; have := Z0.out; omega)
                        have HL604 : Hid (LiesQ W597 (Par w V0.heap.size (w30.heap.size :: []) P) g.y.kids _) := par_set (HL546.out.later (kept_trans Kk562.out (kept_trans Kk571.out (kept_trans Kk580.out (kept_trans Kk586.out Kk596.out))))) hW597 (List.mem_cons_self ..) (by have := HG541.out; have := Z0.out; omega)
                        have HL605 : Hid (LiesQ W597 (Par w V0.heap.size (w30.heap.size :: []) P) g.h.kids _) := par_set (HL547.out.later (kept_trans Kk562.out (kept_trans Kk571.out (kept_trans Kk580.out (kept_trans Kk586.out Kk596.out))))) hW597 (List.mem_cons_self ..) (by have := HG541.out; have := Z0.out; omega)
                        have HL606 : Hid (LiesQ W597 (Par w V0.heap.size (w30.heap.size :: []) P) h.a.kids _) := par_set (HL548.out.later (kept_trans Kk562.out (kept_trans Kk571.out (kept_trans Kk580.out (kept_trans Kk586.out Kk596.out))))) hW597 (List.mem_cons_self ..) (by have := HG541.out; have := Z0.out; omega)
                        have HL607 : Hid (LiesQ W597 (Par w V0.heap.size (w30.heap.size :: []) P) h.b.kids _) := par_set (HL549.out.later (kept_trans Kk562.out (kept_trans Kk571.out (kept_trans Kk580.out (kept_trans Kk586.out Kk596.out))))) hW597 (List.mem_cons_self ..) (by have := HG541.out; have := Z0.out; omega)
                        have HL608 : Hid (LiesQ W597 (Par w V0.heap.size (w30.heap.size :: []) P) h.x.kids _) := par_set (HL550.out.later (kept_trans Kk562.out (kept_trans Kk571.out (kept_trans Kk580.out (kept_trans Kk586.out Kk596.out))))) hW597 (List.mem_cons_self ..) (by have := HG541.out; have := Z0.out; omega)
                        have HL609 : Hid (LiesQ W597 (Par w V0.heap.size (w30.heap.size :: []) P) h.y.kids _) := par_set (HL551.out.later (kept_trans Kk562.out (kept_trans Kk571.out (kept_trans Kk580.out (kept_trans Kk586.out Kk596.out))))) hW597 (List.mem_cons_self ..) (by have := HG541.out; have := Z0.out; omega)
                        have HL610 : Hid (LiesQ W597 (Par w V0.heap.size (w30.heap.size :: []) P) h.h.kids _) := par_set (HL552.out.later (kept_trans Kk562.out (kept_trans Kk571.out (kept_trans Kk580.out (kept_trans Kk586.out Kk596.out))))) hW597 (List.mem_cons_self ..) (by have := HG541.out; have := Z0.out; omega)
                        have HL611 : Hid (LiesQ W597 (Par w V0.heap.size (w30.heap.size :: []) P) U37.kids _) := par_set (HL553.out.later (kept_trans Kk562.out (kept_trans Kk571.out (kept_trans Kk580.out (kept_trans Kk586.out Kk596.out))))) hW597 (List.mem_cons_self ..) (by have := HG541.out; have := Z0.out; omega)
                        have HL612 : Hid (LiesQ W597 (Par w V0.heap.size (w30.heap.size :: []) P) U561.kids _) := par_set (Hhl557.out.later (kept_trans Kk571.out (kept_trans Kk580.out (kept_trans Kk586.out Kk596.out)))) hW597 (List.mem_cons_self ..) (by have := HG541.out; have := Z0.out; omega)
                        have HL613 : Hid (LiesQ W597 (Par w V0.heap.size (w30.heap.size :: []) P) U570.kids _) := par_set (Hhl566.out.later (kept_trans Kk580.out (kept_trans Kk586.out Kk596.out))) hW597 (List.mem_cons_self ..) (by have := HG541.out; have := Z0.out; omega)
                        have HL614 : Hid (LiesQ W597 (Par w V0.heap.size (w30.heap.size :: []) P) U579.kids _) := par_set (Hhl575.out.later (kept_trans Kk586.out Kk596.out)) hW597 (List.mem_cons_self ..) (by have := HG541.out; have := Z0.out; omega)
                        have HL615 : Hid (LiesQ W597 (Par w V0.heap.size (w30.heap.size :: []) P) [U37, U561, U570, U579, g.h, h.h] _) := par_set (HR587.out.later Kk596.out) hW597 (List.mem_cons_self ..) (by have := HG541.out; have := Z0.out; omega)
                        have HL616 : Hid (LiesQ W597 (Par w V0.heap.size (w30.heap.size :: []) P) U595.kids _) := par_set Hhl591.out hW597 (List.mem_cons_self ..) (by have := HG541.out; have := Z0.out; omega)
                        have XL617 := Lib.hid (xlt_set (xlt_later XL542.out (kept_trans Kk562.out (kept_trans Kk571.out (kept_trans Kk580.out (kept_trans Kk586.out Kk596.out))))) hW597)
                        have HX618 := Lib.hid (blk_same (blk_at Hx537.out (kept_trans Kk562.out (kept_trans Kk571.out (kept_trans Kk580.out (kept_trans Kk586.out Kk596.out))))) hW597)
                        clear hW597
                        clear hHeld
                        refine hK.out _ _ ?_ (fun hHeld => ?_)
                        · (try dsimp only)
                          exact sees_kept _ KB600.out
                        clear hK K
                        (try simp only [Act.put])
                        refine wpAnyH_done (by kernel_rfl) ?_ _
                        clear hHeld
                        have kvV0 : Sees V0 (w.heap.size + 2) W597 := sees_kept _ KB599.out
                        have kvW597 : Sees W597 (w.heap.size + 2) W597 := sees_kept _ (kept_refl _)
                        go_wp2_with (refine stop_load 32 (.tmp 54) rfl ?_)
                        intro _
                        refine wpList_load_part (w.heap.size) 1 32 (.tmp 54) #[.int .i64 g.a.k, .int .i64 g.a.i, .int .i64 g.a.j, .int .i64 g.a.n, (.slice aga g.a.kids.length cga)] du (blk_at Hx1.out KB599.out) (by rfl) rfl (by rfl) (by rfl) hu1 (by cases du <;> first | rfl | exact hu2) size_term ?_
                        go_wp2_with (refine stop_load 32 (.tmp 56) rfl ?_)
                        intro _
                        refine wpList_load_part (w.heap.size + 1) 6 32 (.tmp 56) #[.int .i64 h.b.k, .int .i64 h.b.i, .int .i64 h.b.j, .int .i64 h.b.n, (.slice ahb h.b.kids.length chb)] du (blk_at Hx2.out KB599.out) (by rfl) rfl (by rfl) (by rfl) hu1 (by cases du <;> first | rfl | exact hu2) size_term ?_
                        go_wp2_with (refine stop_load 32 (.tmp 58) rfl ?_)
                        intro _
                        refine wpList_load_part (w.heap.size) 11 32 (.tmp 58) #[.int .i64 g.x.k, .int .i64 g.x.i, .int .i64 g.x.j, .int .i64 g.x.n, (.slice agx g.x.kids.length cgx)] du (blk_at Hx1.out KB599.out) (by rfl) rfl (by rfl) (by rfl) hu1 (by cases du <;> first | rfl | exact hu2) size_term ?_
                        go_wp2_with (refine stop_load 32 (.tmp 60) rfl ?_)
                        intro _
                        refine wpList_load_part (w.heap.size + 1) 16 32 (.tmp 60) #[.int .i64 h.y.k, .int .i64 h.y.i, .int .i64 h.y.j, .int .i64 h.y.n, (.slice ahy h.y.kids.length chy)] du (blk_at Hx2.out KB599.out) (by rfl) rfl (by rfl) (by rfl) hu1 (by cases du <;> first | rfl | exact hu2) size_term ?_
                        go_wp2_with (refine stop_load 32 (.tmp 6) rfl ?_)
                        intro _
                        refine wpList_load_part (w30.heap.size) 0 32 (.tmp 6) #[.int .i64 U595.k, .int .i64 U595.i, .int .i64 U595.j, .int .i64 U595.n, (.slice a592 U595.kids.length c593)] du HX618.out (by rfl) rfl (by rfl) (by rfl) hu1 (by cases du <;> first | rfl | exact hu2) size_term ?_
                        go_wp2_with fail
                        clear kvV0
                        clear kvW597
                        refine (hfresh_any (⟨g.i, g.a, h.b, g.x, h.y, U595⟩ : He) (Par w V0.heap.size (w30.heap.size :: []) P) _ (.slice aga g.a.kids.length cga) (.slice ahb h.b.kids.length chb) (.slice agx g.x.kids.length cgx) (.slice ahy h.y.kids.length chy) (.slice a592 U595.kids.length c593) ⟨Gg.out.1, Gg.out.2.1, Gh.out.2.2.1, Gg.out.2.2.2.1, Gh.out.2.2.2.2.1, (by rw [← HU595.out]; exact (use_fine (show I64 4 from by unfold I64; decide) (lev_succ (heR_lev Hhb11.out) (by decide)) (by unfold I64; decide)))⟩ ⟨HL601.out, HL607.out, HL603.out, HL609.out, HL616.out⟩ (heR_pl Hhb11.out _ (by simp)) (heR_pl Hhb19.out _ (by simp)) (heR_pl Hhb11.out _ (by simp)) (heR_pl Hhb19.out _ (by simp))).mono ?_
                        obtain ⟨U621, hU621⟩ : ∃ qu, (⟨g.i, g.a, h.b, g.x, h.y, U595⟩ : He) = qu := ⟨_, rfl⟩
                        rw [hU621]
                        have HU621 := Lib.hid hU621
                        clear hU621
                        rintro e w619 ⟨s622, s623, s624, s625, s626, rfl, ⟨hl627, hl628, hl629, hl630, hl631⟩, k620⟩
                        obtain ⟨a632, c633, S634, rfl, -⟩ := hl627.out
                        obtain ⟨a635, c636, S637, rfl, -⟩ := hl628.out
                        obtain ⟨a638, c639, S640, rfl, -⟩ := hl629.out
                        obtain ⟨a641, c642, S643, rfl, -⟩ := hl630.out
                        obtain ⟨a644, c645, S646, rfl, -⟩ := hl631.out
                        have Kk647 := Lib.hid k620
                        clear k620
                        have Hhl627 : Hid (LiesQ w619 (Par w V0.heap.size (w30.heap.size :: []) P) U621.a.kids _) := par_give hl627 (Below.size KB599.out) XL617.out
                        have Hhl628 : Hid (LiesQ w619 (Par w V0.heap.size (w30.heap.size :: []) P) U621.b.kids _) := par_give hl628 (Below.size KB599.out) XL617.out
                        have Hhl629 : Hid (LiesQ w619 (Par w V0.heap.size (w30.heap.size :: []) P) U621.x.kids _) := par_give hl629 (Below.size KB599.out) XL617.out
                        have Hhl630 : Hid (LiesQ w619 (Par w V0.heap.size (w30.heap.size :: []) P) U621.y.kids _) := par_give hl630 (Below.size KB599.out) XL617.out
                        have Hhl631 : Hid (LiesQ w619 (Par w V0.heap.size (w30.heap.size :: []) P) U621.h.kids _) := par_give hl631 (Below.size KB599.out) XL617.out
                        clear hl627 hl628 hl629 hl630 hl631
                        have kvV0 : Sees V0 (w.heap.size + 2) w619 := sees_kept _ (kept_trans KB599.out Kk647.out)
                        have kvW597 : Sees W597 (w.heap.size + 2) w619 := sees_kept _ Kk647.out
                        go_wp2_with (refine stop_store 51 (.tmp 4) (.tmp 64) rfl ?_)
                        intro _
                        refine wpList_store_part_n (by rfl) 51 (.tmp 4) (.tmp 64) rfl (w.heap.size + 2) 0 #[.int .i64 U621.i, .int .i64 U621.a.k, .int .i64 U621.a.i, .int .i64 U621.a.j, .int .i64 U621.a.n, (.slice a632 U621.a.kids.length c633), .int .i64 U621.b.k, .int .i64 U621.b.i, .int .i64 U621.b.j, .int .i64 U621.b.n, (.slice a635 U621.b.kids.length c636), .int .i64 U621.x.k, .int .i64 U621.x.i, .int .i64 U621.x.j, .int .i64 U621.x.n, (.slice a638 U621.x.kids.length c639), .int .i64 U621.y.k, .int .i64 U621.y.i, .int .i64 U621.y.j, .int .i64 U621.y.n, (.slice a641 U621.y.kids.length c642), .int .i64 U621.h.k, .int .i64 U621.h.i, .int .i64 U621.h.j, .int .i64 U621.h.n, (.slice a644 U621.h.kids.length c645)] (by rfl) (by rfl) 51 (by kernel_rfl) (row_ok rfl) ?_
                        intro W648 hW648
                        clear kvV0
                        clear kvW597
                        subst hW648
                        refine ⟨_, #[.int .i64 U621.i, .int .i64 U621.a.k, .int .i64 U621.a.i, .int .i64 U621.a.j, .int .i64 U621.a.n, (.slice a632 U621.a.kids.length c633), .int .i64 U621.b.k, .int .i64 U621.b.i, .int .i64 U621.b.j, .int .i64 U621.b.n, (.slice a635 U621.b.kids.length c636), .int .i64 U621.x.k, .int .i64 U621.x.i, .int .i64 U621.x.j, .int .i64 U621.x.n, (.slice a638 U621.x.kids.length c639), .int .i64 U621.y.k, .int .i64 U621.y.i, .int .i64 U621.y.j, .int .i64 U621.y.n, (.slice a641 U621.y.kids.length c642), .int .i64 U621.h.k, .int .i64 U621.h.i, .int .i64 U621.h.j, .int .i64 U621.h.n, (.slice a644 U621.h.kids.length c645)], (blk_at Hx3.out (kept_trans KB599.out Kk647.out)), rfl, Nat.le_of_ble_eq_true rfl, ?_⟩
                        intro W649 hW649
                        go_wp2_with fail
                        refine bodyPost_ret (results_cell_row rfl _ _ (w.heap.size + 2) 51 _ _ dh rfl (blk_same (blk_at Hx3.out (kept_trans KB599.out Kk647.out)) hW649) dh1 (by cases dh <;> first | rfl | exact dh2) (by kernel_rfl)) rfl ?_
                        rw [show heThen g h = U621 from by unfold heThen; rw [Hhb11.out, Hhb19.out, Ec25.out]; rw [← HU621.out]; rw [← HU595.out]; rw [← HU579.out]; rw [← HU570.out]; rw [← HU561.out]; rw [← HU37.out]; (try rfl)]
                        exact ⟨_, _, _, _, _, rfl, ⟨par_end (par_row' Hhl627.out hW649 (by omega) (by have := Z0.out; omega)) (by have := Z0.out; omega), par_end (par_row' Hhl628.out hW649 (by omega) (by have := Z0.out; omega)) (by have := Z0.out; omega), par_end (par_row' Hhl629.out hW649 (by omega) (by have := Z0.out; omega)) (by have := Z0.out; omega), par_end (par_row' Hhl630.out hW649 (by omega) (by have := Z0.out; omega)) (by have := Z0.out; omega), par_end (par_row' Hhl631.out hW649 (by omega) (by have := Z0.out; omega)) (by have := Z0.out; omega)⟩, kept_set (kept_trans KB598.out Kk647.out) hW649 (by omega)⟩
                      exact AllReadyH.nil
                    exact AllReadyH.nil
                  exact AllReadyH.nil
                exact AllReadyH.nil
              exact AllReadyH.nil
            exact AllReadyH.nil
          exact AllReadyH.nil
        refine AllReadyH.cons (o := hthenr4_28) rfl (fun K hK => ?_) ?_
        · unfold hthenr4_28
          go_simp
          refine at_K (fun W650 hW650 => ?_)
          obtain ⟨k652, x651, z653⟩ := alloc1 hW650
          have Kk654 := Lib.hid k652
          clear k652
          have Hx651 := Lib.hid x651
          have Hz653 := Lib.hid z653
          clear x651 z653 hW650
          have HG655 : Hid (V0.heap.size ≤ W26.heap.size) := (Below.size (kept_trans Kk13.out (kept_trans Kk21.out Kk29.out)))
          have XL656 := Lib.hid (xlt_more (xlt_nil _) Kk654.out (by have := Hz653.out; omega))
          have HL657 : Hid (LiesQ W650 (Par w V0.heap.size (W26.heap.size :: []) P) g.a.kids _) := (par_more (HLga.out.later (kept_trans Kk13.out (kept_trans Kk21.out Kk29.out)))).later Kk654.out
          have HL658 : Hid (LiesQ W650 (Par w V0.heap.size (W26.heap.size :: []) P) g.b.kids _) := (par_more (HLgb.out.later (kept_trans Kk13.out (kept_trans Kk21.out Kk29.out)))).later Kk654.out
          have HL659 : Hid (LiesQ W650 (Par w V0.heap.size (W26.heap.size :: []) P) g.x.kids _) := (par_more (HLgx.out.later (kept_trans Kk13.out (kept_trans Kk21.out Kk29.out)))).later Kk654.out
          have HL660 : Hid (LiesQ W650 (Par w V0.heap.size (W26.heap.size :: []) P) g.y.kids _) := (par_more (HLgy.out.later (kept_trans Kk13.out (kept_trans Kk21.out Kk29.out)))).later Kk654.out
          have HL661 : Hid (LiesQ W650 (Par w V0.heap.size (W26.heap.size :: []) P) g.h.kids _) := (par_more (HLgh.out.later (kept_trans Kk13.out (kept_trans Kk21.out Kk29.out)))).later Kk654.out
          have HL662 : Hid (LiesQ W650 (Par w V0.heap.size (W26.heap.size :: []) P) h.a.kids _) := (par_more (HLha.out.later (kept_trans Kk13.out (kept_trans Kk21.out Kk29.out)))).later Kk654.out
          have HL663 : Hid (LiesQ W650 (Par w V0.heap.size (W26.heap.size :: []) P) h.b.kids _) := (par_more (HLhb.out.later (kept_trans Kk13.out (kept_trans Kk21.out Kk29.out)))).later Kk654.out
          have HL664 : Hid (LiesQ W650 (Par w V0.heap.size (W26.heap.size :: []) P) h.x.kids _) := (par_more (HLhx.out.later (kept_trans Kk13.out (kept_trans Kk21.out Kk29.out)))).later Kk654.out
          have HL665 : Hid (LiesQ W650 (Par w V0.heap.size (W26.heap.size :: []) P) h.y.kids _) := (par_more (HLhy.out.later (kept_trans Kk13.out (kept_trans Kk21.out Kk29.out)))).later Kk654.out
          have HL666 : Hid (LiesQ W650 (Par w V0.heap.size (W26.heap.size :: []) P) h.h.kids _) := (par_more (HLhh.out.later (kept_trans Kk13.out (kept_trans Kk21.out Kk29.out)))).later Kk654.out
          clear hHeld
          refine hK.out _ _ ?_ (fun hHeld => ?_)
          · (try dsimp only)
            exact sees_kept _ Kk654.out
          clear hK K
          (try simp only [Act.put, List.setIfInBounds_toArray, List.set_cons_zero, List.set_cons_succ])
          refine wpAnyH_ready (rs := [3]) (by kernel_rfl) (by simp) ?_
          refine AllReadyH.cons (o := hthenr4_3) rfl (fun K hK => ?_) ?_
          · unfold hthenr4_3
            go_simp
            refine (hpoints_any g.i (Par w V0.heap.size (W26.heap.size :: []) P) _ Gg.out.1).mono ?_
            obtain ⟨U674, hU674⟩ : ∃ qu, pointsT g.i = qu := ⟨_, rfl⟩
            rw [hU674]
            have HU674 := Lib.hid hU674
            clear hU674
            rintro e w667 ⟨s669, rfl, hl670, k668⟩
            obtain ⟨a671, c672, S673, rfl, -⟩ := hl670.out
            have Kk675 := Lib.hid k668
            clear k668
            have Hhl670 : Hid (LiesQ w667 (Par w V0.heap.size (W26.heap.size :: []) P) U674.kids _) := par_give hl670 (Below.size (kept_trans Kk13.out (kept_trans Kk21.out (kept_trans Kk29.out Kk654.out)))) XL656.out
            clear hl670
            clear hHeld
            refine hK.out _ _ ?_ (fun hHeld => ?_)
            · (try dsimp only)
              exact sees_kept _ (kept_trans Kk654.out Kk675.out)
            clear hK K
            (try simp only [Act.put, List.setIfInBounds_toArray, List.set_cons_zero, List.set_cons_succ])
            refine wpAnyH_ready (rs := [9]) (by kernel_rfl) (by simp) ?_
            refine AllReadyH.cons (o := hthenr4_9) rfl (fun K hK => ?_) ?_
            · unfold hthenr4_9
              go_simp
              refine (hpoint_any g.i g.a g.x (Par w V0.heap.size (W26.heap.size :: []) P) _ (.slice aga g.a.kids.length cga) (.slice agx g.x.kids.length cgx) Gg.out.1 Gg.out.2.1 (HL657.out.later Kk675.out) Gg.out.2.2.2.1 (HL659.out.later Kk675.out) (heR_pl Hhb11.out _ (by simp)) (heR_pl Hhb11.out _ (by simp))).mono ?_
              obtain ⟨U683, hU683⟩ : ∃ qu, pointT g.i g.a g.x = qu := ⟨_, rfl⟩
              rw [hU683]
              have HU683 := Lib.hid hU683
              clear hU683
              rintro e w676 ⟨s678, rfl, hl679, k677⟩
              obtain ⟨a680, c681, S682, rfl, -⟩ := hl679.out
              have Kk684 := Lib.hid k677
              clear k677
              have Hhl679 : Hid (LiesQ w676 (Par w V0.heap.size (W26.heap.size :: []) P) U683.kids _) := par_give hl679 (Below.size (kept_trans Kk13.out (kept_trans Kk21.out (kept_trans Kk29.out (kept_trans Kk654.out Kk675.out))))) (xlt_later XL656.out Kk675.out)
              clear hl679
              clear hHeld
              refine hK.out _ _ ?_ (fun hHeld => ?_)
              · (try dsimp only)
                exact sees_kept _ (kept_trans Kk654.out (kept_trans Kk675.out Kk684.out))
              clear hK K
              (try simp only [Act.put, List.setIfInBounds_toArray, List.set_cons_zero, List.set_cons_succ])
              refine wpAnyH_ready (rs := [15]) (by kernel_rfl) (by simp) ?_
              refine AllReadyH.cons (o := hthenr4_15) rfl (fun K hK => ?_) ?_
              · unfold hthenr4_15
                go_simp
                refine (hpoint_any g.i g.b g.y (Par w V0.heap.size (W26.heap.size :: []) P) _ (.slice agb g.b.kids.length cgb) (.slice agy g.y.kids.length cgy) Gg.out.1 Gg.out.2.2.1 (HL658.out.later (kept_trans Kk675.out Kk684.out)) Gg.out.2.2.2.2.1 (HL660.out.later (kept_trans Kk675.out Kk684.out)) (heR_pl Hhb11.out _ (by simp)) (heR_pl Hhb11.out _ (by simp))).mono ?_
                obtain ⟨U692, hU692⟩ : ∃ qu, pointT g.i g.b g.y = qu := ⟨_, rfl⟩
                rw [hU692]
                have HU692 := Lib.hid hU692
                clear hU692
                rintro e w685 ⟨s687, rfl, hl688, k686⟩
                obtain ⟨a689, c690, S691, rfl, -⟩ := hl688.out
                have Kk693 := Lib.hid k686
                clear k686
                have Hhl688 : Hid (LiesQ w685 (Par w V0.heap.size (W26.heap.size :: []) P) U692.kids _) := par_give hl688 (Below.size (kept_trans Kk13.out (kept_trans Kk21.out (kept_trans Kk29.out (kept_trans Kk654.out (kept_trans Kk675.out Kk684.out)))))) (xlt_later XL656.out (kept_trans Kk675.out Kk684.out))
                clear hl688
                clear hHeld
                refine hK.out _ _ ?_ (fun hHeld => ?_)
                · (try dsimp only)
                  exact sees_kept _ (kept_trans Kk654.out (kept_trans Kk675.out (kept_trans Kk684.out Kk693.out)))
                clear hK K
                (try simp only [Act.put, List.setIfInBounds_toArray, List.set_cons_zero, List.set_cons_succ])
                refine wpAnyH_ready (rs := [21]) (by kernel_rfl) (by simp) ?_
                refine AllReadyH.cons (o := hthenr4_21) rfl (fun K hK => ?_) ?_
                · unfold hthenr4_21
                  go_simp
                  refine (hpoint_any g.i h.b h.y (Par w V0.heap.size (W26.heap.size :: []) P) _ (.slice ahb h.b.kids.length chb) (.slice ahy h.y.kids.length chy) Gg.out.1 Gh.out.2.2.1 (HL663.out.later (kept_trans Kk675.out (kept_trans Kk684.out Kk693.out))) Gh.out.2.2.2.2.1 (HL665.out.later (kept_trans Kk675.out (kept_trans Kk684.out Kk693.out))) (heR_pl Hhb19.out _ (by simp)) (heR_pl Hhb19.out _ (by simp))).mono ?_
                  obtain ⟨U701, hU701⟩ : ∃ qu, pointT g.i h.b h.y = qu := ⟨_, rfl⟩
                  rw [hU701]
                  have HU701 := Lib.hid hU701
                  clear hU701
                  rintro e w694 ⟨s696, rfl, hl697, k695⟩
                  obtain ⟨a698, c699, S700, rfl, -⟩ := hl697.out
                  have Kk702 := Lib.hid k695
                  clear k695
                  have Hhl697 : Hid (LiesQ w694 (Par w V0.heap.size (W26.heap.size :: []) P) U701.kids _) := par_give hl697 (Below.size (kept_trans Kk13.out (kept_trans Kk21.out (kept_trans Kk29.out (kept_trans Kk654.out (kept_trans Kk675.out (kept_trans Kk684.out Kk693.out))))))) (xlt_later XL656.out (kept_trans Kk675.out (kept_trans Kk684.out Kk693.out)))
                  clear hl697
                  clear hHeld
                  refine hK.out _ _ ?_ (fun hHeld => ?_)
                  · (try dsimp only)
                    exact sees_kept _ (kept_trans Kk654.out (kept_trans Kk675.out (kept_trans Kk684.out (kept_trans Kk693.out Kk702.out))))
                  clear hK K
                  (try simp only [Act.put, List.setIfInBounds_toArray, List.set_cons_zero, List.set_cons_succ])
                  refine wpAnyH_ready (rs := [26]) (by kernel_rfl) (by simp) ?_
                  refine AllReadyH.cons (o := hthenr4_26) rfl (fun K hK => ?_) ?_
                  · unfold hthenr4_26
                    go_simp
                    refine at_K (fun W704 hW704 => ?_)
                    obtain ⟨k706, x705, z707⟩ := alloc1 hW704
                    have Kk708 := Lib.hid k706
                    clear k706
                    have Hx705 := Lib.hid x705
                    have Hz707 := Lib.hid z707
                    clear x705 z707 hW704
                    have HR709 : Hid (LiesQ W704 (Par w V0.heap.size (W26.heap.size :: []) P) [U674, U683, U692, U701, g.h, h.h] (.slice (some ⟨w694.heap.size, 0, none⟩) 6 6)) := q_row [(U674, (.slice a671 U674.kids.length c672)), (U683, (.slice a680 U683.kids.length c681)), (U692, (.slice a689 U692.kids.length c690)), (U701, (.slice a698 U701.kids.length c699)), (g.h, (.slice agh g.h.kids.length cgh)), (h.h, (.slice ahh h.h.kids.length chh))] _ rfl Hx705.out (par_new (Below.size (kept_trans Kk13.out (kept_trans Kk21.out (kept_trans Kk29.out (kept_trans Kk654.out (kept_trans Kk675.out (kept_trans Kk684.out (kept_trans Kk693.out Kk702.out)))))))) (xlt_later XL656.out (kept_trans Kk675.out (kept_trans Kk684.out (kept_trans Kk693.out Kk702.out)))) (Nat.le_refl _)) (fun p hp => by
                      simp only [List.mem_cons, List.not_mem_nil, or_false] at hp
                      rcases hp with rfl | rfl | rfl | rfl | rfl | rfl
                      · exact ⟨(by rw [← HU674.out]; exact (right_fine (plain_right (points_plain (heR_lev Hhb11.out))))), (Hhl670.out.later (kept_trans Kk684.out (kept_trans Kk693.out (kept_trans Kk702.out Kk708.out))))⟩
                      · exact ⟨(by rw [← HU683.out]; exact (right_fine (plain_right (point_plain (heR_lev Hhb11.out) (heR_pl Hhb11.out _ (by simp)) (heR_pl Hhb11.out _ (by simp)))))), (Hhl679.out.later (kept_trans Kk693.out (kept_trans Kk702.out Kk708.out)))⟩
                      · exact ⟨(by rw [← HU692.out]; exact (right_fine (plain_right (point_plain (heR_lev Hhb11.out) (heR_pl Hhb11.out _ (by simp)) (heR_pl Hhb11.out _ (by simp)))))), (Hhl688.out.later (kept_trans Kk702.out Kk708.out))⟩
                      · exact ⟨(by rw [← HU701.out]; exact (right_fine (plain_right (point_plain (heR_lev Hhb11.out) (heR_pl Hhb19.out _ (by simp)) (heR_pl Hhb19.out _ (by simp)))))), (Hhl697.out.later Kk708.out)⟩
                      · exact ⟨Gg.out.2.2.2.2.2, (HL661.out.later (kept_trans Kk675.out (kept_trans Kk684.out (kept_trans Kk693.out (kept_trans Kk702.out Kk708.out)))))⟩
                      · exact ⟨Gh.out.2.2.2.2.2, (HL666.out.later (kept_trans Kk675.out (kept_trans Kk684.out (kept_trans Kk693.out (kept_trans Kk702.out Kk708.out)))))⟩) (Nat.le_of_ble_eq_true rfl)
                    clear hHeld
                    refine hK.out _ _ ?_ (fun hHeld => ?_)
                    · (try dsimp only)
                      exact sees_kept _ (kept_trans Kk654.out (kept_trans Kk675.out (kept_trans Kk684.out (kept_trans Kk693.out (kept_trans Kk702.out Kk708.out)))))
                    clear hK K
                    (try simp only [Act.put, List.setIfInBounds_toArray, List.set_cons_zero, List.set_cons_succ])
                    refine wpAnyH_ready (rs := [27]) (by kernel_rfl) (by simp) ?_
                    refine AllReadyH.cons (o := hthenr4_27) rfl (fun K hK => ?_) ?_
                    · unfold hthenr4_27
                      go_simp
                      refine (huse_any 4 (g.i + 1) [U674, U683, U692, U701, g.h, h.h] (Par w V0.heap.size (W26.heap.size :: []) P) _ _ (show I64 4 from by unfold I64; decide) (lev_succ (heR_lev Hhb11.out) (by decide)) HR709.out (fun x hx => by
                        simp only [List.mem_cons, List.not_mem_nil, or_false] at hx
                        rcases hx with rfl | rfl | rfl | rfl | rfl | rfl
                        · exact (by rw [← HU674.out]; exact (points_plain (heR_lev Hhb11.out)))
                        · exact (by rw [← HU683.out]; exact (point_plain (heR_lev Hhb11.out) (heR_pl Hhb11.out _ (by simp)) (heR_pl Hhb11.out _ (by simp))))
                        · exact (by rw [← HU692.out]; exact (point_plain (heR_lev Hhb11.out) (heR_pl Hhb11.out _ (by simp)) (heR_pl Hhb11.out _ (by simp))))
                        · exact (by rw [← HU701.out]; exact (point_plain (heR_lev Hhb11.out) (heR_pl Hhb19.out _ (by simp)) (heR_pl Hhb19.out _ (by simp))))
                        · exact (heR_pl Hhb11.out _ (by simp))
                        · exact (heR_pl Hhb19.out _ (by simp))) (Nat.le_of_ble_eq_true rfl)).mono ?_
                      obtain ⟨U717, hU717⟩ : ∃ qu, useT 4 (g.i + 1) 0 [U674, U683, U692, U701, g.h, h.h] = qu := ⟨_, rfl⟩
                      rw [hU717]
                      have HU717 := Lib.hid hU717
                      clear hU717
                      rintro e w710 ⟨s712, rfl, hl713, k711⟩
                      obtain ⟨a714, c715, S716, rfl, -⟩ := hl713.out
                      have Kk718 := Lib.hid k711
                      clear k711
                      have Hhl713 : Hid (LiesQ w710 (Par w V0.heap.size (W26.heap.size :: []) P) U717.kids _) := par_give hl713 (Below.size (kept_trans Kk13.out (kept_trans Kk21.out (kept_trans Kk29.out (kept_trans Kk654.out (kept_trans Kk675.out (kept_trans Kk684.out (kept_trans Kk693.out (kept_trans Kk702.out Kk708.out))))))))) (xlt_later XL656.out (kept_trans Kk675.out (kept_trans Kk684.out (kept_trans Kk693.out (kept_trans Kk702.out Kk708.out)))))
                      clear hl713
                      clear hHeld
                      refine hK.out _ _ ?_ (fun hHeld => ?_)
                      · (try dsimp only)
                        exact sees_kept _ (kept_trans Kk654.out (kept_trans Kk675.out (kept_trans Kk684.out (kept_trans Kk693.out (kept_trans Kk702.out (kept_trans Kk708.out Kk718.out))))))
                      clear hK K
                      (try simp only [Act.put, List.setIfInBounds_toArray, List.set_cons_zero, List.set_cons_succ])
                      refine wpAnyH_ready (rs := [29]) (by kernel_rfl) (by simp) ?_
                      refine AllReadyH.cons (o := hthenr4_29) rfl (fun K hK => ?_) ?_
                      · unfold hthenr4_29
                        refine step_store_part rfl 32 (.tmp 6) (.tmp 52) rfl (W26.heap.size) 0 #[.int .i64 U717.k, .int .i64 U717.i, .int .i64 U717.j, .int .i64 U717.n, (.slice a714 U717.kids.length c715)] rfl rfl 32 size_term (row_ok rfl) _ #[.int .i64 U717.k, .int .i64 U717.i, .int .i64 U717.j, .int .i64 U717.n, (.slice a714 U717.kids.length c715)] (blk_at Hx651.out (kept_trans Kk675.out (kept_trans Kk684.out (kept_trans Kk693.out (kept_trans Kk702.out (kept_trans Kk708.out Kk718.out)))))) rfl (Nat.le_of_ble_eq_true rfl) ?_
                        intro W719 hW719
                        have KB720 := Lib.hid (kept_set (kept_trans Kk6.out (kept_trans Kk13.out (kept_trans Kk21.out (kept_trans Kk29.out (kept_trans Kk654.out (kept_trans Kk675.out (kept_trans Kk684.out (kept_trans Kk693.out (kept_trans Kk702.out (kept_trans Kk708.out Kk718.out)))))))))) hW719 (by have := HG655.out; have := Z0.out; omega))
                        have KB721 := Lib.hid (kept_set (kept_trans Kk13.out (kept_trans Kk21.out (kept_trans Kk29.out (kept_trans Kk654.out (kept_trans Kk675.out (kept_trans Kk684.out (kept_trans Kk693.out (kept_trans Kk702.out (kept_trans Kk708.out Kk718.out))))))))) hW719 HG655.out)
                        have KB722 := Lib.hid (kept_set (kept_trans Kk654.out (kept_trans Kk675.out (kept_trans Kk684.out (kept_trans Kk693.out (kept_trans Kk702.out (kept_trans Kk708.out Kk718.out)))))) hW719 (Below.size (kept_refl _)))
                        have HL723 : Hid (LiesQ W719 (Par w V0.heap.size (W26.heap.size :: []) P) g.a.kids _) := par_set (HL657.out.later (kept_trans Kk675.out (kept_trans Kk684.out (kept_trans Kk693.out (kept_trans Kk702.out (kept_trans Kk708.out Kk718.out)))))) hW719 (List.mem_cons_self ..) (by have := HG655.out; have := Z0.out; omega)
                        have HL724 : Hid (LiesQ W719 (Par w V0.heap.size (W26.heap.size :: []) P) g.b.kids _) := par_set (HL658.out.later (kept_trans Kk675.out (kept_trans Kk684.out (kept_trans Kk693.out (kept_trans Kk702.out (kept_trans Kk708.out Kk718.out)))))) hW719 (List.mem_cons_self ..) (by have := HG655.out; have := Z0.out; omega)
                        have HL725 : Hid (LiesQ W719 (Par w V0.heap.size (W26.heap.size :: []) P) g.x.kids _) := par_set (HL659.out.later (kept_trans Kk675.out (kept_trans Kk684.out (kept_trans Kk693.out (kept_trans Kk702.out (kept_trans Kk708.out Kk718.out)))))) hW719 (List.mem_cons_self ..) (by have := HG655.out; have := Z0.out; omega)
                        have HL726 : Hid (LiesQ W719 (Par w V0.heap.size (W26.heap.size :: []) P) g.y.kids _) := par_set (HL660.out.later (kept_trans Kk675.out (kept_trans Kk684.out (kept_trans Kk693.out (kept_trans Kk702.out (kept_trans Kk708.out Kk718.out)))))) hW719 (List.mem_cons_self ..) (by have := HG655.out; have := Z0.out; omega)
                        have HL727 : Hid (LiesQ W719 (Par w V0.heap.size (W26.heap.size :: []) P) g.h.kids _) := par_set (HL661.out.later (kept_trans Kk675.out (kept_trans Kk684.out (kept_trans Kk693.out (kept_trans Kk702.out (kept_trans Kk708.out Kk718.out)))))) hW719 (List.mem_cons_self ..) (by have := HG655.out; have := Z0.out; omega)
                        have HL728 : Hid (LiesQ W719 (Par w V0.heap.size (W26.heap.size :: []) P) h.a.kids _) := par_set (HL662.out.later (kept_trans Kk675.out (kept_trans Kk684.out (kept_trans Kk693.out (kept_trans Kk702.out (kept_trans Kk708.out Kk718.out)))))) hW719 (List.mem_cons_self ..) (by have := HG655.out; have := Z0.out; omega)
                        have HL729 : Hid (LiesQ W719 (Par w V0.heap.size (W26.heap.size :: []) P) h.b.kids _) := par_set (HL663.out.later (kept_trans Kk675.out (kept_trans Kk684.out (kept_trans Kk693.out (kept_trans Kk702.out (kept_trans Kk708.out Kk718.out)))))) hW719 (List.mem_cons_self ..) (by have := HG655.out; have := Z0.out; omega)
                        have HL730 : Hid (LiesQ W719 (Par w V0.heap.size (W26.heap.size :: []) P) h.x.kids _) := par_set (HL664.out.later (kept_trans Kk675.out (kept_trans Kk684.out (kept_trans Kk693.out (kept_trans Kk702.out (kept_trans Kk708.out Kk718.out)))))) hW719 (List.mem_cons_self ..) (by have := HG655.out; have := Z0.out; omega)
                        have HL731 : Hid (LiesQ W719 (Par w V0.heap.size (W26.heap.size :: []) P) h.y.kids _) := par_set (HL665.out.later (kept_trans Kk675.out (kept_trans Kk684.out (kept_trans Kk693.out (kept_trans Kk702.out (kept_trans Kk708.out Kk718.out)))))) hW719 (List.mem_cons_self ..) (by have := HG655.out; have := Z0.out; omega)
                        have HL732 : Hid (LiesQ W719 (Par w V0.heap.size (W26.heap.size :: []) P) h.h.kids _) := par_set (HL666.out.later (kept_trans Kk675.out (kept_trans Kk684.out (kept_trans Kk693.out (kept_trans Kk702.out (kept_trans Kk708.out Kk718.out)))))) hW719 (List.mem_cons_self ..) (by have := HG655.out; have := Z0.out; omega)
                        have HL733 : Hid (LiesQ W719 (Par w V0.heap.size (W26.heap.size :: []) P) U674.kids _) := par_set (Hhl670.out.later (kept_trans Kk684.out (kept_trans Kk693.out (kept_trans Kk702.out (kept_trans Kk708.out Kk718.out))))) hW719 (List.mem_cons_self ..) (by have := HG655.out; have := Z0.out; omega)
                        have HL734 : Hid (LiesQ W719 (Par w V0.heap.size (W26.heap.size :: []) P) U683.kids _) := par_set (Hhl679.out.later (kept_trans Kk693.out (kept_trans Kk702.out (kept_trans Kk708.out Kk718.out)))) hW719 (List.mem_cons_self ..) (by have := HG655.out; have := Z0.out; omega)
                        have HL735 : Hid (LiesQ W719 (Par w V0.heap.size (W26.heap.size :: []) P) U692.kids _) := par_set (Hhl688.out.later (kept_trans Kk702.out (kept_trans Kk708.out Kk718.out))) hW719 (List.mem_cons_self ..) (by have := HG655.out; have := Z0.out; omega)
                        have HL736 : Hid (LiesQ W719 (Par w V0.heap.size (W26.heap.size :: []) P) U701.kids _) := par_set (Hhl697.out.later (kept_trans Kk708.out Kk718.out)) hW719 (List.mem_cons_self ..) (by have := HG655.out; have := Z0.out; omega)
                        have HL737 : Hid (LiesQ W719 (Par w V0.heap.size (W26.heap.size :: []) P) [U674, U683, U692, U701, g.h, h.h] _) := par_set (HR709.out.later Kk718.out) hW719 (List.mem_cons_self ..) (by have := HG655.out; have := Z0.out; omega)
                        have HL738 : Hid (LiesQ W719 (Par w V0.heap.size (W26.heap.size :: []) P) U717.kids _) := par_set Hhl713.out hW719 (List.mem_cons_self ..) (by have := HG655.out; have := Z0.out; omega)
                        have XL739 := Lib.hid (xlt_set (xlt_later XL656.out (kept_trans Kk675.out (kept_trans Kk684.out (kept_trans Kk693.out (kept_trans Kk702.out (kept_trans Kk708.out Kk718.out)))))) hW719)
                        have HX740 := Lib.hid (blk_same (blk_at Hx651.out (kept_trans Kk675.out (kept_trans Kk684.out (kept_trans Kk693.out (kept_trans Kk702.out (kept_trans Kk708.out Kk718.out)))))) hW719)
                        clear hW719
                        clear hHeld
                        refine hK.out _ _ ?_ (fun hHeld => ?_)
                        · (try dsimp only)
                          exact sees_kept _ KB722.out
                        clear hK K
                        (try simp only [Act.put])
                        refine wpAnyH_done (by kernel_rfl) ?_ _
                        clear hHeld
                        have kvV0 : Sees V0 (w.heap.size + 2) W719 := sees_kept _ KB721.out
                        have kvW719 : Sees W719 (w.heap.size + 2) W719 := sees_kept _ (kept_refl _)
                        go_wp2_with (refine stop_load 32 (.tmp 54) rfl ?_)
                        intro _
                        refine wpList_load_part (w.heap.size) 1 32 (.tmp 54) #[.int .i64 g.a.k, .int .i64 g.a.i, .int .i64 g.a.j, .int .i64 g.a.n, (.slice aga g.a.kids.length cga)] du (blk_at Hx1.out KB721.out) (by rfl) rfl (by rfl) (by rfl) hu1 (by cases du <;> first | rfl | exact hu2) size_term ?_
                        go_wp2_with (refine stop_load 32 (.tmp 56) rfl ?_)
                        intro _
                        refine wpList_load_part (w.heap.size + 1) 6 32 (.tmp 56) #[.int .i64 h.b.k, .int .i64 h.b.i, .int .i64 h.b.j, .int .i64 h.b.n, (.slice ahb h.b.kids.length chb)] du (blk_at Hx2.out KB721.out) (by rfl) rfl (by rfl) (by rfl) hu1 (by cases du <;> first | rfl | exact hu2) size_term ?_
                        go_wp2_with (refine stop_load 32 (.tmp 58) rfl ?_)
                        intro _
                        refine wpList_load_part (w.heap.size) 11 32 (.tmp 58) #[.int .i64 g.x.k, .int .i64 g.x.i, .int .i64 g.x.j, .int .i64 g.x.n, (.slice agx g.x.kids.length cgx)] du (blk_at Hx1.out KB721.out) (by rfl) rfl (by rfl) (by rfl) hu1 (by cases du <;> first | rfl | exact hu2) size_term ?_
                        go_wp2_with (refine stop_load 32 (.tmp 60) rfl ?_)
                        intro _
                        refine wpList_load_part (w.heap.size + 1) 16 32 (.tmp 60) #[.int .i64 h.y.k, .int .i64 h.y.i, .int .i64 h.y.j, .int .i64 h.y.n, (.slice ahy h.y.kids.length chy)] du (blk_at Hx2.out KB721.out) (by rfl) rfl (by rfl) (by rfl) hu1 (by cases du <;> first | rfl | exact hu2) size_term ?_
                        go_wp2_with (refine stop_load 32 (.tmp 6) rfl ?_)
                        intro _
                        refine wpList_load_part (W26.heap.size) 0 32 (.tmp 6) #[.int .i64 U717.k, .int .i64 U717.i, .int .i64 U717.j, .int .i64 U717.n, (.slice a714 U717.kids.length c715)] du HX740.out (by rfl) rfl (by rfl) (by rfl) hu1 (by cases du <;> first | rfl | exact hu2) size_term ?_
                        go_wp2_with fail
                        clear kvV0
                        clear kvW719
                        refine (hfresh_any (⟨g.i, g.a, h.b, g.x, h.y, U717⟩ : He) (Par w V0.heap.size (W26.heap.size :: []) P) _ (.slice aga g.a.kids.length cga) (.slice ahb h.b.kids.length chb) (.slice agx g.x.kids.length cgx) (.slice ahy h.y.kids.length chy) (.slice a714 U717.kids.length c715) ⟨Gg.out.1, Gg.out.2.1, Gh.out.2.2.1, Gg.out.2.2.2.1, Gh.out.2.2.2.2.1, (by rw [← HU717.out]; exact (use_fine (show I64 4 from by unfold I64; decide) (lev_succ (heR_lev Hhb11.out) (by decide)) (by unfold I64; decide)))⟩ ⟨HL723.out, HL729.out, HL725.out, HL731.out, HL738.out⟩ (heR_pl Hhb11.out _ (by simp)) (heR_pl Hhb19.out _ (by simp)) (heR_pl Hhb11.out _ (by simp)) (heR_pl Hhb19.out _ (by simp))).mono ?_
                        obtain ⟨U743, hU743⟩ : ∃ qu, (⟨g.i, g.a, h.b, g.x, h.y, U717⟩ : He) = qu := ⟨_, rfl⟩
                        rw [hU743]
                        have HU743 := Lib.hid hU743
                        clear hU743
                        rintro e w741 ⟨s744, s745, s746, s747, s748, rfl, ⟨hl749, hl750, hl751, hl752, hl753⟩, k742⟩
                        obtain ⟨a754, c755, S756, rfl, -⟩ := hl749.out
                        obtain ⟨a757, c758, S759, rfl, -⟩ := hl750.out
                        obtain ⟨a760, c761, S762, rfl, -⟩ := hl751.out
                        obtain ⟨a763, c764, S765, rfl, -⟩ := hl752.out
                        obtain ⟨a766, c767, S768, rfl, -⟩ := hl753.out
                        have Kk769 := Lib.hid k742
                        clear k742
                        have Hhl749 : Hid (LiesQ w741 (Par w V0.heap.size (W26.heap.size :: []) P) U743.a.kids _) := par_give hl749 (Below.size KB721.out) XL739.out
                        have Hhl750 : Hid (LiesQ w741 (Par w V0.heap.size (W26.heap.size :: []) P) U743.b.kids _) := par_give hl750 (Below.size KB721.out) XL739.out
                        have Hhl751 : Hid (LiesQ w741 (Par w V0.heap.size (W26.heap.size :: []) P) U743.x.kids _) := par_give hl751 (Below.size KB721.out) XL739.out
                        have Hhl752 : Hid (LiesQ w741 (Par w V0.heap.size (W26.heap.size :: []) P) U743.y.kids _) := par_give hl752 (Below.size KB721.out) XL739.out
                        have Hhl753 : Hid (LiesQ w741 (Par w V0.heap.size (W26.heap.size :: []) P) U743.h.kids _) := par_give hl753 (Below.size KB721.out) XL739.out
                        clear hl749 hl750 hl751 hl752 hl753
                        have kvV0 : Sees V0 (w.heap.size + 2) w741 := sees_kept _ (kept_trans KB721.out Kk769.out)
                        have kvW719 : Sees W719 (w.heap.size + 2) w741 := sees_kept _ Kk769.out
                        go_wp2_with (refine stop_store 51 (.tmp 4) (.tmp 64) rfl ?_)
                        intro _
                        refine wpList_store_part_n (by rfl) 51 (.tmp 4) (.tmp 64) rfl (w.heap.size + 2) 0 #[.int .i64 U743.i, .int .i64 U743.a.k, .int .i64 U743.a.i, .int .i64 U743.a.j, .int .i64 U743.a.n, (.slice a754 U743.a.kids.length c755), .int .i64 U743.b.k, .int .i64 U743.b.i, .int .i64 U743.b.j, .int .i64 U743.b.n, (.slice a757 U743.b.kids.length c758), .int .i64 U743.x.k, .int .i64 U743.x.i, .int .i64 U743.x.j, .int .i64 U743.x.n, (.slice a760 U743.x.kids.length c761), .int .i64 U743.y.k, .int .i64 U743.y.i, .int .i64 U743.y.j, .int .i64 U743.y.n, (.slice a763 U743.y.kids.length c764), .int .i64 U743.h.k, .int .i64 U743.h.i, .int .i64 U743.h.j, .int .i64 U743.h.n, (.slice a766 U743.h.kids.length c767)] (by rfl) (by rfl) 51 (by kernel_rfl) (row_ok rfl) ?_
                        intro W770 hW770
                        clear kvV0
                        clear kvW719
                        subst hW770
                        refine ⟨_, #[.int .i64 U743.i, .int .i64 U743.a.k, .int .i64 U743.a.i, .int .i64 U743.a.j, .int .i64 U743.a.n, (.slice a754 U743.a.kids.length c755), .int .i64 U743.b.k, .int .i64 U743.b.i, .int .i64 U743.b.j, .int .i64 U743.b.n, (.slice a757 U743.b.kids.length c758), .int .i64 U743.x.k, .int .i64 U743.x.i, .int .i64 U743.x.j, .int .i64 U743.x.n, (.slice a760 U743.x.kids.length c761), .int .i64 U743.y.k, .int .i64 U743.y.i, .int .i64 U743.y.j, .int .i64 U743.y.n, (.slice a763 U743.y.kids.length c764), .int .i64 U743.h.k, .int .i64 U743.h.i, .int .i64 U743.h.j, .int .i64 U743.h.n, (.slice a766 U743.h.kids.length c767)], (blk_at Hx3.out (kept_trans KB721.out Kk769.out)), rfl, Nat.le_of_ble_eq_true rfl, ?_⟩
                        intro W771 hW771
                        go_wp2_with fail
                        refine bodyPost_ret (results_cell_row rfl _ _ (w.heap.size + 2) 51 _ _ dh rfl (blk_same (blk_at Hx3.out (kept_trans KB721.out Kk769.out)) hW771) dh1 (by cases dh <;> first | rfl | exact dh2) (by kernel_rfl)) rfl ?_
                        rw [show heThen g h = U743 from by unfold heThen; rw [Hhb11.out, Hhb19.out, Ec25.out]; rw [← HU743.out]; rw [← HU717.out]; rw [← HU701.out]; rw [← HU692.out]; rw [← HU683.out]; rw [← HU674.out]; (try rfl)]
                        exact ⟨_, _, _, _, _, rfl, ⟨par_end (par_row' Hhl749.out hW771 (by omega) (by have := Z0.out; omega)) (by have := Z0.out; omega), par_end (par_row' Hhl750.out hW771 (by omega) (by have := Z0.out; omega)) (by have := Z0.out; omega), par_end (par_row' Hhl751.out hW771 (by omega) (by have := Z0.out; omega)) (by have := Z0.out; omega), par_end (par_row' Hhl752.out hW771 (by omega) (by have := Z0.out; omega)) (by have := Z0.out; omega), par_end (par_row' Hhl753.out hW771 (by omega) (by have := Z0.out; omega)) (by have := Z0.out; omega)⟩, kept_set (kept_trans KB720.out Kk769.out) hW771 (by omega)⟩
                      exact AllReadyH.nil
                    exact AllReadyH.nil
                  exact AllReadyH.nil
                exact AllReadyH.nil
              exact AllReadyH.nil
            exact AllReadyH.nil
          exact AllReadyH.nil
        exact AllReadyH.nil
      · have ec25 : (g.i == h.i) = false := beq_eq_false_iff_ne.2 c25
        have fc25 : (g.i != h.i) = true := by rw [bne, ec25]; rfl
        have Ec25 := Lib.hid ec25
        have Hc25 := Lib.hid c25
        clear c25
        go_wp2_with (refine stop_store 51 (.tmp 4) (.tmp 22) rfl ?_)
        intro _
        refine wpList_store_part_n (by rfl) 51 (.tmp 4) (.tmp 22) rfl (w.heap.size + 2) 0 #[.int .i64 0, .int .i64 0, .int .i64 0, .int .i64 0, .int .i64 0, .slice none 0 0, .int .i64 0, .int .i64 0, .int .i64 0, .int .i64 0, .slice none 0 0, .int .i64 0, .int .i64 0, .int .i64 0, .int .i64 0, .slice none 0 0, .int .i64 0, .int .i64 0, .int .i64 0, .int .i64 0, .slice none 0 0, .int .i64 0, .int .i64 0, .int .i64 0, .int .i64 0, .slice none 0 0] (by rfl) (by rfl) 51 (by kernel_rfl) (row_ok rfl) ?_
        intro W772 hW772
        clear kvV0
        subst hW772
        refine ⟨_, #[.int .i64 0, .int .i64 0, .int .i64 0, .int .i64 0, .int .i64 0, .slice none 0 0, .int .i64 0, .int .i64 0, .int .i64 0, .int .i64 0, .slice none 0 0, .int .i64 0, .int .i64 0, .int .i64 0, .int .i64 0, .slice none 0 0, .int .i64 0, .int .i64 0, .int .i64 0, .int .i64 0, .slice none 0 0, .int .i64 0, .int .i64 0, .int .i64 0, .int .i64 0, .slice none 0 0], (blk_at Hx3.out (kept_trans Kk13.out Kk21.out)), rfl, Nat.le_of_ble_eq_true rfl, ?_⟩
        intro W773 hW773
        go_wp2_with fail
        refine bodyPost_ret (results_cell_row rfl _ _ (w.heap.size + 2) 51 _ _ dh rfl (blk_same (blk_at Hx3.out (kept_trans Kk13.out Kk21.out)) hW773) dh1 (by cases dh <;> first | rfl | exact dh2) (by kernel_rfl)) rfl ?_
        rw [show heThen g h = (⟨0, (.mk 0 0 0 0 []), (.mk 0 0 0 0 []), (.mk 0 0 0 0 []), (.mk 0 0 0 0 []), (.mk 0 0 0 0 [])⟩ : He) from by unfold heThen; rw [Hhb11.out, Hhb19.out, Ec25.out]; (try rfl)]
        exact ⟨_, _, _, _, _, rfl, ⟨par_end (par_row' (liesQ_nil w17 (Par w V0.heap.size [] P)) hW773 (by omega) (by have := Z0.out; omega)) (by have := Z0.out; omega), par_end (par_row' (liesQ_nil w17 (Par w V0.heap.size [] P)) hW773 (by omega) (by have := Z0.out; omega)) (by have := Z0.out; omega), par_end (par_row' (liesQ_nil w17 (Par w V0.heap.size [] P)) hW773 (by omega) (by have := Z0.out; omega)) (by have := Z0.out; omega), par_end (par_row' (liesQ_nil w17 (Par w V0.heap.size [] P)) hW773 (by omega) (by have := Z0.out; omega)) (by have := Z0.out; omega), par_end (par_row' (liesQ_nil w17 (Par w V0.heap.size [] P)) hW773 (by omega) (by have := Z0.out; omega)) (by have := Z0.out; omega)⟩, kept_set (kept_trans Kk6.out (kept_trans Kk13.out Kk21.out)) hW773 (by omega)⟩

end Go.Proofs.Ytkdceahmknhojaa
