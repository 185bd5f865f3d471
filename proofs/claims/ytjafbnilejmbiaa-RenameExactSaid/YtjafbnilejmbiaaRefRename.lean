/-
  The page's own rename.
-/
import Derived.Test.YtjafbnilejmbiaaEnds
import Derived.Test.YtjafbnilejmbiaaInts
import Derived.Test.YtjafbnilejmbiaaRefKids
import Derived.Deep.RegionHeld3
namespace Go.Proofs.Ytjafbnilejmbiaa
open Go.RowKit

theorem desk_two (w : World) (t : Tm) (r : Int) (s : Value) (h : t.k = 2) : Desk w t (.mk 2 r t.j t.n []) s (.slice none 0 0) (((w.alloc (.cells #[.int .i64 t.k, .int .i64 t.i, .int .i64 t.j, .int .i64 t.n, s] 24)).alloc (.cells #[.int .i64 0, .int .i64 0, .int .i64 0, .int .i64 0, .slice none 0 0] 24)).alloc (.cells #[.int .i64 t.k, .int .i64 r, .int .i64 t.j, .int .i64 t.n, .slice none 0 0] 24)) := by
  have := desk_start w t (.mk t.k r t.j t.n []) s (.slice none 0 0)
  rw [h] at this ⊢
  exact this

set_option maxRecDepth 20000 in
set_option maxHeartbeats 1000000 in
theorem rename_any' (to : List Int) (ta : Option Addr) (tcap : Nat) (hgood : goodTo to = true) (t : Tm) : ∀ (b : Int) (u : Tm) (w : World) (s : Value), Lies w t.kids s → t.rightB = true → 0 ≤ b → b + 2 * t.deep ≤ 1000000 → LiesI w to (.slice ta to.length tcap) → t.each (renF to) b = some u →
    Calls Try.prog 92 #[tv t s, .slice ta to.length tcap, .int .i64 b] w (Makes u w) := by
  induction t using Tm.ind with
  | h t ih =>
    intro b u w s hl hr hb hd hti hu
    obtain ⟨a, cap, S, rfl, hc, hm, hf, hn, hkk⟩ := hl.out
    have hlen := right_len hr
    have hde := t.deep_eq
    unfold tv
    unfold maxLen at hm
    obtain ⟨du, hu1, hu2⟩ := under_term
    by_cases hk2 : t.k = 2
    · have e2 : (t.k == 2) = true := by simpa using hk2
      have hv := t.right_var hr hk2
      have hnil : t.kids = [] := (sorts_two (t.right_node hr) (by omega)).2
      have h1 : t.kids.length < 1 := by rw [hnil]; exact Nat.zero_lt_one
      have heq := right_var_eq hr hk2
      have hj : t.j = 0 ∧ t.n = 0 := ⟨congrArg Tm.j heq, congrArg Tm.n heq⟩
      have HJ := Lib.hid hj
      have HK2 := Lib.hid hk2
      rw [Tm.each_var _ _ _ hk2] at hu
      simp only [Option.map_eq_some_iff] at hu
      obtain ⟨r, hr2, rfl⟩ := hu
      unfold renF at hr2
      clear hnil hk2 ih hn hkk hf hl hj heq hde
      by_cases hci : t.i < b
      · have e3 : decide (b ≤ t.i) = false := decide_eq_false (by omega)
        rw [if_pos hci] at hr2
        obtain rfl := Option.some.inj hr2
        clear hr2 hci
        go_enter Try.func92, Try.ntmps92
        go_wp2_with fail
        go_loopw [8, 9] (fun v i wr => v = .slice none 0 0 ∧ i = .int .i64 0 ∧ Desk w t (.mk 2 t.i t.j t.n []) (.slice a t.kids.length cap) (.slice none 0 0) wr) (fun _ _ _ => 0)
        case atStart => exact ⟨rfl, rfl, desk_two w t t.i (.slice a t.kids.length cap) HK2.out⟩
        case round =>
          obtain ⟨rfl, rfl, hdk⟩ := hrel
          obtain ⟨q0, q1, q2⟩ := desk_blocks hdk
          obtain ⟨d0, d1, d2, d3, d4⟩ := five_cells q0
          obtain ⟨f0, f1, f2, f3, f4⟩ := five_free q2
          obtain ⟨y0, y1, y2, y3, y4⟩ := five_cells q2
          obtain ⟨z0, z1, z2, z3, z4⟩ := five_cells q1
          obtain ⟨g0, g1, g2, g3, g4⟩ := five_free q1
          have hd2 := desk_set (v' := .slice none 0 0) hdk
          obtain ⟨-, q1', -⟩ := desk_blocks hd2
          clear q0 q1 q2
          go_wp2
          (try simp only [Exit.inBlock, Exit.then])
          refine bodyPost_ret (results_cell_row rfl _ _ (w.heap.size + 1) _ _ _ du rfl (five_set q1') hu1 (by cases du <;> first | rfl | exact hu2) size_term) rfl ?_
          refine ⟨.slice none 0 0, ?_, liesP_nil _ _, below_five (desk_under hd2) (by omega) _ _ _ _ _⟩
          rw [HJ.out.1, HJ.out.2]
      · have e3 : decide (b ≤ t.i) = true := decide_eq_true (by omega)
        rw [if_neg hci] at hr2
        simp only [Option.map_eq_some_iff] at hr2
        obtain ⟨x, hx, rfl⟩ := hr2
        obtain ⟨n, hn⟩ : ∃ n : Nat, t.i - b = n := ⟨(t.i - b).toNat, by omega⟩
        have hin : t.i = n + b := by omega
        rw [hn] at hx
        simp only [Int.toNat_natCast] at hx
        obtain ⟨hlt, hget⟩ := List.getElem?_eq_some_iff.1 hx
        have hrg := goodTo_get hgood hx
        obtain ⟨a9, cap9, hs9, hc9, hm9, hnn9⟩ := hti.out
        obtain ⟨b9, o9, ha9, hcell9⟩ := hnn9 n hlt
        simp only [Value.slice.injEq] at hs9
        obtain ⟨rfl, -, rfl⟩ := hs9
        subst ha9
        rw [hget] at hcell9
        unfold maxLen at hm9
        have hcell : ∀ o1 o2 o3, (((w.alloc o1).alloc o2).alloc o3).cell? ⟨b9, o9 + n, none⟩ = some (.int .i64 x) := fun o1 o2 o3 => cell_lat (below_three w o1 o2 o3) hcell9
        clear hx hnn9 hget hci hti hgood hr hin
        go_enter Try.func92, Try.ntmps92
        go_wp2_with fail
        go_loopw [8, 9] (fun v i wr => v = .slice none 0 0 ∧ i = .int .i64 0 ∧ Desk w t (.mk 2 (x + b) t.j t.n []) (.slice a t.kids.length cap) (.slice none 0 0) wr) (fun _ _ _ => 0)
        case atStart => exact ⟨rfl, rfl, desk_two w t (x + b) (.slice a t.kids.length cap) HK2.out⟩
        case round =>
          obtain ⟨rfl, rfl, hdk⟩ := hrel
          obtain ⟨q0, q1, q2⟩ := desk_blocks hdk
          obtain ⟨d0, d1, d2, d3, d4⟩ := five_cells q0
          obtain ⟨f0, f1, f2, f3, f4⟩ := five_free q2
          obtain ⟨y0, y1, y2, y3, y4⟩ := five_cells q2
          obtain ⟨z0, z1, z2, z3, z4⟩ := five_cells q1
          obtain ⟨g0, g1, g2, g3, g4⟩ := five_free q1
          have hd2 := desk_set (v' := .slice none 0 0) hdk
          obtain ⟨-, q1', -⟩ := desk_blocks hd2
          clear q0 q1 q2
          go_wp2
          (try simp only [Exit.inBlock, Exit.then])
          refine bodyPost_ret (results_cell_row rfl _ _ (w.heap.size + 1) _ _ _ du rfl (five_set q1') hu1 (by cases du <;> first | rfl | exact hu2) size_term) rfl ?_
          refine ⟨.slice none 0 0, ?_, liesP_nil _ _, below_five (desk_under hd2) (by omega) _ _ _ _ _⟩
          rw [HJ.out.1, HJ.out.2]
    · have e2 : (t.k == 2) = false := by simpa using hk2
      rw [Tm.each_node _ _ _ hk2] at hu
      simp only [Option.map_eq_some_iff] at hu
      obtain ⟨m, hm2, rfl⟩ := hu
      have hml := optK_length hm2
      have hget := fun q h h' => optK_get hm2 q h h'
      have HML := Lib.hid hml
      have HGET := Lib.hid hget
      have HRK := Lib.hid (t.right_kids hr)
      have IH := Lib.hid ih
      have HN := Lib.hid hn
      have HK := Lib.hid hkk
      have HDE := Lib.hid hde
      have hd0 := desk_start w t t (.slice a t.kids.length cap) (.slice none 0 0)
      clear hk2 ih hn hkk hf hr hl hm2 hml hget hde
      obtain ⟨i0, hi, hz0, hz1, hz2⟩ := info_parts info_term
      have HI := Lib.hid (And.intro hi (And.intro hz0 (And.intro hz1 hz2)))
      clear hi hz0 hz1 hz2
      go_enter Try.func92, Try.ntmps92
      go_wp2_with fail
      go_loopw [8, 9] (fun v i wr => ∃ (q : Nat) (ps : List (Tm × Value)) (vv : Value), vv = v ∧ q ≤ t.kids.length ∧ i = .int .i64 q ∧ Hid (ps.map (·.1) = m.take q) ∧ Made (w.heap.size + 3) wr v ps ∧ Desk w t t (.slice a t.kids.length cap) (.slice none 0 0) wr) (fun _ i _ => t.kids.length - (intOf i).toNat)
      case atStart => exact ⟨0, [], _, rfl, Nat.zero_le _, rfl, by simp [Hid], made_nil _ _, hd0⟩
      case round =>
        clear hd0
        obtain ⟨q, ps, vv, rfl, hq0, rfl, hps, hmade, hdk⟩ := hrel
        have HPS := Lib.hid hps.out
        clear hps
        obtain ⟨q0, q1, q2⟩ := desk_blocks hdk
        obtain ⟨d0, d1, d2, d3, d4⟩ := five_cells q0
        obtain ⟨y0, y1, y2, y3, y4⟩ := five_cells q2
        obtain ⟨f0, f1, f2, f3, f4⟩ := five_free q2
        obtain ⟨z0, z1, z2, z3, z4⟩ := five_cells q1
        obtain ⟨g0, g1, g2, g3, g4⟩ := five_free q1
        have hsz := desk_size hdk
        clear q0 q2
        by_cases hlt : q < t.kids.length
        · obtain ⟨b', o, rfl, hx⟩ := HN.out q hlt
          have hq := HK.out q hlt
          obtain ⟨a', cap', S', hS, -⟩ := hq.out
          rw [hS] at hx hq
          have HM := Lib.hid (List.getElem_mem hlt)
          have hbd := binds_range t.k q
          have hdq := deeps_get t.kids q hlt
          rw [HDE.out] at hd
          have hltm : q < m.length := by rw [HML.out]; exact hlt
          obtain ⟨x, hxm⟩ : ∃ x, m[q] = x := ⟨_, rfl⟩
          have hxe := HGET.out q hlt hltm
          rw [hxm, Nat.zero_add] at hxe
          have hfx := ren_fine hgood (HRK.out _ HM.out) (by omega) (by omega) hxe
          have HFX := Lib.hid hfx
          have HXM := Lib.hid hxm
          have hpl : ps.length = q := by have := congrArg List.length HPS.out; simp at this; omega
          have HPL := Lib.hid hpl
          have HMD := Lib.hid hmade
          have hsum : IntKind.i64.wrap (b + bindsN t.k q) = b + bindsN t.k q := IntWalk.i64_in _ (by omega)
          have CALL := Lib.hid (IH.out _ HM.out (b + bindsN t.k q) x wr.drew _ (hq.keep ((desk_under hdk).trans (Below.refl _ _).drew)) (HRK.out _ HM.out) (by omega) (by omega) (hti.keep ((desk_under hdk).trans (Below.refl _ _).drew)) hxe)
          have hnode := hx
          obtain ⟨c0, c1, c2, c3, c4⟩ := hx.below (desk_under hdk) hx.lt
          clear hS hq hx hpl hmade hxe hd hdq hbd hfx hxm
          go_wp2_with fail
          go_region_held3 (fun w' => Desk w t t (.slice (some ⟨b', o, none⟩) t.kids.length cap) (.slice none 0 0) w' ∧ w'.cell? ⟨w.heap.size, 0, none⟩ = some (.int .i64 t.k) ∧ w'.cell? ⟨w.heap.size, 4, none⟩ = some (.slice (some ⟨b', o, none⟩) t.kids.length cap) ∧ w'.cell? ⟨b', o + q * 5, none⟩ = some (.int .i64 t.kids[q].k) ∧ w'.cell? ⟨b', o + q * 5 + 1, none⟩ = some (.int .i64 t.kids[q].i) ∧ w'.cell? ⟨b', o + q * 5 + 2, none⟩ = some (.int .i64 t.kids[q].j) ∧ w'.cell? ⟨b', o + q * 5 + 3, none⟩ = some (.int .i64 t.kids[q].n) ∧ w'.cell? ⟨b', o + q * 5 + 4, none⟩ = some (.slice a' t.kids[q].kids.length cap'))
            (((with_reducible refine desk_and ?_ hnode); repeat (first | with_reducible assumption | with_reducible exact hdk | with_reducible refine desk_drew ?_ | with_reducible refine desk_alloc ?_ _)))
            (first | (go_at_call 49; refine (refbinds_any _ _ _).mono ?_; rintro e w' ⟨rfl, rfl⟩) | (go_at_call 92; ((with_reducible refine Calls.mono CALL.out ?_); rintro e wn ⟨s2, rfl, hl2, hbn⟩; obtain ⟨a2, cap2, rfl, -, -⟩ := hl2.out; have HL2 := Lib.hid hl2; have HB2 := Lib.hid hbn; have hd2 := desk_later (desk_drew hdk) hbn; clear hl2 hbn)) | (refine step_append_lies _ rfl _ _ 22 rfl (w.heap.size + 3) 24 i0 _ 5 56 (by kernel_rfl) HI.out.1 HI.out.2.1 HI.out.2.2.1 HI.out.2.2.2 rfl (by decide) _ ps.length (cells5 ps) rfl (made_later (made_later (made_later HMD.out (Below.refl _ _).drew) HB2.out) ((Below.refl _ _).alloc (Nat.le_refl _) _)).own ⟨wn.heap.size, 0, none⟩ 1 1 (cells5 [(x, .slice a2 x.kids.length cap2)]) rfl rfl (news_new _ _ _ _) (one5 _ _) (by decide) (by have := HPL.out; unfold maxLen; omega) (by have := HPL.out; omega) (by have := desk_size hd2; simp; omega) _ rfl ?_; intro g cap3 w3 hown hgrow hat _; have hpb := push_once (desk_drew hdk) (made_later HMD.out (Below.refl _ _).drew) HFX.out HB2.out HL2.out _ hown hgrow hat; have HPB := Lib.hid hpb.1; have hd3 := hpb.2; clear hpb hown hgrow hat))
          go_wp2_with fail
          go_roundw
          case rel => exact ⟨q + 1, ps ++ [(x, .slice a2 x.kids.length cap2)], _, rfl, hlt, by go_num, by rw [Hid, List.map_append, HPS.out, List.take_succ_eq_append_getElem (by rw [HML.out]; exact hlt), HXM.out]; rfl, HPB.out, hd3⟩
          case measure => simp [intOf]; omega
        · have : q = t.kids.length := by omega
          subst this
          have hd2 := desk_set (v' := vv) hdk
          have hres : m = ps.map (·.1) := by
            have := HPS.out
            rw [← HML.out, List.take_length] at this
            exact this.symm
          obtain ⟨-, q1', -⟩ := desk_blocks hd2
          have hll := made_lies hmade
          obtain ⟨a2, cap2, rfl, -, -⟩ := hll.out
          have hlm : m.length = ps.length := by rw [hres, List.length_map]
          simp only [List.length_map] at hd2 q1' hll
          rw [← hres] at hll
          have HLM := Lib.hid hlm
          clear hres hlm
          go_wp2
          (try simp only [Exit.inBlock, Exit.then])
          refine bodyPost_ret (results_cell_row rfl _ _ (w.heap.size + 1) _ _ _ du rfl (five_set q1') hu1 (by cases du <;> first | rfl | exact hu2) size_term) rfl ?_
          exact ⟨_, rfl, liesP_fives (liesP_set hll (by omega) (Nat.le_refl _) _) (by omega) (by omega) _ _ _ _ _, below_five (desk_under hd2) (by omega) _ _ _ _ _⟩
end Go.Proofs.Ytjafbnilejmbiaa
