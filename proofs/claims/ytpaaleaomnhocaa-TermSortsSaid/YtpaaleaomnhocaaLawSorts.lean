/-
  The walk of transhiplaw04.TermSorts.
-/
import Derived.Test.YtpaaleaomnhocaaWakes4
import Derived.Test.YtpaaleaomnhocaaHeld
import Derived.BigQuiet
import Derived.Lib.QuietBelow
namespace Go.Proofs.Ytpaaleaomnhocaa
open Go.RowKit

theorem both_kind {x : Tm} (h : x.plainB = true) : x.markedB = (x.k == 1 || x.k == 2) := by
  have hp := h
  rw [Tm.plainB_eq] at hp
  simp only [Bool.and_eq_true, Bool.or_eq_true, beq_iff_eq, decide_eq_true_eq] at hp
  by_cases h2 : x.k ≤ 2
  · have hs := (sorts_two hp.2.1 h2).1
    have hk : x.k = 1 ∨ x.k = 2 := by omega
    have hm : x.markedB = true := by
      cases hm : x.markedB with
      | true => rfl
      | false => simp [Tm.sortsN, hm, h] at hs
    rw [hm]; rcases hk with e | e <;> simp [e]
  · have hm : x.markedB = false := by rw [Tm.markedB_eq]; simp; omega
    have e1 : (x.k == 1) = false := by simp; omega
    have e2 : (x.k == 2) = false := by simp; omega
    rw [hm, e1, e2]; rfl

theorem plains_get {l : List Tm} (h : plains l = true) (k : Nat) (hk : k < l.length) : (l[k]).plainB = true := plains_mem h _ (List.getElem_mem hk)
theorem markeds_get {tr : Bool} {l : List Tm} (h : markeds tr 0 l = true) (k : Nat) (hk : k < l.length) : (l[k]).kidB tr k = true := by
  cases hb : (l[k]).kidB tr k with
  | true => rfl
  | false => rw [markeds_of tr l 0 k hk (by rw [Nat.zero_add]; exact hb)] at h; cases h

set_option maxRecDepth 100000 in
set_option maxHeartbeats 4000000 in
theorem termSorts_B (t : Tm) (w : World) (s : Value) (hl : Lies w t.kids s) (hm : t.markedB = true) (hp : t.plainB = false) : Calls Try.prog 6 #[tv t s] w fun e w' => e = .returned (.bool true) ∧ Below w.heap.size w w' := by
  obtain ⟨a, cap, S, rfl, hc, hmx, -, hn, hk⟩ := hl.out
  unfold maxLen at hmx
  unfold tv
  have HL := Lib.hid hl
  have HR : Hid (t.rightB = true) := by show _ = _; simp [Tm.rightB, hm, hp]
  have HMK := Lib.hid hm
  have HPK := Lib.hid hp
  have HN := Lib.hid hn
  have HK := Lib.hid hk
  have HML : Hid (markeds (t.k == 12) 0 t.kids = true) := by have h := hm; rw [Tm.markedB_eq] at h; simp only [Bool.and_eq_true] at h; exact h.2.2
  clear hl hn hk hm hp
  go_enter Try.func6, Try.ntmps6
  go_wp2_with fail
  refine (great_any t _ _ _ (held_lies (held_start _ _ _) HL.out) (by omega) (by omega)).mono ?_
  rintro e w1 ⟨g, rfl, hg, hb'⟩
  have H1 := held_call (held_start w t (.slice a t.kids.length cap)) hb'
  have HG := Lib.hid hg
  obtain ⟨d0, d1, d2, d3, d4⟩ := held_cells H1
  clear hg hb'
  cases g with
  | true =>
    go_wp2
    go_ret
    exact ⟨rfl, held_below H1⟩
  | false =>
    have hz := (HG.out rfl).1
    clear HG
    have k0 := cell_regrown d0
    have k1 := cell_regrown d1
    have k2 := cell_regrown d2
    have k3 := cell_regrown d3
    have k4 := cell_regrown d4
    have cM : ∀ d os, Calls Try.prog 33 #[tv t (.slice a t.kids.length cap)] (Go.Sort.grow (redrawn w1 d) os) fun e w'' => e = .returned (.bool true) ∧ ∃ p : Regrown, w'' = Go.Sort.grow (redrawn w1 p.d) p.os := fun d os => Calls.regrown_of ((marked_any t _ _ ((held_lies H1 HL.out).keep (below_regrown w1 d os))).mono fun e w' ⟨he, hb⟩ => ⟨by rw [he, HMK.out], hb⟩)
    have cP : ∀ d os, Calls Try.prog 37 #[tv t (.slice a t.kids.length cap)] (Go.Sort.grow (redrawn w1 d) os) fun e w'' => e = .returned (.bool false) ∧ ∃ p : Regrown, w'' = Go.Sort.grow (redrawn w1 p.d) p.os := fun d os => Calls.regrown_of ((plain_any t _ _ ((held_lies H1 HL.out).keep (below_regrown w1 d os))).mono fun e w' ⟨he, hb⟩ => ⟨by rw [he, HPK.out], hb⟩)
    go_wp2_with fail
    refine wp_region_quiet_below (by kernel_rfl) (by kernel_rfl) ?_
    repeat (any_goals (first | go_big_quiet_step (first | exact cM _ _ | exact cP _ _) | quiet_step (first | exact cM _ _ | exact cP _ _)))
    refine wpQuiet_nil ?_
    intro _ hw'
    obtain ⟨⟨dq, osq⟩, hw''⟩ := hw'
    subst hw''
    have hbq := below_regrown w1 dq osq
    generalize Go.Sort.grow (redrawn w1 dq) osq = w2 at hbq ⊢
    have H2 := held_call H1 hbq
    obtain ⟨x0, x1, x2, x3, x4⟩ := held_cells H2
    clear k0 k1 k2 k3 k4 cM cP d0 d1 d2 d3 d4 hbq H1
    have hkk : 2 < t.k := by
      have h := HMK.out
      rw [Tm.markedB_eq] at h
      simp only [Bool.and_eq_true, decide_eq_true_eq] at h
      by_cases h2 : 2 < t.k
      · exact h2
      · replace h2 : t.k ≤ 2 := by omega
        have h3 := (sorts_two h.2.1 h2).1
        simp [Tm.sortsN, HMK.out, HPK.out] at h3
    have e1 : (t.k == 1) = false := by simp; omega
    have e2 : (t.k == 2) = false := by simp; omega
    clear hkk
    have k0 := cell_regrown x0
    have k1 := cell_regrown x1
    have k2 := cell_regrown x2
    have k3 := cell_regrown x3
    have k4 := cell_regrown x4
    have cR : ∀ d os, Calls Try.prog 31 #[tv t (.slice a t.kids.length cap)] (Go.Sort.grow (redrawn w2 d) os) fun e w'' => e = .returned (.bool true) ∧ ∃ p : Regrown, w'' = Go.Sort.grow (redrawn w2 p.d) p.os := fun d os => Calls.regrown_of ((right_any t _ _ ((held_lies H2 HL.out).keep (below_regrown w2 d os))).mono fun e w' ⟨he, hb⟩ => ⟨by rw [he, HR.out], hb⟩)
    cases hpu : t.pureB
    · have cU : ∀ d os, Calls Try.prog 35 #[tv t (.slice a t.kids.length cap)] (Go.Sort.grow (redrawn w2 d) os) fun e w'' => e = .returned (.bool false) ∧ ∃ p : Regrown, w'' = Go.Sort.grow (redrawn w2 p.d) p.os := fun d os => Calls.regrown_of ((pure_any t _ _ ((held_lies H2 HL.out).keep (below_regrown w2 d os))).mono fun e w' ⟨he, hb⟩ => ⟨by rw [he, hpu], hb⟩)
      go_wp2_with fail
      refine wp_region_quiet_below (by kernel_rfl) (by kernel_rfl) ?_
      repeat (any_goals (first | go_big_quiet_step (first | exact cR _ _ | exact cU _ _) | quiet_step (first | exact cR _ _ | exact cU _ _)))
      refine wpQuiet_nil ?_
      intro _ hw'
      obtain ⟨⟨dq, osq⟩, hw''⟩ := hw'
      subst hw''
      have hbq := below_regrown w2 dq osq
      generalize Go.Sort.grow (redrawn w2 dq) osq = w3 at hbq ⊢
      have H3 := held_call H2 hbq
      obtain ⟨y0, y1, y2, y3, y4⟩ := held_cells H3
      clear k0 k1 k2 k3 k4 cR cU x0 x1 x2 x3 x4 hbq H2
      go_wp2
      go_loopw [5] (fun iv wr => ∃ k : Nat, k ≤ t.kids.length ∧ iv = .int .i64 k ∧ Held w t (.slice a t.kids.length cap) wr) (fun iv _ => t.kids.length - (intOf iv).toNat)
      case atStart => exact ⟨0, Nat.zero_le _, rfl, H3⟩
      case round =>
        obtain ⟨k, hk, rfl, hh⟩ := hrel
        obtain ⟨d0, d1, d2, d3, d4⟩ := held_cells hh
        by_cases hlt : k < t.kids.length
        · obtain ⟨b, o, rfl, hx⟩ := HN.out k hlt
          go_wp2_with fail
          refine (right_any t _ _ (held_lies hh HL.out)).mono ?_
          rintro e w4 ⟨rfl, hb4⟩
          rw [HR.out]
          have hh4 := held_call hh hb4
          obtain ⟨z0, z1, z2, z3, z4⟩ := held_cells hh4
          obtain ⟨c0, c1, c2, c3, c4⟩ := hx.below (held_below hh4) hx.lt
          have hq := (HK.out k hlt).keep (held_below hh4)
          obtain ⟨a', cap', S', hS, -⟩ := hq.out
          rw [hS] at c4 hq
          have HQ := Lib.hid hq
          have k0 := cell_regrown z0
          have k3 := cell_regrown z3
          have k4 := cell_regrown z4
          have l0 := cell_regrown c0
          have l1 := cell_regrown c1
          have l2 := cell_regrown c2
          have l3 := cell_regrown c3
          have l4 := cell_regrown c4
          clear hS hq d0 d1 d2 d3 d4 hb4 hh
          have hkk := Lib.hid (markeds_get HML.out k hlt)
          cases e12 : (t.k == 12) <;> cases e2i : ((k : Int) == 2)
          · have n12 : (t.k != 12) = true := by simp only [bne, e12]; rfl
            have n2 : ((k : Int) != 2) = true := by simp only [bne, e2i]; rfl
            have e2n : (k == 2) = false := by simp at e2i ⊢; omega
            have hkm : (t.kids[k]).markedB = true := by have h := hkk.out; simpa [Tm.kidB, e12, e2n] using h
            clear e2n
            have hkr : Hid ((t.kids[k]).rightB = true) := by show _ = _; simp [Tm.rightB, hkm]
            have cR : ∀ d os, Calls Try.prog 31 #[tv t.kids[k] (.slice a' t.kids[k].kids.length cap')] (Go.Sort.grow (redrawn w4 d) os) fun e w'' => e = .returned (.bool true) ∧ ∃ p : Regrown, w'' = Go.Sort.grow (redrawn w4 p.d) p.os := fun d os => Calls.regrown_of ((right_any t.kids[k] _ _ (HQ.out.keep (below_regrown w4 d os))).mono fun e w' ⟨he, hb⟩ => ⟨by rw [he, hkr.out], hb⟩)
            have cM : ∀ d os, Calls Try.prog 33 #[tv t.kids[k] (.slice a' t.kids[k].kids.length cap')] (Go.Sort.grow (redrawn w4 d) os) fun e w'' => e = .returned (.bool true) ∧ ∃ p : Regrown, w'' = Go.Sort.grow (redrawn w4 p.d) p.os := fun d os => Calls.regrown_of ((marked_any t.kids[k] _ _ (HQ.out.keep (below_regrown w4 d os))).mono fun e w' ⟨he, hb⟩ => ⟨by rw [he, hkm], hb⟩)
            clear hkr
            go_wp2_with fail
            refine wp_region_quiet_below (by kernel_rfl) (by kernel_rfl) ?_
            repeat (any_goals (first | go_big_quiet_step (first | exact cR _ _ | exact cM _ _) | quiet_step (first | exact cR _ _ | exact cM _ _)))
            refine wpQuiet_nil ?_
            intro _ hw'
            obtain ⟨⟨dq, osq⟩, hw''⟩ := hw'
            subst hw''
            have hbq := below_regrown w4 dq osq
            generalize Go.Sort.grow (redrawn w4 dq) osq = w5 at hbq ⊢
            have H5 := held_call hh4 hbq
            clear k0 k3 k4 l0 l1 l2 l3 l4 cR cM z0 z1 z2 z3 z4 c0 c1 c2 c3 c4 hbq hh4
            go_wp2
            go_roundw
            case rel => exact ⟨k + 1, by omega, by go_num, H5⟩
            case measure => simp [intOf]; omega
          · have n12 : (t.k != 12) = true := by simp only [bne, e12]; rfl
            have n2 : ((k : Int) != 2) = false := by simp only [bne, e2i]; rfl
            have e2n : (k == 2) = true := by simp at e2i ⊢; omega
            have hkm : (t.kids[k]).markedB = true := by have h := hkk.out; simpa [Tm.kidB, e12, e2n] using h
            clear e2n
            have hkr : Hid ((t.kids[k]).rightB = true) := by show _ = _; simp [Tm.rightB, hkm]
            have cR : ∀ d os, Calls Try.prog 31 #[tv t.kids[k] (.slice a' t.kids[k].kids.length cap')] (Go.Sort.grow (redrawn w4 d) os) fun e w'' => e = .returned (.bool true) ∧ ∃ p : Regrown, w'' = Go.Sort.grow (redrawn w4 p.d) p.os := fun d os => Calls.regrown_of ((right_any t.kids[k] _ _ (HQ.out.keep (below_regrown w4 d os))).mono fun e w' ⟨he, hb⟩ => ⟨by rw [he, hkr.out], hb⟩)
            have cM : ∀ d os, Calls Try.prog 33 #[tv t.kids[k] (.slice a' t.kids[k].kids.length cap')] (Go.Sort.grow (redrawn w4 d) os) fun e w'' => e = .returned (.bool true) ∧ ∃ p : Regrown, w'' = Go.Sort.grow (redrawn w4 p.d) p.os := fun d os => Calls.regrown_of ((marked_any t.kids[k] _ _ (HQ.out.keep (below_regrown w4 d os))).mono fun e w' ⟨he, hb⟩ => ⟨by rw [he, hkm], hb⟩)
            clear hkr
            go_wp2_with fail
            refine wp_region_quiet_below (by kernel_rfl) (by kernel_rfl) ?_
            repeat (any_goals (first | go_big_quiet_step (first | exact cR _ _ | exact cM _ _) | quiet_step (first | exact cR _ _ | exact cM _ _)))
            refine wpQuiet_nil ?_
            intro _ hw'
            obtain ⟨⟨dq, osq⟩, hw''⟩ := hw'
            subst hw''
            have hbq := below_regrown w4 dq osq
            generalize Go.Sort.grow (redrawn w4 dq) osq = w5 at hbq ⊢
            have H5 := held_call hh4 hbq
            clear k0 k3 k4 l0 l1 l2 l3 l4 cR cM z0 z1 z2 z3 z4 c0 c1 c2 c3 c4 hbq hh4
            go_wp2
            go_roundw
            case rel => exact ⟨k + 1, by omega, by go_num, H5⟩
            case measure => simp [intOf]; omega
          · have n12 : (t.k != 12) = false := by simp only [bne, e12]; rfl
            have n2 : ((k : Int) != 2) = true := by simp only [bne, e2i]; rfl
            have e2n : (k == 2) = false := by simp at e2i ⊢; omega
            have hkm : (t.kids[k]).markedB = true := by have h := hkk.out; simpa [Tm.kidB, e12, e2n] using h
            clear e2n
            have hkr : Hid ((t.kids[k]).rightB = true) := by show _ = _; simp [Tm.rightB, hkm]
            have cR : ∀ d os, Calls Try.prog 31 #[tv t.kids[k] (.slice a' t.kids[k].kids.length cap')] (Go.Sort.grow (redrawn w4 d) os) fun e w'' => e = .returned (.bool true) ∧ ∃ p : Regrown, w'' = Go.Sort.grow (redrawn w4 p.d) p.os := fun d os => Calls.regrown_of ((right_any t.kids[k] _ _ (HQ.out.keep (below_regrown w4 d os))).mono fun e w' ⟨he, hb⟩ => ⟨by rw [he, hkr.out], hb⟩)
            have cM : ∀ d os, Calls Try.prog 33 #[tv t.kids[k] (.slice a' t.kids[k].kids.length cap')] (Go.Sort.grow (redrawn w4 d) os) fun e w'' => e = .returned (.bool true) ∧ ∃ p : Regrown, w'' = Go.Sort.grow (redrawn w4 p.d) p.os := fun d os => Calls.regrown_of ((marked_any t.kids[k] _ _ (HQ.out.keep (below_regrown w4 d os))).mono fun e w' ⟨he, hb⟩ => ⟨by rw [he, hkm], hb⟩)
            clear hkr
            go_wp2_with fail
            refine wp_region_quiet_below (by kernel_rfl) (by kernel_rfl) ?_
            repeat (any_goals (first | go_big_quiet_step (first | exact cR _ _ | exact cM _ _) | quiet_step (first | exact cR _ _ | exact cM _ _)))
            refine wpQuiet_nil ?_
            intro _ hw'
            obtain ⟨⟨dq, osq⟩, hw''⟩ := hw'
            subst hw''
            have hbq := below_regrown w4 dq osq
            generalize Go.Sort.grow (redrawn w4 dq) osq = w5 at hbq ⊢
            have H5 := held_call hh4 hbq
            clear k0 k3 k4 l0 l1 l2 l3 l4 cR cM z0 z1 z2 z3 z4 c0 c1 c2 c3 c4 hbq hh4
            go_wp2
            go_roundw
            case rel => exact ⟨k + 1, by omega, by go_num, H5⟩
            case measure => simp [intOf]; omega
          · have n12 : (t.k != 12) = false := by simp only [bne, e12]; rfl
            have n2 : ((k : Int) != 2) = false := by simp only [bne, e2i]; rfl
            have e2n : (k == 2) = true := by simp at e2i ⊢; omega
            have hkp : (t.kids[k]).plainB = true := by have h := hkk.out; simpa [Tm.kidB, e12, e2n] using h
            have hbk := both_kind hkp
            have HKP := Lib.hid hkp
            clear e2n hkp
            cases q1 : ((t.kids[k]).k == 1)
            · cases q2 : ((t.kids[k]).k == 2)
              · have hkm : (t.kids[k]).markedB = false := by rw [hbk, q1, q2]; rfl
                clear hbk
                have hkr : Hid ((t.kids[k]).rightB = true) := by show _ = _; simp [Tm.rightB, HKP.out]
                have cR : ∀ d os, Calls Try.prog 31 #[tv t.kids[k] (.slice a' t.kids[k].kids.length cap')] (Go.Sort.grow (redrawn w4 d) os) fun e w'' => e = .returned (.bool true) ∧ ∃ p : Regrown, w'' = Go.Sort.grow (redrawn w4 p.d) p.os := fun d os => Calls.regrown_of ((right_any t.kids[k] _ _ (HQ.out.keep (below_regrown w4 d os))).mono fun e w' ⟨he, hb⟩ => ⟨by rw [he, hkr.out], hb⟩)
                have cM : ∀ d os, Calls Try.prog 33 #[tv t.kids[k] (.slice a' t.kids[k].kids.length cap')] (Go.Sort.grow (redrawn w4 d) os) fun e w'' => e = .returned (.bool false) ∧ ∃ p : Regrown, w'' = Go.Sort.grow (redrawn w4 p.d) p.os := fun d os => Calls.regrown_of ((marked_any t.kids[k] _ _ (HQ.out.keep (below_regrown w4 d os))).mono fun e w' ⟨he, hb⟩ => ⟨by rw [he, hkm], hb⟩)
                clear hkr
                go_wp2_with fail
                refine wp_region_quiet_below (by kernel_rfl) (by kernel_rfl) ?_
                repeat (any_goals (first | go_big_quiet_step (first | exact cR _ _ | exact cM _ _) | quiet_step (first | exact cR _ _ | exact cM _ _)))
                refine wpQuiet_nil ?_
                intro _ hw'
                obtain ⟨⟨dq, osq⟩, hw''⟩ := hw'
                subst hw''
                have hbq := below_regrown w4 dq osq
                generalize Go.Sort.grow (redrawn w4 dq) osq = w5 at hbq ⊢
                have H5 := held_call hh4 hbq
                clear k0 k3 k4 l0 l1 l2 l3 l4 cR cM z0 z1 z2 z3 z4 c0 c1 c2 c3 c4 hbq hh4
                go_wp2
                go_roundw
                case rel => exact ⟨k + 1, by omega, by go_num, H5⟩
                case measure => simp [intOf]; omega
              · have hkm : (t.kids[k]).markedB = true := by rw [hbk, q1, q2]; rfl
                clear hbk
                have hkr : Hid ((t.kids[k]).rightB = true) := by show _ = _; simp [Tm.rightB, HKP.out]
                have cR : ∀ d os, Calls Try.prog 31 #[tv t.kids[k] (.slice a' t.kids[k].kids.length cap')] (Go.Sort.grow (redrawn w4 d) os) fun e w'' => e = .returned (.bool true) ∧ ∃ p : Regrown, w'' = Go.Sort.grow (redrawn w4 p.d) p.os := fun d os => Calls.regrown_of ((right_any t.kids[k] _ _ (HQ.out.keep (below_regrown w4 d os))).mono fun e w' ⟨he, hb⟩ => ⟨by rw [he, hkr.out], hb⟩)
                have cM : ∀ d os, Calls Try.prog 33 #[tv t.kids[k] (.slice a' t.kids[k].kids.length cap')] (Go.Sort.grow (redrawn w4 d) os) fun e w'' => e = .returned (.bool true) ∧ ∃ p : Regrown, w'' = Go.Sort.grow (redrawn w4 p.d) p.os := fun d os => Calls.regrown_of ((marked_any t.kids[k] _ _ (HQ.out.keep (below_regrown w4 d os))).mono fun e w' ⟨he, hb⟩ => ⟨by rw [he, hkm], hb⟩)
                clear hkr
                go_wp2_with fail
                refine wp_region_quiet_below (by kernel_rfl) (by kernel_rfl) ?_
                repeat (any_goals (first | go_big_quiet_step (first | exact cR _ _ | exact cM _ _) | quiet_step (first | exact cR _ _ | exact cM _ _)))
                refine wpQuiet_nil ?_
                intro _ hw'
                obtain ⟨⟨dq, osq⟩, hw''⟩ := hw'
                subst hw''
                have hbq := below_regrown w4 dq osq
                generalize Go.Sort.grow (redrawn w4 dq) osq = w5 at hbq ⊢
                have H5 := held_call hh4 hbq
                clear k0 k3 k4 l0 l1 l2 l3 l4 cR cM z0 z1 z2 z3 z4 c0 c1 c2 c3 c4 hbq hh4
                go_wp2
                go_roundw
                case rel => exact ⟨k + 1, by omega, by go_num, H5⟩
                case measure => simp [intOf]; omega
            · have hkm : (t.kids[k]).markedB = true := by rw [hbk, q1]; rfl
              clear hbk
              have hkr : Hid ((t.kids[k]).rightB = true) := by show _ = _; simp [Tm.rightB, HKP.out]
              have cR : ∀ d os, Calls Try.prog 31 #[tv t.kids[k] (.slice a' t.kids[k].kids.length cap')] (Go.Sort.grow (redrawn w4 d) os) fun e w'' => e = .returned (.bool true) ∧ ∃ p : Regrown, w'' = Go.Sort.grow (redrawn w4 p.d) p.os := fun d os => Calls.regrown_of ((right_any t.kids[k] _ _ (HQ.out.keep (below_regrown w4 d os))).mono fun e w' ⟨he, hb⟩ => ⟨by rw [he, hkr.out], hb⟩)
              have cM : ∀ d os, Calls Try.prog 33 #[tv t.kids[k] (.slice a' t.kids[k].kids.length cap')] (Go.Sort.grow (redrawn w4 d) os) fun e w'' => e = .returned (.bool true) ∧ ∃ p : Regrown, w'' = Go.Sort.grow (redrawn w4 p.d) p.os := fun d os => Calls.regrown_of ((marked_any t.kids[k] _ _ (HQ.out.keep (below_regrown w4 d os))).mono fun e w' ⟨he, hb⟩ => ⟨by rw [he, hkm], hb⟩)
              clear hkr
              go_wp2_with fail
              refine wp_region_quiet_below (by kernel_rfl) (by kernel_rfl) ?_
              repeat (any_goals (first | go_big_quiet_step (first | exact cR _ _ | exact cM _ _) | quiet_step (first | exact cR _ _ | exact cM _ _)))
              refine wpQuiet_nil ?_
              intro _ hw'
              obtain ⟨⟨dq, osq⟩, hw''⟩ := hw'
              subst hw''
              have hbq := below_regrown w4 dq osq
              generalize Go.Sort.grow (redrawn w4 dq) osq = w5 at hbq ⊢
              have H5 := held_call hh4 hbq
              clear k0 k3 k4 l0 l1 l2 l3 l4 cR cM z0 z1 z2 z3 z4 c0 c1 c2 c3 c4 hbq hh4
              go_wp2
              go_roundw
              case rel => exact ⟨k + 1, by omega, by go_num, H5⟩
              case measure => simp [intOf]; omega
        · have : k = t.kids.length := by omega
          subst this
          go_wp2_with fail
          refine (wakes4_any _).mono ?_
          rintro e w4 ⟨rfl, hb4⟩
          have hh4 := held_call hh hb4
          go_wp2
          go_ret
          exact ⟨rfl, held_below hh4⟩
    · have cU : ∀ d os, Calls Try.prog 35 #[tv t (.slice a t.kids.length cap)] (Go.Sort.grow (redrawn w2 d) os) fun e w'' => e = .returned (.bool true) ∧ ∃ p : Regrown, w'' = Go.Sort.grow (redrawn w2 p.d) p.os := fun d os => Calls.regrown_of ((pure_any t _ _ ((held_lies H2 HL.out).keep (below_regrown w2 d os))).mono fun e w' ⟨he, hb⟩ => ⟨by rw [he, hpu], hb⟩)
      go_wp2_with fail
      refine wp_region_quiet_below (by kernel_rfl) (by kernel_rfl) ?_
      repeat (any_goals (first | go_big_quiet_step (first | exact cR _ _ | exact cU _ _) | quiet_step (first | exact cR _ _ | exact cU _ _)))
      refine wpQuiet_nil ?_
      intro _ hw'
      obtain ⟨⟨dq, osq⟩, hw''⟩ := hw'
      subst hw''
      have hbq := below_regrown w2 dq osq
      generalize Go.Sort.grow (redrawn w2 dq) osq = w3 at hbq ⊢
      have H3 := held_call H2 hbq
      obtain ⟨y0, y1, y2, y3, y4⟩ := held_cells H3
      clear k0 k1 k2 k3 k4 cR cU x0 x1 x2 x3 x4 hbq H2
      go_wp2
      go_loopw [5] (fun iv wr => ∃ k : Nat, k ≤ t.kids.length ∧ iv = .int .i64 k ∧ Held w t (.slice a t.kids.length cap) wr) (fun iv _ => t.kids.length - (intOf iv).toNat)
      case atStart => exact ⟨0, Nat.zero_le _, rfl, H3⟩
      case round =>
        obtain ⟨k, hk, rfl, hh⟩ := hrel
        obtain ⟨d0, d1, d2, d3, d4⟩ := held_cells hh
        by_cases hlt : k < t.kids.length
        · obtain ⟨b, o, rfl, hx⟩ := HN.out k hlt
          go_wp2_with fail
          refine (right_any t _ _ (held_lies hh HL.out)).mono ?_
          rintro e w4 ⟨rfl, hb4⟩
          rw [HR.out]
          have hh4 := held_call hh hb4
          obtain ⟨z0, z1, z2, z3, z4⟩ := held_cells hh4
          obtain ⟨c0, c1, c2, c3, c4⟩ := hx.below (held_below hh4) hx.lt
          have hq := (HK.out k hlt).keep (held_below hh4)
          obtain ⟨a', cap', S', hS, -⟩ := hq.out
          rw [hS] at c4 hq
          have HQ := Lib.hid hq
          have k0 := cell_regrown z0
          have k3 := cell_regrown z3
          have k4 := cell_regrown z4
          have l0 := cell_regrown c0
          have l1 := cell_regrown c1
          have l2 := cell_regrown c2
          have l3 := cell_regrown c3
          have l4 := cell_regrown c4
          clear hS hq d0 d1 d2 d3 d4 hb4 hh
          have hkk := Lib.hid (markeds_get HML.out k hlt)
          cases e12 : (t.k == 12) <;> cases e2i : ((k : Int) == 2)
          · have n12 : (t.k != 12) = true := by simp only [bne, e12]; rfl
            have n2 : ((k : Int) != 2) = true := by simp only [bne, e2i]; rfl
            have e2n : (k == 2) = false := by simp at e2i ⊢; omega
            have hkm : (t.kids[k]).markedB = true := by have h := hkk.out; simpa [Tm.kidB, e12, e2n] using h
            clear e2n
            have hkr : Hid ((t.kids[k]).rightB = true) := by show _ = _; simp [Tm.rightB, hkm]
            have cR : ∀ d os, Calls Try.prog 31 #[tv t.kids[k] (.slice a' t.kids[k].kids.length cap')] (Go.Sort.grow (redrawn w4 d) os) fun e w'' => e = .returned (.bool true) ∧ ∃ p : Regrown, w'' = Go.Sort.grow (redrawn w4 p.d) p.os := fun d os => Calls.regrown_of ((right_any t.kids[k] _ _ (HQ.out.keep (below_regrown w4 d os))).mono fun e w' ⟨he, hb⟩ => ⟨by rw [he, hkr.out], hb⟩)
            have cM : ∀ d os, Calls Try.prog 33 #[tv t.kids[k] (.slice a' t.kids[k].kids.length cap')] (Go.Sort.grow (redrawn w4 d) os) fun e w'' => e = .returned (.bool true) ∧ ∃ p : Regrown, w'' = Go.Sort.grow (redrawn w4 p.d) p.os := fun d os => Calls.regrown_of ((marked_any t.kids[k] _ _ (HQ.out.keep (below_regrown w4 d os))).mono fun e w' ⟨he, hb⟩ => ⟨by rw [he, hkm], hb⟩)
            clear hkr
            go_wp2_with fail
            refine wp_region_quiet_below (by kernel_rfl) (by kernel_rfl) ?_
            repeat (any_goals (first | go_big_quiet_step (first | exact cR _ _ | exact cM _ _) | quiet_step (first | exact cR _ _ | exact cM _ _)))
            refine wpQuiet_nil ?_
            intro _ hw'
            obtain ⟨⟨dq, osq⟩, hw''⟩ := hw'
            subst hw''
            have hbq := below_regrown w4 dq osq
            generalize Go.Sort.grow (redrawn w4 dq) osq = w5 at hbq ⊢
            have H5 := held_call hh4 hbq
            clear k0 k3 k4 l0 l1 l2 l3 l4 cR cM z0 z1 z2 z3 z4 c0 c1 c2 c3 c4 hbq hh4
            go_wp2
            go_roundw
            case rel => exact ⟨k + 1, by omega, by go_num, H5⟩
            case measure => simp [intOf]; omega
          · have n12 : (t.k != 12) = true := by simp only [bne, e12]; rfl
            have n2 : ((k : Int) != 2) = false := by simp only [bne, e2i]; rfl
            have e2n : (k == 2) = true := by simp at e2i ⊢; omega
            have hkm : (t.kids[k]).markedB = true := by have h := hkk.out; simpa [Tm.kidB, e12, e2n] using h
            clear e2n
            have hkr : Hid ((t.kids[k]).rightB = true) := by show _ = _; simp [Tm.rightB, hkm]
            have cR : ∀ d os, Calls Try.prog 31 #[tv t.kids[k] (.slice a' t.kids[k].kids.length cap')] (Go.Sort.grow (redrawn w4 d) os) fun e w'' => e = .returned (.bool true) ∧ ∃ p : Regrown, w'' = Go.Sort.grow (redrawn w4 p.d) p.os := fun d os => Calls.regrown_of ((right_any t.kids[k] _ _ (HQ.out.keep (below_regrown w4 d os))).mono fun e w' ⟨he, hb⟩ => ⟨by rw [he, hkr.out], hb⟩)
            have cM : ∀ d os, Calls Try.prog 33 #[tv t.kids[k] (.slice a' t.kids[k].kids.length cap')] (Go.Sort.grow (redrawn w4 d) os) fun e w'' => e = .returned (.bool true) ∧ ∃ p : Regrown, w'' = Go.Sort.grow (redrawn w4 p.d) p.os := fun d os => Calls.regrown_of ((marked_any t.kids[k] _ _ (HQ.out.keep (below_regrown w4 d os))).mono fun e w' ⟨he, hb⟩ => ⟨by rw [he, hkm], hb⟩)
            clear hkr
            go_wp2_with fail
            refine wp_region_quiet_below (by kernel_rfl) (by kernel_rfl) ?_
            repeat (any_goals (first | go_big_quiet_step (first | exact cR _ _ | exact cM _ _) | quiet_step (first | exact cR _ _ | exact cM _ _)))
            refine wpQuiet_nil ?_
            intro _ hw'
            obtain ⟨⟨dq, osq⟩, hw''⟩ := hw'
            subst hw''
            have hbq := below_regrown w4 dq osq
            generalize Go.Sort.grow (redrawn w4 dq) osq = w5 at hbq ⊢
            have H5 := held_call hh4 hbq
            clear k0 k3 k4 l0 l1 l2 l3 l4 cR cM z0 z1 z2 z3 z4 c0 c1 c2 c3 c4 hbq hh4
            go_wp2
            go_roundw
            case rel => exact ⟨k + 1, by omega, by go_num, H5⟩
            case measure => simp [intOf]; omega
          · have n12 : (t.k != 12) = false := by simp only [bne, e12]; rfl
            have n2 : ((k : Int) != 2) = true := by simp only [bne, e2i]; rfl
            have e2n : (k == 2) = false := by simp at e2i ⊢; omega
            have hkm : (t.kids[k]).markedB = true := by have h := hkk.out; simpa [Tm.kidB, e12, e2n] using h
            clear e2n
            have hkr : Hid ((t.kids[k]).rightB = true) := by show _ = _; simp [Tm.rightB, hkm]
            have cR : ∀ d os, Calls Try.prog 31 #[tv t.kids[k] (.slice a' t.kids[k].kids.length cap')] (Go.Sort.grow (redrawn w4 d) os) fun e w'' => e = .returned (.bool true) ∧ ∃ p : Regrown, w'' = Go.Sort.grow (redrawn w4 p.d) p.os := fun d os => Calls.regrown_of ((right_any t.kids[k] _ _ (HQ.out.keep (below_regrown w4 d os))).mono fun e w' ⟨he, hb⟩ => ⟨by rw [he, hkr.out], hb⟩)
            have cM : ∀ d os, Calls Try.prog 33 #[tv t.kids[k] (.slice a' t.kids[k].kids.length cap')] (Go.Sort.grow (redrawn w4 d) os) fun e w'' => e = .returned (.bool true) ∧ ∃ p : Regrown, w'' = Go.Sort.grow (redrawn w4 p.d) p.os := fun d os => Calls.regrown_of ((marked_any t.kids[k] _ _ (HQ.out.keep (below_regrown w4 d os))).mono fun e w' ⟨he, hb⟩ => ⟨by rw [he, hkm], hb⟩)
            clear hkr
            go_wp2_with fail
            refine wp_region_quiet_below (by kernel_rfl) (by kernel_rfl) ?_
            repeat (any_goals (first | go_big_quiet_step (first | exact cR _ _ | exact cM _ _) | quiet_step (first | exact cR _ _ | exact cM _ _)))
            refine wpQuiet_nil ?_
            intro _ hw'
            obtain ⟨⟨dq, osq⟩, hw''⟩ := hw'
            subst hw''
            have hbq := below_regrown w4 dq osq
            generalize Go.Sort.grow (redrawn w4 dq) osq = w5 at hbq ⊢
            have H5 := held_call hh4 hbq
            clear k0 k3 k4 l0 l1 l2 l3 l4 cR cM z0 z1 z2 z3 z4 c0 c1 c2 c3 c4 hbq hh4
            go_wp2
            go_roundw
            case rel => exact ⟨k + 1, by omega, by go_num, H5⟩
            case measure => simp [intOf]; omega
          · have n12 : (t.k != 12) = false := by simp only [bne, e12]; rfl
            have n2 : ((k : Int) != 2) = false := by simp only [bne, e2i]; rfl
            have e2n : (k == 2) = true := by simp at e2i ⊢; omega
            have hkp : (t.kids[k]).plainB = true := by have h := hkk.out; simpa [Tm.kidB, e12, e2n] using h
            have hbk := both_kind hkp
            have HKP := Lib.hid hkp
            clear e2n hkp
            cases q1 : ((t.kids[k]).k == 1)
            · cases q2 : ((t.kids[k]).k == 2)
              · have hkm : (t.kids[k]).markedB = false := by rw [hbk, q1, q2]; rfl
                clear hbk
                have hkr : Hid ((t.kids[k]).rightB = true) := by show _ = _; simp [Tm.rightB, HKP.out]
                have cR : ∀ d os, Calls Try.prog 31 #[tv t.kids[k] (.slice a' t.kids[k].kids.length cap')] (Go.Sort.grow (redrawn w4 d) os) fun e w'' => e = .returned (.bool true) ∧ ∃ p : Regrown, w'' = Go.Sort.grow (redrawn w4 p.d) p.os := fun d os => Calls.regrown_of ((right_any t.kids[k] _ _ (HQ.out.keep (below_regrown w4 d os))).mono fun e w' ⟨he, hb⟩ => ⟨by rw [he, hkr.out], hb⟩)
                have cM : ∀ d os, Calls Try.prog 33 #[tv t.kids[k] (.slice a' t.kids[k].kids.length cap')] (Go.Sort.grow (redrawn w4 d) os) fun e w'' => e = .returned (.bool false) ∧ ∃ p : Regrown, w'' = Go.Sort.grow (redrawn w4 p.d) p.os := fun d os => Calls.regrown_of ((marked_any t.kids[k] _ _ (HQ.out.keep (below_regrown w4 d os))).mono fun e w' ⟨he, hb⟩ => ⟨by rw [he, hkm], hb⟩)
                clear hkr
                go_wp2_with fail
                refine wp_region_quiet_below (by kernel_rfl) (by kernel_rfl) ?_
                repeat (any_goals (first | go_big_quiet_step (first | exact cR _ _ | exact cM _ _) | quiet_step (first | exact cR _ _ | exact cM _ _)))
                refine wpQuiet_nil ?_
                intro _ hw'
                obtain ⟨⟨dq, osq⟩, hw''⟩ := hw'
                subst hw''
                have hbq := below_regrown w4 dq osq
                generalize Go.Sort.grow (redrawn w4 dq) osq = w5 at hbq ⊢
                have H5 := held_call hh4 hbq
                clear k0 k3 k4 l0 l1 l2 l3 l4 cR cM z0 z1 z2 z3 z4 c0 c1 c2 c3 c4 hbq hh4
                go_wp2
                go_roundw
                case rel => exact ⟨k + 1, by omega, by go_num, H5⟩
                case measure => simp [intOf]; omega
              · have hkm : (t.kids[k]).markedB = true := by rw [hbk, q1, q2]; rfl
                clear hbk
                have hkr : Hid ((t.kids[k]).rightB = true) := by show _ = _; simp [Tm.rightB, HKP.out]
                have cR : ∀ d os, Calls Try.prog 31 #[tv t.kids[k] (.slice a' t.kids[k].kids.length cap')] (Go.Sort.grow (redrawn w4 d) os) fun e w'' => e = .returned (.bool true) ∧ ∃ p : Regrown, w'' = Go.Sort.grow (redrawn w4 p.d) p.os := fun d os => Calls.regrown_of ((right_any t.kids[k] _ _ (HQ.out.keep (below_regrown w4 d os))).mono fun e w' ⟨he, hb⟩ => ⟨by rw [he, hkr.out], hb⟩)
                have cM : ∀ d os, Calls Try.prog 33 #[tv t.kids[k] (.slice a' t.kids[k].kids.length cap')] (Go.Sort.grow (redrawn w4 d) os) fun e w'' => e = .returned (.bool true) ∧ ∃ p : Regrown, w'' = Go.Sort.grow (redrawn w4 p.d) p.os := fun d os => Calls.regrown_of ((marked_any t.kids[k] _ _ (HQ.out.keep (below_regrown w4 d os))).mono fun e w' ⟨he, hb⟩ => ⟨by rw [he, hkm], hb⟩)
                clear hkr
                go_wp2_with fail
                refine wp_region_quiet_below (by kernel_rfl) (by kernel_rfl) ?_
                repeat (any_goals (first | go_big_quiet_step (first | exact cR _ _ | exact cM _ _) | quiet_step (first | exact cR _ _ | exact cM _ _)))
                refine wpQuiet_nil ?_
                intro _ hw'
                obtain ⟨⟨dq, osq⟩, hw''⟩ := hw'
                subst hw''
                have hbq := below_regrown w4 dq osq
                generalize Go.Sort.grow (redrawn w4 dq) osq = w5 at hbq ⊢
                have H5 := held_call hh4 hbq
                clear k0 k3 k4 l0 l1 l2 l3 l4 cR cM z0 z1 z2 z3 z4 c0 c1 c2 c3 c4 hbq hh4
                go_wp2
                go_roundw
                case rel => exact ⟨k + 1, by omega, by go_num, H5⟩
                case measure => simp [intOf]; omega
            · have hkm : (t.kids[k]).markedB = true := by rw [hbk, q1]; rfl
              clear hbk
              have hkr : Hid ((t.kids[k]).rightB = true) := by show _ = _; simp [Tm.rightB, HKP.out]
              have cR : ∀ d os, Calls Try.prog 31 #[tv t.kids[k] (.slice a' t.kids[k].kids.length cap')] (Go.Sort.grow (redrawn w4 d) os) fun e w'' => e = .returned (.bool true) ∧ ∃ p : Regrown, w'' = Go.Sort.grow (redrawn w4 p.d) p.os := fun d os => Calls.regrown_of ((right_any t.kids[k] _ _ (HQ.out.keep (below_regrown w4 d os))).mono fun e w' ⟨he, hb⟩ => ⟨by rw [he, hkr.out], hb⟩)
              have cM : ∀ d os, Calls Try.prog 33 #[tv t.kids[k] (.slice a' t.kids[k].kids.length cap')] (Go.Sort.grow (redrawn w4 d) os) fun e w'' => e = .returned (.bool true) ∧ ∃ p : Regrown, w'' = Go.Sort.grow (redrawn w4 p.d) p.os := fun d os => Calls.regrown_of ((marked_any t.kids[k] _ _ (HQ.out.keep (below_regrown w4 d os))).mono fun e w' ⟨he, hb⟩ => ⟨by rw [he, hkm], hb⟩)
              clear hkr
              go_wp2_with fail
              refine wp_region_quiet_below (by kernel_rfl) (by kernel_rfl) ?_
              repeat (any_goals (first | go_big_quiet_step (first | exact cR _ _ | exact cM _ _) | quiet_step (first | exact cR _ _ | exact cM _ _)))
              refine wpQuiet_nil ?_
              intro _ hw'
              obtain ⟨⟨dq, osq⟩, hw''⟩ := hw'
              subst hw''
              have hbq := below_regrown w4 dq osq
              generalize Go.Sort.grow (redrawn w4 dq) osq = w5 at hbq ⊢
              have H5 := held_call hh4 hbq
              clear k0 k3 k4 l0 l1 l2 l3 l4 cR cM z0 z1 z2 z3 z4 c0 c1 c2 c3 c4 hbq hh4
              go_wp2
              go_roundw
              case rel => exact ⟨k + 1, by omega, by go_num, H5⟩
              case measure => simp [intOf]; omega
        · have : k = t.kids.length := by omega
          subst this
          go_wp2_with fail
          refine (wakes4_any _).mono ?_
          rintro e w4 ⟨rfl, hb4⟩
          have hh4 := held_call hh hb4
          go_wp2
          go_ret
          exact ⟨rfl, held_below hh4⟩

set_option maxRecDepth 100000 in
set_option maxHeartbeats 4000000 in
theorem termSorts_C (t : Tm) (w : World) (s : Value) (hl : Lies w t.kids s) (hm : t.markedB = false) (hp : t.plainB = true) : Calls Try.prog 6 #[tv t s] w fun e w' => e = .returned (.bool true) ∧ Below w.heap.size w w' := by
  obtain ⟨a, cap, S, rfl, hc, hmx, -, hn, hk⟩ := hl.out
  unfold maxLen at hmx
  unfold tv
  have HL := Lib.hid hl
  have HR : Hid (t.rightB = true) := by show _ = _; simp [Tm.rightB, hm, hp]
  have HMK := Lib.hid hm
  have HPK := Lib.hid hp
  have HN := Lib.hid hn
  have HK := Lib.hid hk
  have HPL : Hid (plains t.kids = true) := by have h := hp; rw [Tm.plainB_eq] at h; simp only [Bool.and_eq_true] at h; exact h.2.2
  clear hl hn hk hm hp
  go_enter Try.func6, Try.ntmps6
  go_wp2_with fail
  refine (great_any t _ _ _ (held_lies (held_start _ _ _) HL.out) (by omega) (by omega)).mono ?_
  rintro e w1 ⟨g, rfl, hg, hb'⟩
  have H1 := held_call (held_start w t (.slice a t.kids.length cap)) hb'
  have HG := Lib.hid hg
  obtain ⟨d0, d1, d2, d3, d4⟩ := held_cells H1
  clear hg hb'
  cases g with
  | true =>
    go_wp2
    go_ret
    exact ⟨rfl, held_below H1⟩
  | false =>
    have hz := (HG.out rfl).1
    clear HG
    have k0 := cell_regrown d0
    have k1 := cell_regrown d1
    have k2 := cell_regrown d2
    have k3 := cell_regrown d3
    have k4 := cell_regrown d4
    have cM : ∀ d os, Calls Try.prog 33 #[tv t (.slice a t.kids.length cap)] (Go.Sort.grow (redrawn w1 d) os) fun e w'' => e = .returned (.bool false) ∧ ∃ p : Regrown, w'' = Go.Sort.grow (redrawn w1 p.d) p.os := fun d os => Calls.regrown_of ((marked_any t _ _ ((held_lies H1 HL.out).keep (below_regrown w1 d os))).mono fun e w' ⟨he, hb⟩ => ⟨by rw [he, HMK.out], hb⟩)
    have cP : ∀ d os, Calls Try.prog 37 #[tv t (.slice a t.kids.length cap)] (Go.Sort.grow (redrawn w1 d) os) fun e w'' => e = .returned (.bool true) ∧ ∃ p : Regrown, w'' = Go.Sort.grow (redrawn w1 p.d) p.os := fun d os => Calls.regrown_of ((plain_any t _ _ ((held_lies H1 HL.out).keep (below_regrown w1 d os))).mono fun e w' ⟨he, hb⟩ => ⟨by rw [he, HPK.out], hb⟩)
    go_wp2_with fail
    refine wp_region_quiet_below (by kernel_rfl) (by kernel_rfl) ?_
    repeat (any_goals (first | go_big_quiet_step (first | exact cM _ _ | exact cP _ _) | quiet_step (first | exact cM _ _ | exact cP _ _)))
    refine wpQuiet_nil ?_
    intro _ hw'
    obtain ⟨⟨dq, osq⟩, hw''⟩ := hw'
    subst hw''
    have hbq := below_regrown w1 dq osq
    generalize Go.Sort.grow (redrawn w1 dq) osq = w2 at hbq ⊢
    have H2 := held_call H1 hbq
    obtain ⟨x0, x1, x2, x3, x4⟩ := held_cells H2
    clear k0 k1 k2 k3 k4 cM cP d0 d1 d2 d3 d4 hbq H1
    have hb := both_kind HPK.out
    rw [HMK.out] at hb
    have hb2 := Bool.or_eq_false_iff.1 hb.symm
    have e1 := hb2.1
    have e2 := hb2.2
    clear hb hb2
    have k0 := cell_regrown x0
    have k1 := cell_regrown x1
    have k2 := cell_regrown x2
    have k3 := cell_regrown x3
    have k4 := cell_regrown x4
    have cR : ∀ d os, Calls Try.prog 31 #[tv t (.slice a t.kids.length cap)] (Go.Sort.grow (redrawn w2 d) os) fun e w'' => e = .returned (.bool true) ∧ ∃ p : Regrown, w'' = Go.Sort.grow (redrawn w2 p.d) p.os := fun d os => Calls.regrown_of ((right_any t _ _ ((held_lies H2 HL.out).keep (below_regrown w2 d os))).mono fun e w' ⟨he, hb⟩ => ⟨by rw [he, HR.out], hb⟩)
    have hpu : t.pureB = false := by simp [Tm.pureB, HMK.out]
    have cU : ∀ d os, Calls Try.prog 35 #[tv t (.slice a t.kids.length cap)] (Go.Sort.grow (redrawn w2 d) os) fun e w'' => e = .returned (.bool false) ∧ ∃ p : Regrown, w'' = Go.Sort.grow (redrawn w2 p.d) p.os := fun d os => Calls.regrown_of ((pure_any t _ _ ((held_lies H2 HL.out).keep (below_regrown w2 d os))).mono fun e w' ⟨he, hb⟩ => ⟨by rw [he, hpu], hb⟩)
    go_wp2_with fail
    refine wp_region_quiet_below (by kernel_rfl) (by kernel_rfl) ?_
    repeat (any_goals (first | go_big_quiet_step (first | exact cR _ _ | exact cU _ _) | quiet_step (first | exact cR _ _ | exact cU _ _)))
    refine wpQuiet_nil ?_
    intro _ hw'
    obtain ⟨⟨dq, osq⟩, hw''⟩ := hw'
    subst hw''
    have hbq := below_regrown w2 dq osq
    generalize Go.Sort.grow (redrawn w2 dq) osq = w3 at hbq ⊢
    have H3 := held_call H2 hbq
    obtain ⟨y0, y1, y2, y3, y4⟩ := held_cells H3
    clear k0 k1 k2 k3 k4 cR cU x0 x1 x2 x3 x4 hbq H2
    go_wp2
    go_loopw [5] (fun iv wr => ∃ k : Nat, k ≤ t.kids.length ∧ iv = .int .i64 k ∧ Held w t (.slice a t.kids.length cap) wr) (fun iv _ => t.kids.length - (intOf iv).toNat)
    case atStart => exact ⟨0, Nat.zero_le _, rfl, H3⟩
    case round =>
      obtain ⟨k, hk, rfl, hh⟩ := hrel
      obtain ⟨d0, d1, d2, d3, d4⟩ := held_cells hh
      by_cases hlt : k < t.kids.length
      · obtain ⟨b, o, rfl, hx⟩ := HN.out k hlt
        go_wp2_with fail
        refine (right_any t _ _ (held_lies hh HL.out)).mono ?_
        rintro e w4 ⟨rfl, hb4⟩
        rw [HR.out]
        have hh4 := held_call hh hb4
        obtain ⟨z0, z1, z2, z3, z4⟩ := held_cells hh4
        obtain ⟨c0, c1, c2, c3, c4⟩ := hx.below (held_below hh4) hx.lt
        have hq := (HK.out k hlt).keep (held_below hh4)
        obtain ⟨a', cap', S', hS, -⟩ := hq.out
        rw [hS] at c4 hq
        have HQ := Lib.hid hq
        have k0 := cell_regrown z0
        have k3 := cell_regrown z3
        have k4 := cell_regrown z4
        have l0 := cell_regrown c0
        have l1 := cell_regrown c1
        have l2 := cell_regrown c2
        have l3 := cell_regrown c3
        have l4 := cell_regrown c4
        clear hS hq d0 d1 d2 d3 d4 hb4 hh
        have hkp := Lib.hid (plains_get HPL.out k hlt)
        have hkr : Hid ((t.kids[k]).rightB = true) := by show _ = _; simp [Tm.rightB, hkp.out]
        have cR : ∀ d os, Calls Try.prog 31 #[tv t.kids[k] (.slice a' t.kids[k].kids.length cap')] (Go.Sort.grow (redrawn w4 d) os) fun e w'' => e = .returned (.bool true) ∧ ∃ p : Regrown, w'' = Go.Sort.grow (redrawn w4 p.d) p.os := fun d os => Calls.regrown_of ((right_any t.kids[k] _ _ (HQ.out.keep (below_regrown w4 d os))).mono fun e w' ⟨he, hb⟩ => ⟨by rw [he, hkr.out], hb⟩)
        have cP : ∀ d os, Calls Try.prog 37 #[tv t.kids[k] (.slice a' t.kids[k].kids.length cap')] (Go.Sort.grow (redrawn w4 d) os) fun e w'' => e = .returned (.bool true) ∧ ∃ p : Regrown, w'' = Go.Sort.grow (redrawn w4 p.d) p.os := fun d os => Calls.regrown_of ((plain_any t.kids[k] _ _ (HQ.out.keep (below_regrown w4 d os))).mono fun e w' ⟨he, hb⟩ => ⟨by rw [he, hkp.out], hb⟩)
        go_wp2_with fail
        refine wp_region_quiet_below (by kernel_rfl) (by kernel_rfl) ?_
        repeat (any_goals (first | go_big_quiet_step (first | exact cR _ _ | exact cP _ _) | quiet_step (first | exact cR _ _ | exact cP _ _)))
        refine wpQuiet_nil ?_
        intro _ hw'
        obtain ⟨⟨dq, osq⟩, hw''⟩ := hw'
        subst hw''
        have hbq := below_regrown w4 dq osq
        generalize Go.Sort.grow (redrawn w4 dq) osq = w5 at hbq ⊢
        have H5 := held_call hh4 hbq
        clear k0 k3 k4 l0 l1 l2 l3 l4 cR cP z0 z1 z2 z3 z4 c0 c1 c2 c3 c4 hbq hh4
        go_wp2
        go_roundw
        case rel => exact ⟨k + 1, by omega, by go_num, H5⟩
        case measure => simp [intOf]; omega
      · have : k = t.kids.length := by omega
        subst this
        go_wp2_with fail
        refine (wakes4_any _).mono ?_
        rintro e w4 ⟨rfl, hb4⟩
        have hh4 := held_call hh hb4
        go_wp2
        go_ret
        exact ⟨rfl, held_below hh4⟩

set_option maxRecDepth 100000 in
set_option maxHeartbeats 4000000 in
theorem termSorts_D (t : Tm) (w : World) (s : Value) (hl : Lies w t.kids s) (hm : t.markedB = false) (hp : t.plainB = false) : Calls Try.prog 6 #[tv t s] w fun e w' => e = .returned (.bool true) ∧ Below w.heap.size w w' := by
  obtain ⟨a, cap, S, rfl, hc, hmx, -, hn, hk⟩ := hl.out
  unfold maxLen at hmx
  unfold tv
  have HL := Lib.hid hl
  have HR : Hid (t.rightB = false) := by show _ = _; simp [Tm.rightB, hm, hp]
  have HMK := Lib.hid hm
  have HPK := Lib.hid hp
  have HN := Lib.hid hn
  have HK := Lib.hid hk
  clear hl hn hk hm hp
  go_enter Try.func6, Try.ntmps6
  go_wp2_with fail
  refine (great_any t _ _ _ (held_lies (held_start _ _ _) HL.out) (by omega) (by omega)).mono ?_
  rintro e w1 ⟨g, rfl, hg, hb'⟩
  have H1 := held_call (held_start w t (.slice a t.kids.length cap)) hb'
  have HG := Lib.hid hg
  obtain ⟨d0, d1, d2, d3, d4⟩ := held_cells H1
  clear hg hb'
  cases g with
  | true =>
    go_wp2
    go_ret
    exact ⟨rfl, held_below H1⟩
  | false =>
    have hz := (HG.out rfl).1
    clear HG
    have k0 := cell_regrown d0
    have k1 := cell_regrown d1
    have k2 := cell_regrown d2
    have k3 := cell_regrown d3
    have k4 := cell_regrown d4
    have cM : ∀ d os, Calls Try.prog 33 #[tv t (.slice a t.kids.length cap)] (Go.Sort.grow (redrawn w1 d) os) fun e w'' => e = .returned (.bool false) ∧ ∃ p : Regrown, w'' = Go.Sort.grow (redrawn w1 p.d) p.os := fun d os => Calls.regrown_of ((marked_any t _ _ ((held_lies H1 HL.out).keep (below_regrown w1 d os))).mono fun e w' ⟨he, hb⟩ => ⟨by rw [he, HMK.out], hb⟩)
    have cP : ∀ d os, Calls Try.prog 37 #[tv t (.slice a t.kids.length cap)] (Go.Sort.grow (redrawn w1 d) os) fun e w'' => e = .returned (.bool false) ∧ ∃ p : Regrown, w'' = Go.Sort.grow (redrawn w1 p.d) p.os := fun d os => Calls.regrown_of ((plain_any t _ _ ((held_lies H1 HL.out).keep (below_regrown w1 d os))).mono fun e w' ⟨he, hb⟩ => ⟨by rw [he, HPK.out], hb⟩)
    go_wp2_with fail
    refine wp_region_quiet_below (by kernel_rfl) (by kernel_rfl) ?_
    repeat (any_goals (first | go_big_quiet_step (first | exact cM _ _ | exact cP _ _) | quiet_step (first | exact cM _ _ | exact cP _ _)))
    refine wpQuiet_nil ?_
    intro _ hw'
    obtain ⟨⟨dq, osq⟩, hw''⟩ := hw'
    subst hw''
    have hbq := below_regrown w1 dq osq
    generalize Go.Sort.grow (redrawn w1 dq) osq = w2 at hbq ⊢
    have H2 := held_call H1 hbq
    obtain ⟨x0, x1, x2, x3, x4⟩ := held_cells H2
    clear k0 k1 k2 k3 k4 cM cP d0 d1 d2 d3 d4 hbq H1
    have k0 := cell_regrown x0
    have k1 := cell_regrown x1
    have k2 := cell_regrown x2
    have k3 := cell_regrown x3
    have k4 := cell_regrown x4
    have cR : ∀ d os, Calls Try.prog 31 #[tv t (.slice a t.kids.length cap)] (Go.Sort.grow (redrawn w2 d) os) fun e w'' => e = .returned (.bool false) ∧ ∃ p : Regrown, w'' = Go.Sort.grow (redrawn w2 p.d) p.os := fun d os => Calls.regrown_of ((right_any t _ _ ((held_lies H2 HL.out).keep (below_regrown w2 d os))).mono fun e w' ⟨he, hb⟩ => ⟨by rw [he, HR.out], hb⟩)
    have hpu : t.pureB = false := by simp [Tm.pureB, HMK.out]
    have cU : ∀ d os, Calls Try.prog 35 #[tv t (.slice a t.kids.length cap)] (Go.Sort.grow (redrawn w2 d) os) fun e w'' => e = .returned (.bool false) ∧ ∃ p : Regrown, w'' = Go.Sort.grow (redrawn w2 p.d) p.os := fun d os => Calls.regrown_of ((pure_any t _ _ ((held_lies H2 HL.out).keep (below_regrown w2 d os))).mono fun e w' ⟨he, hb⟩ => ⟨by rw [he, hpu], hb⟩)
    go_wp2_with fail
    refine wp_region_quiet_below (by kernel_rfl) (by kernel_rfl) ?_
    repeat (any_goals (first | go_big_quiet_step (first | exact cR _ _ | exact cU _ _) | quiet_step (first | exact cR _ _ | exact cU _ _)))
    refine wpQuiet_nil ?_
    intro _ hw'
    obtain ⟨⟨dq, osq⟩, hw''⟩ := hw'
    subst hw''
    have hbq := below_regrown w2 dq osq
    generalize Go.Sort.grow (redrawn w2 dq) osq = w3 at hbq ⊢
    have H3 := held_call H2 hbq
    obtain ⟨y0, y1, y2, y3, y4⟩ := held_cells H3
    clear k0 k1 k2 k3 k4 cR cU x0 x1 x2 x3 x4 hbq H2
    go_wp2
    refine wp_loop_rounds 1 ?_
    rw [rounds_succ]
    by_cases hlen : 0 < t.kids.length
    · go_wp2_with fail
      refine (right_any t _ _ (held_lies H3 HL.out)).mono ?_
      rintro e w4 ⟨rfl, hb4⟩
      rw [HR.out]
      have hh4 := held_call H3 hb4
      go_wp2_with fail
      refine (wakes4_any _).mono ?_
      rintro e w5 ⟨rfl, hb5⟩
      have hh5 := held_call hh4 hb5
      go_wp2
      go_ret
      exact ⟨rfl, held_below hh5⟩
    · go_wp2_with fail
      refine (wakes4_any _).mono ?_
      rintro e w4 ⟨rfl, hb4⟩
      have hh4 := held_call H3 hb4
      go_wp2
      go_ret
      exact ⟨rfl, held_below hh4⟩

set_option maxRecDepth 100000 in
set_option maxHeartbeats 4000000 in
theorem termSorts_A1 (t : Tm) (w : World) (s : Value) (hl : Lies w t.kids s) (hm : t.markedB = true) (hp : t.plainB = true) (e1 : (t.k == 1) = true) : Calls Try.prog 6 #[tv t s] w fun e w' => e = .returned (.bool true) ∧ Below w.heap.size w w' := by
  obtain ⟨a, cap, S, rfl, hc, hmx, -, hn, hk⟩ := hl.out
  unfold maxLen at hmx
  unfold tv
  have HL := Lib.hid hl
  have HR : Hid (t.rightB = true) := by show _ = _; simp [Tm.rightB, hm, hp]
  have HMK := Lib.hid hm
  have HPK := Lib.hid hp
  have HN := Lib.hid hn
  have HK := Lib.hid hk
  have HNK : Hid (t.nodeB = true ∧ (t.k = 1 ∨ t.k = 2)) := by
    have h := hm; rw [Tm.markedB_eq] at h; simp only [Bool.and_eq_true] at h
    have h2 := both_kind hp; rw [hm] at h2
    exact ⟨h.2.1, by simpa using h2.symm⟩
  have HA : Hid (t.kids = []) := (sorts_two HNK.out.1 (by have := HNK.out.2; omega)).2
  clear hl hn hk hm hp
  go_enter Try.func6, Try.ntmps6
  go_wp2_with fail
  refine (great_any t _ _ _ (held_lies (held_start _ _ _) HL.out) (by omega) (by omega)).mono ?_
  rintro e w1 ⟨g, rfl, hg, hb'⟩
  have H1 := held_call (held_start w t (.slice a t.kids.length cap)) hb'
  have HG := Lib.hid hg
  obtain ⟨d0, d1, d2, d3, d4⟩ := held_cells H1
  clear hg hb'
  cases g with
  | true =>
    go_wp2
    go_ret
    exact ⟨rfl, held_below H1⟩
  | false =>
    have hz := (HG.out rfl).1
    clear HG
    have k0 := cell_regrown d0
    have k1 := cell_regrown d1
    have k2 := cell_regrown d2
    have k3 := cell_regrown d3
    have k4 := cell_regrown d4
    have cM : ∀ d os, Calls Try.prog 33 #[tv t (.slice a t.kids.length cap)] (Go.Sort.grow (redrawn w1 d) os) fun e w'' => e = .returned (.bool true) ∧ ∃ p : Regrown, w'' = Go.Sort.grow (redrawn w1 p.d) p.os := fun d os => Calls.regrown_of ((marked_any t _ _ ((held_lies H1 HL.out).keep (below_regrown w1 d os))).mono fun e w' ⟨he, hb⟩ => ⟨by rw [he, HMK.out], hb⟩)
    have cP : ∀ d os, Calls Try.prog 37 #[tv t (.slice a t.kids.length cap)] (Go.Sort.grow (redrawn w1 d) os) fun e w'' => e = .returned (.bool true) ∧ ∃ p : Regrown, w'' = Go.Sort.grow (redrawn w1 p.d) p.os := fun d os => Calls.regrown_of ((plain_any t _ _ ((held_lies H1 HL.out).keep (below_regrown w1 d os))).mono fun e w' ⟨he, hb⟩ => ⟨by rw [he, HPK.out], hb⟩)
    go_wp2_with fail
    refine wp_region_quiet_below (by kernel_rfl) (by kernel_rfl) ?_
    repeat (any_goals (first | go_big_quiet_step (first | exact cM _ _ | exact cP _ _) | quiet_step (first | exact cM _ _ | exact cP _ _)))
    refine wpQuiet_nil ?_
    intro _ hw'
    obtain ⟨⟨dq, osq⟩, hw''⟩ := hw'
    subst hw''
    have hbq := below_regrown w1 dq osq
    generalize Go.Sort.grow (redrawn w1 dq) osq = w2 at hbq ⊢
    have H2 := held_call H1 hbq
    obtain ⟨x0, x1, x2, x3, x4⟩ := held_cells H2
    clear k0 k1 k2 k3 k4 cM cP d0 d1 d2 d3 d4 hbq H1
    have e12 := HNK.out.2
    have HE12 := Lib.hid e12
    clear e12
    have k0 := cell_regrown x0
    have k1 := cell_regrown x1
    have k2 := cell_regrown x2
    have k3 := cell_regrown x3
    have k4 := cell_regrown x4
    have cR : ∀ d os, Calls Try.prog 31 #[tv t (.slice a t.kids.length cap)] (Go.Sort.grow (redrawn w2 d) os) fun e w'' => e = .returned (.bool true) ∧ ∃ p : Regrown, w'' = Go.Sort.grow (redrawn w2 p.d) p.os := fun d os => Calls.regrown_of ((right_any t _ _ ((held_lies H2 HL.out).keep (below_regrown w2 d os))).mono fun e w' ⟨he, hb⟩ => ⟨by rw [he, HR.out], hb⟩)
    have hpu : t.pureB = true := by have h := HE12.out; simp [Tm.pureB, HMK.out, t.count_eq, HA.out, counts]; omega
    have cU : ∀ d os, Calls Try.prog 35 #[tv t (.slice a t.kids.length cap)] (Go.Sort.grow (redrawn w2 d) os) fun e w'' => e = .returned (.bool true) ∧ ∃ p : Regrown, w'' = Go.Sort.grow (redrawn w2 p.d) p.os := fun d os => Calls.regrown_of ((pure_any t _ _ ((held_lies H2 HL.out).keep (below_regrown w2 d os))).mono fun e w' ⟨he, hb⟩ => ⟨by rw [he, hpu], hb⟩)
    go_wp2_with fail
    refine wp_region_quiet_below (by kernel_rfl) (by kernel_rfl) ?_
    repeat (any_goals (first | go_big_quiet_step (first | exact cR _ _ | exact cU _ _) | quiet_step (first | exact cR _ _ | exact cU _ _)))
    refine wpQuiet_nil ?_
    intro _ hw'
    obtain ⟨⟨dq, osq⟩, hw''⟩ := hw'
    subst hw''
    have hbq := below_regrown w2 dq osq
    generalize Go.Sort.grow (redrawn w2 dq) osq = w3 at hbq ⊢
    have H3 := held_call H2 hbq
    obtain ⟨y0, y1, y2, y3, y4⟩ := held_cells H3
    clear k0 k1 k2 k3 k4 cR cU x0 x1 x2 x3 x4 hbq H2
    go_wp2
    refine wp_loop_rounds 1 ?_
    rw [rounds_succ]
    have hl0 : t.kids.length = 0 := by rw [HA.out]; rfl
    go_wp2_with fail
    refine (wakes4_any _).mono ?_
    rintro e w4 ⟨rfl, hb4⟩
    have hh4 := held_call H3 hb4
    go_wp2
    go_ret
    exact ⟨rfl, held_below hh4⟩

set_option maxRecDepth 100000 in
set_option maxHeartbeats 4000000 in
theorem termSorts_A2 (t : Tm) (w : World) (s : Value) (hl : Lies w t.kids s) (hm : t.markedB = true) (hp : t.plainB = true) (e1 : (t.k == 1) = false) (e2 : (t.k == 2) = true) : Calls Try.prog 6 #[tv t s] w fun e w' => e = .returned (.bool true) ∧ Below w.heap.size w w' := by
  obtain ⟨a, cap, S, rfl, hc, hmx, -, hn, hk⟩ := hl.out
  unfold maxLen at hmx
  unfold tv
  have HL := Lib.hid hl
  have HR : Hid (t.rightB = true) := by show _ = _; simp [Tm.rightB, hm, hp]
  have HMK := Lib.hid hm
  have HPK := Lib.hid hp
  have HN := Lib.hid hn
  have HK := Lib.hid hk
  have HNK : Hid (t.nodeB = true ∧ (t.k = 1 ∨ t.k = 2)) := by
    have h := hm; rw [Tm.markedB_eq] at h; simp only [Bool.and_eq_true] at h
    have h2 := both_kind hp; rw [hm] at h2
    exact ⟨h.2.1, by simpa using h2.symm⟩
  have HA : Hid (t.kids = []) := (sorts_two HNK.out.1 (by have := HNK.out.2; omega)).2
  clear hl hn hk hm hp
  go_enter Try.func6, Try.ntmps6
  go_wp2_with fail
  refine (great_any t _ _ _ (held_lies (held_start _ _ _) HL.out) (by omega) (by omega)).mono ?_
  rintro e w1 ⟨g, rfl, hg, hb'⟩
  have H1 := held_call (held_start w t (.slice a t.kids.length cap)) hb'
  have HG := Lib.hid hg
  obtain ⟨d0, d1, d2, d3, d4⟩ := held_cells H1
  clear hg hb'
  cases g with
  | true =>
    go_wp2
    go_ret
    exact ⟨rfl, held_below H1⟩
  | false =>
    have hz := (HG.out rfl).1
    clear HG
    have k0 := cell_regrown d0
    have k1 := cell_regrown d1
    have k2 := cell_regrown d2
    have k3 := cell_regrown d3
    have k4 := cell_regrown d4
    have cM : ∀ d os, Calls Try.prog 33 #[tv t (.slice a t.kids.length cap)] (Go.Sort.grow (redrawn w1 d) os) fun e w'' => e = .returned (.bool true) ∧ ∃ p : Regrown, w'' = Go.Sort.grow (redrawn w1 p.d) p.os := fun d os => Calls.regrown_of ((marked_any t _ _ ((held_lies H1 HL.out).keep (below_regrown w1 d os))).mono fun e w' ⟨he, hb⟩ => ⟨by rw [he, HMK.out], hb⟩)
    have cP : ∀ d os, Calls Try.prog 37 #[tv t (.slice a t.kids.length cap)] (Go.Sort.grow (redrawn w1 d) os) fun e w'' => e = .returned (.bool true) ∧ ∃ p : Regrown, w'' = Go.Sort.grow (redrawn w1 p.d) p.os := fun d os => Calls.regrown_of ((plain_any t _ _ ((held_lies H1 HL.out).keep (below_regrown w1 d os))).mono fun e w' ⟨he, hb⟩ => ⟨by rw [he, HPK.out], hb⟩)
    go_wp2_with fail
    refine wp_region_quiet_below (by kernel_rfl) (by kernel_rfl) ?_
    repeat (any_goals (first | go_big_quiet_step (first | exact cM _ _ | exact cP _ _) | quiet_step (first | exact cM _ _ | exact cP _ _)))
    refine wpQuiet_nil ?_
    intro _ hw'
    obtain ⟨⟨dq, osq⟩, hw''⟩ := hw'
    subst hw''
    have hbq := below_regrown w1 dq osq
    generalize Go.Sort.grow (redrawn w1 dq) osq = w2 at hbq ⊢
    have H2 := held_call H1 hbq
    obtain ⟨x0, x1, x2, x3, x4⟩ := held_cells H2
    clear k0 k1 k2 k3 k4 cM cP d0 d1 d2 d3 d4 hbq H1
    have e12 := HNK.out.2
    have HE12 := Lib.hid e12
    clear e12
    have k0 := cell_regrown x0
    have k1 := cell_regrown x1
    have k2 := cell_regrown x2
    have k3 := cell_regrown x3
    have k4 := cell_regrown x4
    have cR : ∀ d os, Calls Try.prog 31 #[tv t (.slice a t.kids.length cap)] (Go.Sort.grow (redrawn w2 d) os) fun e w'' => e = .returned (.bool true) ∧ ∃ p : Regrown, w'' = Go.Sort.grow (redrawn w2 p.d) p.os := fun d os => Calls.regrown_of ((right_any t _ _ ((held_lies H2 HL.out).keep (below_regrown w2 d os))).mono fun e w' ⟨he, hb⟩ => ⟨by rw [he, HR.out], hb⟩)
    have hpu : t.pureB = true := by have h := HE12.out; simp [Tm.pureB, HMK.out, t.count_eq, HA.out, counts]; omega
    have cU : ∀ d os, Calls Try.prog 35 #[tv t (.slice a t.kids.length cap)] (Go.Sort.grow (redrawn w2 d) os) fun e w'' => e = .returned (.bool true) ∧ ∃ p : Regrown, w'' = Go.Sort.grow (redrawn w2 p.d) p.os := fun d os => Calls.regrown_of ((pure_any t _ _ ((held_lies H2 HL.out).keep (below_regrown w2 d os))).mono fun e w' ⟨he, hb⟩ => ⟨by rw [he, hpu], hb⟩)
    go_wp2_with fail
    refine wp_region_quiet_below (by kernel_rfl) (by kernel_rfl) ?_
    repeat (any_goals (first | go_big_quiet_step (first | exact cR _ _ | exact cU _ _) | quiet_step (first | exact cR _ _ | exact cU _ _)))
    refine wpQuiet_nil ?_
    intro _ hw'
    obtain ⟨⟨dq, osq⟩, hw''⟩ := hw'
    subst hw''
    have hbq := below_regrown w2 dq osq
    generalize Go.Sort.grow (redrawn w2 dq) osq = w3 at hbq ⊢
    have H3 := held_call H2 hbq
    obtain ⟨y0, y1, y2, y3, y4⟩ := held_cells H3
    clear k0 k1 k2 k3 k4 cR cU x0 x1 x2 x3 x4 hbq H2
    go_wp2
    refine wp_loop_rounds 1 ?_
    rw [rounds_succ]
    have hl0 : t.kids.length = 0 := by rw [HA.out]; rfl
    go_wp2_with fail
    refine (wakes4_any _).mono ?_
    rintro e w4 ⟨rfl, hb4⟩
    have hh4 := held_call H3 hb4
    go_wp2
    go_ret
    exact ⟨rfl, held_below hh4⟩

theorem termSorts_any (t : Tm) (w : World) (s : Value) (hl : Lies w t.kids s) : Calls Try.prog 6 #[tv t s] w fun e w' => e = .returned (.bool true) ∧ Below w.heap.size w w' := by
  cases hm : t.markedB <;> cases hp : t.plainB
  · exact termSorts_D t w s hl hm hp
  · exact termSorts_C t w s hl hm hp
  · exact termSorts_B t w s hl hm hp
  · have hk := both_kind hp
    rw [hm] at hk
    cases e1 : (t.k == 1)
    · exact termSorts_A2 t w s hl hm hp e1 (by rw [e1] at hk; exact hk.symm)
    · exact termSorts_A1 t w s hl hm hp e1
end Go.Proofs.Ytpaaleaomnhocaa
