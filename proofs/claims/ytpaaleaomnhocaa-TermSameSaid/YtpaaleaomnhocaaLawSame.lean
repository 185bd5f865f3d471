/-
  The walk of transhiplaw04.TermSame.
-/
import Derived.Test.YtpaaleaomnhocaaWakes4
import Derived.Test.YtpaaleaomnhocaaTwin
import Derived.Test.YtpaaleaomnhocaaSameTerm
import Derived.Test.YtpaaleaomnhocaaSameRef
import Derived.Test.YtpaaleaomnhocaaTop
import Derived.Deep.RegionHeld3
import Derived.Lib.QuietBelow
import Derived.BigQuiet
import Derived.Test.YtpaaleaomnhocaaSameKeep
namespace Go.Proofs.Ytpaaleaomnhocaa
open Go.RowKit

set_option maxRecDepth 20000 in
set_option maxHeartbeats 4000000 in
theorem termSame_any (t u : Tm) (w : World) (s r : Value) (hl : Lies w t.kids s) (hm : Lies w u.kids r) : Calls Try.prog 5 #[tv t s, tv u r] w fun e w' => e = .returned (.bool true) ∧ Below w.heap.size w w' := by
  obtain ⟨a, cap, S, rfl, hc, hmx, -, hn, hk⟩ := hl.out
  obtain ⟨a2, cap2, S2, rfl, hc2, hmx2, -, hn2, hk2⟩ := hm.out
  unfold maxLen at hmx hmx2
  unfold tv
  have HL := Lib.hid hl
  have HM := Lib.hid hm
  clear hl hm hn hk hn2 hk2
  go_enter Try.func5, Try.ntmps5
  go_wp2_with fail
  have H0 := held2_start w t (.slice a t.kids.length cap) u (.slice a2 u.kids.length cap2)
  refine (great_any t _ _ _ (held2_lies H0 HL.out) (by omega) (by omega)).mono ?_
  rintro e w1 ⟨g, rfl, hg, hb'⟩
  have H1 := held2_call H0 hb'
  have HG := Lib.hid hg
  obtain ⟨d0, d1, d2, d3, d4, e0, e1, e2, e3, e4⟩ := held2_cells H1
  clear hg hb'
  cases g with
  | true =>
    go_wp2
    go_ret
    exact ⟨rfl, held2_below H1⟩
  | false =>
    have hz := (HG.out rfl).1
    clear HG
    go_wp2_with fail
    refine (great_any u _ _ _ (held2_lies H1 HM.out) (by omega) (by omega)).mono ?_
    rintro e w2 ⟨g, rfl, hg, hb'⟩
    have H2 := held2_call H1 hb'
    have HG := Lib.hid hg
    obtain ⟨d0, d1, d2, d3, d4, e0, e1, e2, e3, e4⟩ := held2_cells H2
    clear hg hb'
    cases g with
    | true =>
      go_wp2
      go_ret
      exact ⟨rfl, held2_below H2⟩
    | false =>
      have hy := (HG.out rfl).1
      clear HG
      go_wp2_with fail
      refine (same_any t u _ _ _ (held2_lies H2 HL.out) (held2_lies H2 HM.out)).mono ?_
      rintro e w3 ⟨rfl, hb'⟩
      have H3 := held2_call H2 hb'
      obtain ⟨x0, x1, x2, x3, x4, y0, y1, y2, y3, y4⟩ := held2_cells H3
      have hself := sameB_self t
      have hcomm := sameB_comm u t
      clear hb' d0 d1 d2 d3 d4 e0 e1 e2 e3 e4 H0 H1 H2
      cases hx : sameB t u
      · rw [hx] at hcomm
        go_wp2_with fail
        go_region_held3 (fun w' => Held2 w t (.slice a t.kids.length cap) u (.slice a2 u.kids.length cap2) w' ∧ w'.cell? ⟨w.heap.size, 0, none⟩ = some (.int .i64 t.k) ∧ w'.cell? ⟨w.heap.size, 1, none⟩ = some (.int .i64 t.i) ∧ w'.cell? ⟨w.heap.size, 2, none⟩ = some (.int .i64 t.j) ∧ w'.cell? ⟨w.heap.size, 3, none⟩ = some (.int .i64 t.n) ∧ w'.cell? ⟨w.heap.size, 4, none⟩ = some (.slice a t.kids.length cap) ∧ w'.cell? ⟨w.heap.size + 1, 0, none⟩ = some (.int .i64 u.k) ∧ w'.cell? ⟨w.heap.size + 1, 1, none⟩ = some (.int .i64 u.i) ∧ w'.cell? ⟨w.heap.size + 1, 2, none⟩ = some (.int .i64 u.j) ∧ w'.cell? ⟨w.heap.size + 1, 3, none⟩ = some (.int .i64 u.n) ∧ w'.cell? ⟨w.heap.size + 1, 4, none⟩ = some (.slice a2 u.kids.length cap2))
          (first | exact ⟨by assumption, held2_cells (by assumption)⟩ | exact ⟨held2_drew (by assumption), held2_cells (held2_drew (by assumption))⟩ | go_keep)
          (first | (go_at_call 51; have hS := (‹Held2 w t (.slice a t.kids.length cap) u (.slice a2 u.kids.length cap2) _ ∧ _›).1; refine (keepsame_any t u _ _ _ (by exact held2_lies hS HL.out) (by exact held2_lies hS HM.out)).mono ?_; rintro e wn ⟨rfl, hbn⟩; have hh := held2_call hS hbn; obtain ⟨x0, x1, x2, x3, x4, y0, y1, y2, y3, y4⟩ := held2_cells hh; clear hbn hS) | (go_at_call 52; have hS := (‹Held2 w t (.slice a t.kids.length cap) u (.slice a2 u.kids.length cap2) _ ∧ _›).1; refine (twin_any t _ _ (by exact held2_lies hS HL.out) (by omega)).mono ?_; rintro e wn ⟨s', rfl, hl2, hbn⟩; obtain ⟨a3, cap3, rfl, -, -⟩ := hl2.out; have HT3 := Lib.hid hl2.lies; clear hl2; have hh := held2_call hS hbn; obtain ⟨x0, x1, x2, x3, x4, y0, y1, y2, y3, y4⟩ := held2_cells hh; clear hbn hS) | (go_at_call 50; have h3 := HT3.out; have hS := (‹Held2 w t (.slice a t.kids.length cap) u (.slice a2 u.kids.length cap2) _ ∧ _›).1; refine (same_any t t _ _ _ (by exact held2_lies hS HL.out) h3).mono ?_; rintro e wn ⟨rfl, hbn⟩; clear h3 HT3; have hh := held2_call hS hbn; obtain ⟨x0, x1, x2, x3, x4, y0, y1, y2, y3, y4⟩ := held2_cells hh; clear hbn hS) | (go_at_call 50; have hS := (‹Held2 w t (.slice a t.kids.length cap) u (.slice a2 u.kids.length cap2) _ ∧ _›).1; refine (same_any u t _ _ _ (by exact held2_lies hS HM.out) (by exact held2_lies hS HL.out)).mono ?_; rintro e wn ⟨rfl, hbn⟩; have hh := held2_call hS hbn; obtain ⟨x0, x1, x2, x3, x4, y0, y1, y2, y3, y4⟩ := held2_cells hh; clear hbn hS))
        have H4 := hh
        obtain ⟨x0, x1, x2, x3, x4, y0, y1, y2, y3, y4⟩ := held2_cells hh
        generalize wn = w4 at *
        have k0 := cell_regrown x0
        have m0 := cell_regrown y0
        have k1 := cell_regrown x1
        have m1 := cell_regrown y1
        have k2 := cell_regrown x2
        have m2 := cell_regrown y2
        have k3 := cell_regrown x3
        have m3 := cell_regrown y3
        have k4 := cell_regrown x4
        have m4 := cell_regrown y4
        have cW : ∀ d os, Calls Try.prog 45 #[] (Go.Sort.grow (redrawn w4 d) os) fun e w'' => e = .returned (.bool true) ∧ ∃ p : Regrown, w'' = Go.Sort.grow (redrawn w4 p.d) p.os := fun d os => Calls.regrown_of ((wakes4_any _).mono fun e w' ⟨he, hb⟩ => ⟨by rw [he], hb⟩)
        go_wp2_with fail
        refine wp_region_quiet_below (by kernel_rfl) (by kernel_rfl) ?_
        repeat (any_goals (first | go_big_quiet_step (first | with_reducible exact cW _ _) | quiet_step (first | with_reducible exact cW _ _)))
        refine wpQuiet_nil ?_
        intro _ hw'
        obtain ⟨⟨dq, osq⟩, hw''⟩ := hw'
        subst hw''
        have hbq := below_regrown w4 dq osq
        generalize Go.Sort.grow (redrawn w4 dq) osq = w5 at hbq ⊢
        have H5 := held2_call H4 hbq
        go_wp2
        go_ret
        exact ⟨rfl, held2_below H5⟩
      · rw [hx] at hcomm
        go_wp2_with fail
        go_region_held3 (fun w' => Held2 w t (.slice a t.kids.length cap) u (.slice a2 u.kids.length cap2) w' ∧ w'.cell? ⟨w.heap.size, 0, none⟩ = some (.int .i64 t.k) ∧ w'.cell? ⟨w.heap.size, 1, none⟩ = some (.int .i64 t.i) ∧ w'.cell? ⟨w.heap.size, 2, none⟩ = some (.int .i64 t.j) ∧ w'.cell? ⟨w.heap.size, 3, none⟩ = some (.int .i64 t.n) ∧ w'.cell? ⟨w.heap.size, 4, none⟩ = some (.slice a t.kids.length cap) ∧ w'.cell? ⟨w.heap.size + 1, 0, none⟩ = some (.int .i64 u.k) ∧ w'.cell? ⟨w.heap.size + 1, 1, none⟩ = some (.int .i64 u.i) ∧ w'.cell? ⟨w.heap.size + 1, 2, none⟩ = some (.int .i64 u.j) ∧ w'.cell? ⟨w.heap.size + 1, 3, none⟩ = some (.int .i64 u.n) ∧ w'.cell? ⟨w.heap.size + 1, 4, none⟩ = some (.slice a2 u.kids.length cap2))
          (first | exact ⟨by assumption, held2_cells (by assumption)⟩ | exact ⟨held2_drew (by assumption), held2_cells (held2_drew (by assumption))⟩ | go_keep)
          (first | (go_at_call 51; have hS := (‹Held2 w t (.slice a t.kids.length cap) u (.slice a2 u.kids.length cap2) _ ∧ _›).1; refine (keepsame_any t u _ _ _ (by exact held2_lies hS HL.out) (by exact held2_lies hS HM.out)).mono ?_; rintro e wn ⟨rfl, hbn⟩; have hh := held2_call hS hbn; obtain ⟨x0, x1, x2, x3, x4, y0, y1, y2, y3, y4⟩ := held2_cells hh; clear hbn hS) | (go_at_call 52; have hS := (‹Held2 w t (.slice a t.kids.length cap) u (.slice a2 u.kids.length cap2) _ ∧ _›).1; refine (twin_any t _ _ (by exact held2_lies hS HL.out) (by omega)).mono ?_; rintro e wn ⟨s', rfl, hl2, hbn⟩; obtain ⟨a3, cap3, rfl, -, -⟩ := hl2.out; have HT3 := Lib.hid hl2.lies; clear hl2; have hh := held2_call hS hbn; obtain ⟨x0, x1, x2, x3, x4, y0, y1, y2, y3, y4⟩ := held2_cells hh; clear hbn hS) | (go_at_call 50; have h3 := HT3.out; have hS := (‹Held2 w t (.slice a t.kids.length cap) u (.slice a2 u.kids.length cap2) _ ∧ _›).1; refine (same_any t t _ _ _ (by exact held2_lies hS HL.out) h3).mono ?_; rintro e wn ⟨rfl, hbn⟩; clear h3 HT3; have hh := held2_call hS hbn; obtain ⟨x0, x1, x2, x3, x4, y0, y1, y2, y3, y4⟩ := held2_cells hh; clear hbn hS) | (go_at_call 50; have hS := (‹Held2 w t (.slice a t.kids.length cap) u (.slice a2 u.kids.length cap2) _ ∧ _›).1; refine (same_any u t _ _ _ (by exact held2_lies hS HM.out) (by exact held2_lies hS HL.out)).mono ?_; rintro e wn ⟨rfl, hbn⟩; have hh := held2_call hS hbn; obtain ⟨x0, x1, x2, x3, x4, y0, y1, y2, y3, y4⟩ := held2_cells hh; clear hbn hS))
        have htu := sameB_true _ _ hx
        subst htu
        have H4 := hh
        obtain ⟨x0, x1, x2, x3, x4, y0, y1, y2, y3, y4⟩ := held2_cells hh
        generalize wn = w4 at *
        have k0 := cell_regrown x0
        have m0 := cell_regrown y0
        have k1 := cell_regrown x1
        have m1 := cell_regrown y1
        have k2 := cell_regrown x2
        have m2 := cell_regrown y2
        have k3 := cell_regrown x3
        have m3 := cell_regrown y3
        have k4 := cell_regrown x4
        have m4 := cell_regrown y4
        have cW : ∀ d os, Calls Try.prog 45 #[] (Go.Sort.grow (redrawn w4 d) os) fun e w'' => e = .returned (.bool true) ∧ ∃ p : Regrown, w'' = Go.Sort.grow (redrawn w4 p.d) p.os := fun d os => Calls.regrown_of ((wakes4_any _).mono fun e w' ⟨he, hb⟩ => ⟨by rw [he], hb⟩)
        have zA : ∀ d os, Calls Try.prog 39 #[.agg #[.int .i64 t.k, .int .i64 t.i, .int .i64 t.j, .int .i64 t.n, .slice a t.kids.length cap]] (Go.Sort.grow (redrawn w4 d) os) fun e w'' => e = .returned (.int .i64 t.size) ∧ ∃ p : Regrown, w'' = Go.Sort.grow (redrawn w4 p.d) p.os := fun d os => Calls.regrown_of ((size_any t _ _ ((held2_lies H4 HL.out).keep (below_regrown w4 d os)) (by omega)).mono fun e w' ⟨he, hb⟩ => ⟨by rw [he], hb⟩)
        have zB : ∀ d os, Calls Try.prog 39 #[.agg #[.int .i64 t.k, .int .i64 t.i, .int .i64 t.j, .int .i64 t.n, .slice a2 t.kids.length cap2]] (Go.Sort.grow (redrawn w4 d) os) fun e w'' => e = .returned (.int .i64 t.size) ∧ ∃ p : Regrown, w'' = Go.Sort.grow (redrawn w4 p.d) p.os := fun d os => Calls.regrown_of ((size_any t _ _ ((held2_lies H4 HM.out).keep (below_regrown w4 d os)) (by omega)).mono fun e w' ⟨he, hb⟩ => ⟨by rw [he], hb⟩)
        cases hr : t.rightB
        · have cA : ∀ d os, Calls Try.prog 31 #[.agg #[.int .i64 t.k, .int .i64 t.i, .int .i64 t.j, .int .i64 t.n, .slice a t.kids.length cap]] (Go.Sort.grow (redrawn w4 d) os) fun e w'' => e = .returned (.bool false) ∧ ∃ p : Regrown, w'' = Go.Sort.grow (redrawn w4 p.d) p.os := fun d os => Calls.regrown_of ((right_any t _ _ ((held2_lies H4 HL.out).keep (below_regrown w4 d os))).mono fun e w' ⟨he, hb⟩ => ⟨by rw [he, hr], hb⟩)
          have cB : ∀ d os, Calls Try.prog 31 #[.agg #[.int .i64 t.k, .int .i64 t.i, .int .i64 t.j, .int .i64 t.n, .slice a2 t.kids.length cap2]] (Go.Sort.grow (redrawn w4 d) os) fun e w'' => e = .returned (.bool false) ∧ ∃ p : Regrown, w'' = Go.Sort.grow (redrawn w4 p.d) p.os := fun d os => Calls.regrown_of ((right_any t _ _ ((held2_lies H4 HM.out).keep (below_regrown w4 d os))).mono fun e w' ⟨he, hb⟩ => ⟨by rw [he, hr], hb⟩)
          go_wp2_with fail
          refine wp_region_quiet_below (by kernel_rfl) (by kernel_rfl) ?_
          repeat (any_goals (first | go_big_quiet_step (first | with_reducible exact cA _ _ | with_reducible exact cB _ _ | with_reducible exact zA _ _ | with_reducible exact zB _ _ | with_reducible exact cW _ _) | quiet_step (first | with_reducible exact cA _ _ | with_reducible exact cB _ _ | with_reducible exact zA _ _ | with_reducible exact zB _ _ | with_reducible exact cW _ _)))
          refine wpQuiet_nil ?_
          intro _ hw'
          obtain ⟨⟨dq, osq⟩, hw''⟩ := hw'
          subst hw''
          have hbq := below_regrown w4 dq osq
          generalize Go.Sort.grow (redrawn w4 dq) osq = w5 at hbq ⊢
          have H5 := held2_call H4 hbq
          go_wp2
          go_ret
          exact ⟨rfl, held2_below H5⟩
        · have cA : ∀ d os, Calls Try.prog 31 #[.agg #[.int .i64 t.k, .int .i64 t.i, .int .i64 t.j, .int .i64 t.n, .slice a t.kids.length cap]] (Go.Sort.grow (redrawn w4 d) os) fun e w'' => e = .returned (.bool true) ∧ ∃ p : Regrown, w'' = Go.Sort.grow (redrawn w4 p.d) p.os := fun d os => Calls.regrown_of ((right_any t _ _ ((held2_lies H4 HL.out).keep (below_regrown w4 d os))).mono fun e w' ⟨he, hb⟩ => ⟨by rw [he, hr], hb⟩)
          have cB : ∀ d os, Calls Try.prog 31 #[.agg #[.int .i64 t.k, .int .i64 t.i, .int .i64 t.j, .int .i64 t.n, .slice a2 t.kids.length cap2]] (Go.Sort.grow (redrawn w4 d) os) fun e w'' => e = .returned (.bool true) ∧ ∃ p : Regrown, w'' = Go.Sort.grow (redrawn w4 p.d) p.os := fun d os => Calls.regrown_of ((right_any t _ _ ((held2_lies H4 HM.out).keep (below_regrown w4 d os))).mono fun e w' ⟨he, hb⟩ => ⟨by rw [he, hr], hb⟩)
          go_wp2_with fail
          refine wp_region_quiet_below (by kernel_rfl) (by kernel_rfl) ?_
          repeat (any_goals (first | go_big_quiet_step (first | with_reducible exact cA _ _ | with_reducible exact cB _ _ | with_reducible exact zA _ _ | with_reducible exact zB _ _ | with_reducible exact cW _ _) | quiet_step (first | with_reducible exact cA _ _ | with_reducible exact cB _ _ | with_reducible exact zA _ _ | with_reducible exact zB _ _ | with_reducible exact cW _ _)))
          refine wpQuiet_nil ?_
          intro _ hw'
          obtain ⟨⟨dq, osq⟩, hw''⟩ := hw'
          subst hw''
          have hbq := below_regrown w4 dq osq
          generalize Go.Sort.grow (redrawn w4 dq) osq = w5 at hbq ⊢
          have H5 := held2_call H4 hbq
          go_wp2
          go_ret
          exact ⟨rfl, held2_below H5⟩
end Go.Proofs.Ytpaaleaomnhocaa
