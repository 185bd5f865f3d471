/-
  The walk of transhiplaw12.DerivExact.
-/
import Derived.Test.YtimockelcebaeaaDWakes
import Derived.Test.YtimockelcebaeaaDAtR
import Derived.Test.YtimockelcebaeaaDRefM
import Derived.Test.YtimockelcebaeaaDWeigh
import Derived.Test.YtimockelcebaeaaDSameKeep
import Derived.BigQuiet
import Derived.Lib.QuietBelow
namespace Go.Proofs.Ytimockelcebaeaa.Dv
open Go.RowKit

theorem givesAt_pair {V : Option Tm} {w w' : World} {e : Ending} (h : GivesAt V w e w') : ∃ s' : Value, e = .returned (.tuple #[tv (V.getD .zero) s', .bool V.isSome]) ∧ Lies w' (V.getD .zero).kids s' ∧ Below w.heap.size w w' := by
  cases V with
  | none => obtain ⟨rfl, hb⟩ := h; exact ⟨_, rfl, lies_nil _, hb⟩
  | some u => obtain ⟨⟨s', rfl, hl⟩, hb⟩ := h; exact ⟨s', rfl, hl, hb⟩

set_option maxRecDepth 20000 in
set_option maxHeartbeats 4000000 in
theorem derivExact_any (t : Tm) (l : List Int) (w : World) (s r : Value) (hl : Lies w t.kids s) (hp : LiesI w l r) : Calls Try.prog 8 #[tv t s, r] w fun e w' => e = .returned (.bool true) ∧ Below w.heap.size w w' := by
  obtain ⟨a, cap, S, rfl, -⟩ := hl.out
  obtain ⟨pa, pcap, rfl, -⟩ := hp.out
  have H0 := held_start w t (.slice a t.kids.length cap)
  have HL := Lib.hid hl
  have HP := Lib.hid hp
  unfold tv
  clear hl hp
  go_enter Try.func8, Try.ntmps8
  go_wp2_with fail
  refine (dgreat_any t _ _ 600 (held_lies H0 HL.out) (by omega) (by omega)).mono ?_
  rintro e w1 ⟨g, rfl, hg, hb1⟩
  have H1 := held_call H0 hb1
  obtain ⟨d0, d1, d2⟩ := held_cells H1
  have HG := Lib.hid hg
  clear hg hb1
  cases g with
  | true =>
    go_wp2
    all_goals go_ret
    all_goals exact ⟨rfl, held_below H1⟩
  | false =>
    have hz := (HG.out rfl).1
    have HSZ := Lib.hid (show t.size ≤ 1000000000000 by omega)
    clear HG
    by_cases hlen : 300 < l.length
    · have e1 : decide ((300 : Int) < (l.length : Int)) = true := decide_eq_true (by omega)
      go_wp2
      all_goals go_ret
      all_goals exact ⟨rfl, held_below H1⟩
    have e1 : decide ((300 : Int) < (l.length : Int)) = false := decide_eq_false (by omega)
    have e2 : decide (300 < l.length) = false := decide_eq_false hlen
    go_wp2_with fail
    have CA := dat_any t l w1 _ _ (held_lies H1 HL.out) (HP.out.keep (held_below H1)) (by omega)
    have CN := Lib.hid (fun w' hb => drefat_any t l w' _ _ (HL.out.keep hb) (HP.out.keep hb))
    obtain ⟨V, hV⟩ : ∃ V, t.at l = V := ⟨_, rfl⟩
    rw [hV] at CA CN
    clear hV
    refine CA.mono ?_
    clear CA
    intro e w3 h3
    obtain ⟨s3, rfl, hl3, hb3⟩ := givesAt_pair h3
    clear h3
    have CN2 : Hid (∀ w', Below w.heap.size w w' → Calls Try.prog 48 #[tv t (.slice a t.kids.length cap), .slice pa l.length pcap] w' fun e w'' => ∃ s' : Value, e = .returned (.tuple #[tv (V.getD .zero) s', .bool V.isSome]) ∧ Lies w'' (V.getD .zero).kids s' ∧ Below w'.heap.size w' w'') := fun w' hb => (CN.out w' hb).mono fun e w'' h => givesAt_pair h
    clear CN
    obtain ⟨u, hu⟩ : ∃ u, V.getD .zero = u := ⟨_, rfl⟩
    obtain ⟨bv, hbv⟩ : ∃ bv, V.isSome = bv := ⟨_, rfl⟩
    rw [hu] at hl3 CN2 ⊢
    rw [hbv] at CN2 ⊢
    clear hu hbv
    obtain ⟨a3, cap3, S3, rfl, -⟩ := hl3.out
    have H3 := held_call H1 hb3
    have hX : Below w3.heap.size w3 (w3.alloc (.cells #[.int .i64 u.k, .int .i64 u.i, .slice a3 u.kids.length cap3] 59)) := (Below.refl _ _).alloc (Nat.le_refl _) _
    have qx := alloc_new w3 (.cells #[.int .i64 u.k, .int .i64 u.i, .slice a3 u.kids.length cap3] 59)
    have HX3 := Lib.hid hl3
    have hs3 : w.heap.size < w3.heap.size := by have := held_size H3; omega
    clear d0 d1 d2 hb3 hl3 H0 H1
    obtain ⟨d0, d1, d2⟩ := held_cells H3
    go_wp2_with fail
    have H4 := held_call H3 hX
    refine (CN2.out _ (held_below H4)).mono ?_
    rintro e w5 ⟨s5, rfl, hl5, hb5⟩
    obtain ⟨a5, cap5, S5, rfl, -⟩ := hl5.out
    have H5 := held_call H4 hb5
    have qx5 := (hb5.block _ (Array.getElem?_eq_some_iff.1 qx).1).trans qx
    have hxs5 := (Array.getElem?_eq_some_iff.1 qx5).1
    have hs5 : w.heap.size < w5.heap.size := by have := held_size H5; omega
    have HX5 := Lib.hid ((HX3.out.keep hX).keep hb5)
    have HY5 := Lib.hid hl5
    clear d0 d1 d2 hb5 hl5 H3 H4 hX qx
    obtain ⟨d0, d1, d2⟩ := held_cells H5
    obtain ⟨x0, x1, x2⟩ := five_cells qx5
    clear qx5
    go_wp2_with fail
    have hY : Below w5.heap.size w5 (w5.alloc (.cells #[.int .i64 u.k, .int .i64 u.i, .slice a5 u.kids.length cap5] 59)) := (Below.refl _ _).alloc (Nat.le_refl _) _
    have qy := alloc_new w5 (.cells #[.int .i64 u.k, .int .i64 u.i, .slice a5 u.kids.length cap5] 59)
    have H6 := held_call H5 hY
    obtain ⟨g0, g1, g2⟩ := held_cells H6
    obtain ⟨y0, y1, y2⟩ := five_cells qy
    have z0 := (hY.cell (p := ⟨w3.heap.size, 0, none⟩) hxs5).trans x0
    have z1 := (hY.cell (p := ⟨w3.heap.size, 1, none⟩) hxs5).trans x1
    have z2 := (hY.cell (p := ⟨w3.heap.size, 2, none⟩) hxs5).trans x2
    have HLT := Lib.hid (held_lies H6 HL.out)
    have HL3 := Lib.hid (HX5.out.keep hY)
    have HL5 := Lib.hid (HY5.out.keep hY)
    have HB6 := Lib.hid (held_below H6)
    clear d0 d1 d2 x0 x1 x2 hY qy H6 H5 HX5 HY5 HX3
    generalize w5.alloc (.cells #[.int .i64 u.k, .int .i64 u.i, .slice a5 u.kids.length cap5] 59) = W at g0 g1 g2 y0 y1 y2 z0 z1 z2 HLT HL3 HL5 HB6 ⊢
    have kq0 := cell_regrown g0
    have kq1 := cell_regrown g1
    have kq2 := cell_regrown g2
    have kq3 := cell_regrown y0
    have kq4 := cell_regrown y1
    have kq5 := cell_regrown y2
    have kq6 := cell_regrown z0
    have kq7 := cell_regrown z1
    have kq8 := cell_regrown z2
    have cR : ∀ d os, Calls Try.prog 49 #[tv t (.slice a t.kids.length cap)] (Go.Sort.grow (redrawn W d) os) fun e w'' => e = .returned (.bool t.rightB) ∧ ∃ p : Regrown, w'' = Go.Sort.grow (redrawn W p.d) p.os := fun d os => Calls.regrown_of ((dright_any t _ _ (HLT.out.keep (below_regrown W d os))).mono fun e w' h => h)
    have cRR : ∀ d os, Calls Try.prog 50 #[tv t (.slice a t.kids.length cap)] (Go.Sort.grow (redrawn W d) os) fun e w'' => e = .returned (.bool t.rightB) ∧ ∃ p : Regrown, w'' = Go.Sort.grow (redrawn W p.d) p.os := fun d os => Calls.regrown_of ((drefright_any t _ _ (HLT.out.keep (below_regrown W d os))).mono fun e w' h => h)
    have cN : ∀ d os, Calls Try.prog 51 #[tv t (.slice a t.kids.length cap)] (Go.Sort.grow (redrawn W d) os) fun e w'' => e = .returned (.int .i64 t.size) ∧ ∃ p : Regrown, w'' = Go.Sort.grow (redrawn W p.d) p.os := fun d os => Calls.regrown_of ((dsize_any t _ _ (HLT.out.keep (below_regrown W d os)) HSZ.out).mono fun e w' h => h)
    have cNR : ∀ d os, Calls Try.prog 52 #[tv t (.slice a t.kids.length cap)] (Go.Sort.grow (redrawn W d) os) fun e w'' => e = .returned (.int .i64 t.size) ∧ ∃ p : Regrown, w'' = Go.Sort.grow (redrawn W p.d) p.os := fun d os => Calls.regrown_of ((drefsize_any t _ _ (HLT.out.keep (below_regrown W d os)) HSZ.out).mono fun e w' h => h)
    have cD : ∀ d os, Calls Try.prog 53 #[tv t (.slice a t.kids.length cap)] (Go.Sort.grow (redrawn W d) os) fun e w'' => e = .returned (.int .i64 t.deep) ∧ ∃ p : Regrown, w'' = Go.Sort.grow (redrawn W p.d) p.os := fun d os => Calls.regrown_of ((ddeep_any t _ _ (HLT.out.keep (below_regrown W d os)) HSZ.out).mono fun e w' h => h)
    have cDR : ∀ d os, Calls Try.prog 54 #[tv t (.slice a t.kids.length cap)] (Go.Sort.grow (redrawn W d) os) fun e w'' => e = .returned (.int .i64 t.deep) ∧ ∃ p : Regrown, w'' = Go.Sort.grow (redrawn W p.d) p.os := fun d os => Calls.regrown_of ((drefdeep_any t _ _ (HLT.out.keep (below_regrown W d os)) HSZ.out).mono fun e w' h => h)
    have cS : ∀ d os, Calls Try.prog 55 #[tv u (.slice a3 u.kids.length cap3), tv u (.slice a5 u.kids.length cap5)] (Go.Sort.grow (redrawn W d) os) fun e w'' => e = .returned (.bool true) ∧ ∃ p : Regrown, w'' = Go.Sort.grow (redrawn W p.d) p.os := fun d os => Calls.regrown_of ((dkeepsame_any u _ _ _ _ (HL3.out.keep (below_regrown W d os)) (HL5.out.keep (below_regrown W d os))).mono fun e w' h => ⟨by rw [h.1, sameB_self], h.2⟩)
    have cW : ∀ d os, Calls Try.prog 45 #[] (Go.Sort.grow (redrawn W d) os) fun e w'' => e = .returned (.bool true) ∧ ∃ p : Regrown, w'' = Go.Sort.grow (redrawn W p.d) p.os := fun d os => Calls.regrown_of ((wakes12_any _).mono fun e w' h => h)
    refine wp_region_quiet_below (by kernel_rfl) (by kernel_rfl) ?_
    repeat (any_goals (first | go_big_quiet_step (first | with_reducible exact cR _ _ | with_reducible exact cRR _ _ | with_reducible exact cN _ _ | with_reducible exact cNR _ _ | with_reducible exact cD _ _ | with_reducible exact cDR _ _ | with_reducible exact cS _ _ | with_reducible exact cW _ _) | quiet_step (first | with_reducible exact cR _ _ | with_reducible exact cRR _ _ | with_reducible exact cN _ _ | with_reducible exact cNR _ _ | with_reducible exact cD _ _ | with_reducible exact cDR _ _ | with_reducible exact cS _ _ | with_reducible exact cW _ _)))
    refine wpQuiet_nil ?_
    intro _ hw'
    obtain ⟨⟨dq, osq⟩, hw''⟩ := hw'
    subst hw''
    have hbq := below_regrown W dq osq
    clear kq0 kq1 kq2 kq3 kq4 kq5 kq6 kq7 kq8 cR cRR cN cNR cD cDR cS cW
    go_wp2
    go_ret
    exact ⟨rfl, HB6.out.trans (hbq.mono HB6.out.size)⟩
end Go.Proofs.Ytimockelcebaeaa.Dv
