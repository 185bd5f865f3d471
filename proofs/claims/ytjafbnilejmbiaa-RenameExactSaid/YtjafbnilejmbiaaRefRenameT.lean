/-
  The page's own Rename.
-/
import Derived.Test.YtjafbnilejmbiaaRefRename
import Derived.Test.YtjafbnilejmbiaaRefLiftT
namespace Go.Proofs.Ytjafbnilejmbiaa
open Go.RowKit

set_option maxRecDepth 20000 in
set_option maxHeartbeats 2000000 in
theorem refrename_any (t : Tm) (to : List Int) (w : World) (s st : Value) (hl : Lies w t.kids s) (ht : LiesI w to st) (hd : t.deep ≤ 100000) : Calls Try.prog 58 #[tv t s, st] w (GivesZ (t.renB to) w) := by
  obtain ⟨a, cap, S, rfl, hc, hm, -, -, -⟩ := hl.out
  have HL := Lib.hid hl
  have HT := ht
  obtain ⟨ta, tcap, rfl, htc, htm, htn⟩ := ht.out
  obtain ⟨du, hu1, hu2⟩ := under_term
  have H0 := boxes_start w t (.slice a t.kids.length cap)
  have HTN := Lib.hid htn
  unfold maxLen at hm htm
  clear hl ht htn
  unfold tv
  cases hr : t.rightB with
  | false =>
    have hres := Lib.hid (show t.renB to = none by unfold Tm.renB; rw [hr]; rfl)
    go_enter Try.func58, Try.ntmps58
    go_wp2_with fail
    refine (refright_any t _ _ (boxes_lies H0 HL.out)).mono ?_
    rw [hr]
    rintro e w2 ⟨rfl, hb2⟩
    have H2 := boxes_call H0 hb2
    obtain ⟨-, q1⟩ := boxes_two H2
    obtain ⟨d0, d1, d2, d3, d4⟩ := held_cells (boxes_held H2)
    obtain ⟨z0, z1, z2, z3, z4⟩ := five_cells q1
    obtain ⟨f0, f1, f2, f3, f4⟩ := five_free q1
    clear hb2 H0
    go_wp2
    (try simp only [Exit.inBlock, Exit.then])
    refine bodyPost_ret (results_cell_tmp rfl _ _ (w.heap.size + 1) _ _ _ du rfl (five_set q1) hu1 (by cases du <;> first | rfl | exact hu2) size_term) rfl ?_
    exact ⟨below_five (boxes_under H2) (by omega) _ _ _ _ _, Or.inr ⟨hres.out, rfl⟩⟩
  | true =>
    have hfr := t.free_range hr
    have hrs := ren_some to t 0 (Int.le_refl _) hr
    rw [Int.add_zero] at hrs
    have HRS := Lib.hid hrs
    clear hrs
    go_enter Try.func58, Try.ntmps58
    go_wp2_with fail
    refine (refright_any t _ _ (boxes_lies H0 HL.out)).mono ?_
    rw [hr]
    rintro e w2 ⟨rfl, hb2⟩
    have H2 := boxes_call H0 hb2
    obtain ⟨-, q1⟩ := boxes_two H2
    obtain ⟨d0, d1, d2, d3, d4⟩ := held_cells (boxes_held H2)
    obtain ⟨z0, z1, z2, z3, z4⟩ := five_cells q1
    obtain ⟨f0, f1, f2, f3, f4⟩ := five_free q1
    clear hb2 H0
    go_wp2_with fail
    refine (reffree_any t _ _ (boxes_lies H2 HL.out) hr).mono ?_
    rintro e w3 ⟨rfl, hb3⟩
    have H3 := boxes_call H2 hb3
    clear q1
    obtain ⟨-, q1⟩ := boxes_two H3
    obtain ⟨d0, d1, d2, d3, d4⟩ := held_cells (boxes_held H3)
    obtain ⟨z0, z1, z2, z3, z4⟩ := five_cells q1
    obtain ⟨f0, f1, f2, f3, f4⟩ := five_free q1
    clear hb3 H2
    by_cases hlen : (to.length : Int) < t.freeN
    · have e1 : decide ((to.length : Int) < t.freeN) = true := by simpa using hlen
      have hres := Lib.hid (show t.renB to = none by
        unfold Tm.renB
        cases hx : t.each (renF to) 0 with
        | none => split <;> rfl
        | some u => have := HRS.out.1 (by rw [hx]; rfl); omega)
      go_wp2
      (try simp only [Exit.inBlock, Exit.then])
      refine bodyPost_ret (results_cell_tmp rfl _ _ (w.heap.size + 1) _ _ _ du rfl (five_set q1) hu1 (by cases du <;> first | rfl | exact hu2) size_term) rfl ?_
      exact ⟨below_five (boxes_under H3) (by omega) _ _ _ _ _, Or.inr ⟨hres.out, rfl⟩⟩
    have e1 : decide ((to.length : Int) < t.freeN) = false := by simpa using hlen
    go_wp2_with fail
    go_loop [6] (fun i => ∃ q : Nat, q ≤ to.length ∧ i = .int .i64 q ∧ Hid (goodTo (to.take q) = true)) (fun i => to.length - (intOf i).toNat)
    case atStart => exact ⟨0, Nat.zero_le _, rfl, rfl⟩
    case round =>
      obtain ⟨q, hq, rfl, hgood⟩ := hrel
      by_cases hlt : q < to.length
      · obtain ⟨b2, o, rfl, hx⟩ := HTN.out q hlt
        have hx2 := cell_lat (boxes_under H3) hx
        clear hx
        by_cases hx0 : to[q] < 0
        · have e2 : decide (to[q] < 0) = true := by simpa using hx0
          have hres := Lib.hid (show t.renB to = none by unfold Tm.renB; rw [good_bad hlt (Or.inl hx0), Bool.and_false]; rfl)
          clear hx0
          go_wp2
          (try simp only [Exit.inBlock, Exit.then])
          refine bodyPost_ret (results_cell_tmp rfl _ _ (w.heap.size + 1) _ _ _ du rfl (five_set q1) hu1 (by cases du <;> first | rfl | exact hu2) size_term) rfl ?_
          exact ⟨below_five (boxes_under H3) (by omega) _ _ _ _ _, Or.inr ⟨hres.out, rfl⟩⟩
        have e2 : decide (to[q] < 0) = false := by simpa using hx0
        by_cases hx1 : 1073741824 < to[q]
        · have e3 : decide (1073741824 < to[q]) = true := by simpa using hx1
          have hres := Lib.hid (show t.renB to = none by unfold Tm.renB; rw [good_bad hlt (Or.inr hx1), Bool.and_false]; rfl)
          clear hx0 hx1
          go_wp2
          (try simp only [Exit.inBlock, Exit.then])
          refine bodyPost_ret (results_cell_tmp rfl _ _ (w.heap.size + 1) _ _ _ du rfl (five_set q1) hu1 (by cases du <;> first | rfl | exact hu2) size_term) rfl ?_
          exact ⟨below_five (boxes_under H3) (by omega) _ _ _ _ _, Or.inr ⟨hres.out, rfl⟩⟩
        have e3 : decide (1073741824 < to[q]) = false := by simpa using hx1
        have hgood2 := good_next hlt hgood.out hx0 hx1
        have HG := Lib.hid hgood2
        clear hgood hgood2 hx0 hx1
        go_wp2_with fail
        go_round
        case rel => exact ⟨q + 1, hlt, by go_num, HG.out⟩
        case measure => simp [intOf]; omega
      · have : q = to.length := by omega
        subst this
        have hgt : goodTo to = true := by have := hgood.out; rwa [List.take_length] at this
        obtain ⟨u, hu⟩ := Option.isSome_iff_exists.1 (HRS.out.2 (by omega))
        have hren := Lib.hid (show t.renB to = some u by unfold Tm.renB; rw [hr, hgt]; exact hu)
        have HU := Lib.hid hu
        clear hu hgood
        go_wp2_with fail
        refine (rename_any' to ta tcap hgt t 0 u w3 _ (boxes_lies H3 HL.out) hr (by omega) (by omega) (HT.keep (boxes_under H3)) HU.out).mono ?_
        rintro e w4 ⟨s4, rfl, hl4, hb4⟩
        obtain ⟨a4, cap4, rfl, -, -⟩ := hl4.out
        have H4 := boxes_call H3 hb4
        have hs3 : w.heap.size + 2 ≤ w3.heap.size := by have := Below.size H3; simpa using this
        have HL4 := Lib.hid hl4
        clear q1 hb4 hl4
        obtain ⟨-, q1⟩ := boxes_two H4
        obtain ⟨d0, d1, d2, d3, d4⟩ := held_cells (boxes_held H4)
        obtain ⟨z0, z1, z2, z3, z4⟩ := five_cells q1
        obtain ⟨f0, f1, f2, f3, f4⟩ := five_free q1
        go_wp2
        (try simp only [Exit.inBlock, Exit.then])
        refine bodyPost_ret (results_cell_tmp rfl _ _ (w.heap.size + 1) _ _ _ du rfl (five_set q1) hu1 (by cases du <;> first | rfl | exact hu2) size_term) rfl ?_
        exact ⟨below_five (boxes_under H4) (by omega) _ _ _ _ _, Or.inl ⟨_, _, hren.out, rfl, liesP_fives HL4.out (by omega) (by omega) _ _ _ _ _⟩⟩
end Go.Proofs.Ytjafbnilejmbiaa
