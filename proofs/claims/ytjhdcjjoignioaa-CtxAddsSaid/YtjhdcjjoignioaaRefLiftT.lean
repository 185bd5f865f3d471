/-
  The page's own Lift.
-/
import Derived.Test.YtjhdcjjoignioaaRefLift
import Derived.Test.YtjhdcjjoignioaaRefMore
import Derived.Test.YtjhdcjjoignioaaBoxes
namespace Go.Proofs.Ytjhdcjjoignioaa
open Go.RowKit

set_option maxHeartbeats 2000000 in
theorem reflift_any (t : Tm) (k c : Int) (w : World) (s : Value) (hl : Lies w t.kids s) (hk : I64 k) (hci : I64 c) (hd : t.deep ≤ 100000) : Calls Try.prog 26 #[tv t s, .int .i64 k, .int .i64 c] w (Makes (t.liftB k c) w) := by
  obtain ⟨a, cap, S, rfl, hc, hm, -, -, -⟩ := hl.out
  have HL := Lib.hid hl
  obtain ⟨du, hu1, hu2⟩ := under_term
  have H0 := boxes_start w t (.slice a t.kids.length cap)
  clear hl
  unfold tv
  cases hr : t.rightB with
  | false =>
    have hres : t.liftB k c = Tm.zero := by unfold Tm.liftB; rw [if_pos (Or.inr (Or.inr hr))]
    go_enter Try.func26, Try.ntmps26
    go_wp2_with fail
    refine (refright_any t _ _ (boxes_lies H0 HL.out)).mono ?_
    rw [hr]
    rintro e w2 ⟨rfl, hb2⟩
    have H2 := boxes_call H0 hb2
    have hB2 := boxes_under H2
    obtain ⟨-, q1⟩ := boxes_two H2
    obtain ⟨d0, d1, d2, d3, d4⟩ := held_cells (boxes_held H2)
    obtain ⟨z0, z1, z2, z3, z4⟩ := five_cells q1
    obtain ⟨f0, f1, f2, f3, f4⟩ := five_free q1
    clear hb2
    go_wp2
    refine bodyPost_ret (results_cell_row rfl _ _ (w.heap.size + 1) _ _ _ du rfl (five_set q1) hu1 (by cases du <;> first | rfl | exact hu2) size_term) rfl ?_
    rw [hres]
    exact ⟨.slice none 0 0, rfl, liesP_nil _ _, below_five hB2 (by omega) _ _ _ _ _⟩
  | true =>
    by_cases hk0 : k < 0
    · have e1 : decide (k < 0) = true := by simpa using hk0
      have hres : t.liftB k c = Tm.zero := by unfold Tm.liftB; rw [if_pos (Or.inl hk0)]
      go_enter Try.func26, Try.ntmps26
      go_wp2_with fail
      refine (refright_any t _ _ (boxes_lies H0 HL.out)).mono ?_
      rw [hr]
      rintro e w2 ⟨rfl, hb2⟩
      have H2 := boxes_call H0 hb2
      have hB2 := boxes_under H2
      obtain ⟨-, q1⟩ := boxes_two H2
      obtain ⟨d0, d1, d2, d3, d4⟩ := held_cells (boxes_held H2)
      obtain ⟨z0, z1, z2, z3, z4⟩ := five_cells q1
      obtain ⟨f0, f1, f2, f3, f4⟩ := five_free q1
      clear hb2
      go_wp2
      refine bodyPost_ret (results_cell_row rfl _ _ (w.heap.size + 1) _ _ _ du rfl (five_set q1) hu1 (by cases du <;> first | rfl | exact hu2) size_term) rfl ?_
      rw [hres]
      exact ⟨.slice none 0 0, rfl, liesP_nil _ _, below_five hB2 (by omega) _ _ _ _ _⟩
    have e1 : decide (k < 0) = false := by simpa using hk0
    by_cases hc0 : c < 0
    · have e2 : decide (c < 0) = true := by simpa using hc0
      have hres : t.liftB k c = Tm.zero := by unfold Tm.liftB; rw [if_pos (Or.inr (Or.inl hc0))]
      go_enter Try.func26, Try.ntmps26
      go_wp2_with fail
      refine (refright_any t _ _ (boxes_lies H0 HL.out)).mono ?_
      rw [hr]
      rintro e w2 ⟨rfl, hb2⟩
      have H2 := boxes_call H0 hb2
      have hB2 := boxes_under H2
      obtain ⟨-, q1⟩ := boxes_two H2
      obtain ⟨d0, d1, d2, d3, d4⟩ := held_cells (boxes_held H2)
      obtain ⟨z0, z1, z2, z3, z4⟩ := five_cells q1
      obtain ⟨f0, f1, f2, f3, f4⟩ := five_free q1
      clear hb2
      go_wp2
      refine bodyPost_ret (results_cell_row rfl _ _ (w.heap.size + 1) _ _ _ du rfl (five_set q1) hu1 (by cases du <;> first | rfl | exact hu2) size_term) rfl ?_
      rw [hres]
      exact ⟨.slice none 0 0, rfl, liesP_nil _ _, below_five hB2 (by omega) _ _ _ _ _⟩
    have e2 : decide (c < 0) = false := by simpa using hc0
    have hlb : t.liftB k c = (t.rlift k c).getD .zero := by unfold Tm.liftB; rw [if_neg (by rw [hr]; simp; omega), rlift_lift t k c (by omega) (by omega) (by omega) hr]
    have HLB := Lib.hid hlb
    clear hlb
    go_enter Try.func26, Try.ntmps26
    go_wp2_with fail
    refine (refright_any t _ _ (boxes_lies H0 HL.out)).mono ?_
    rw [hr]
    rintro e w2 ⟨rfl, hb2⟩
    have H2 := boxes_call H0 hb2
    obtain ⟨-, q1⟩ := boxes_two H2
    obtain ⟨d0, d1, d2, d3, d4⟩ := held_cells (boxes_held H2)
    obtain ⟨z0, z1, z2, z3, z4⟩ := five_cells q1
    obtain ⟨f0, f1, f2, f3, f4⟩ := five_free q1
    clear hb2
    go_wp2_with fail
    refine (rlift_any k hk (by omega) t c w2 _ (boxes_lies H2 HL.out) hr (by omega) hci.2).mono ?_
    intro e w3 hg
    cases hx : t.rlift k c with
    | none =>
      rw [hx] at hg HLB
      obtain ⟨⟨z, rfl⟩, hb3⟩ := hg.none
      have H3 := boxes_call H2 hb3
      have hB3 := boxes_under H3
      have hs3 : w.heap.size + 1 < w3.heap.size := by have := Below.size H3; simp at this; omega
      obtain ⟨-, q3⟩ := boxes_two H3
      obtain ⟨z0, z1, z2, z3, z4⟩ := five_cells q3
      obtain ⟨f0, f1, f2, f3, f4⟩ := five_free q3
      clear hb3 hg q1
      go_wp2
      refine bodyPost_ret (results_cell_row rfl _ _ (w.heap.size + 1) _ _ _ du rfl (five_alloc q3 _ _ _ _ _ _) hu1 (by cases du <;> first | rfl | exact hu2) size_term) rfl ?_
      rw [HLB.out]
      exact ⟨.slice none 0 0, rfl, liesP_nil _ _, below_five_alloc hB3 hB3.size (by omega) _ _ _ _ _ _⟩
    | some u =>
      rw [hx] at hg HLB
      obtain ⟨⟨s2, rfl, hl2⟩, hb3⟩ := hg.some
      obtain ⟨a2, cap2, rfl, -, -⟩ := hl2.out
      have H3 := boxes_call H2 hb3
      have hB3 := boxes_under H3
      have hs3 : w.heap.size + 1 < w3.heap.size := by have := Below.size H3; simp at this; omega
      have hs2 : w.heap.size + 2 ≤ w2.heap.size := by have := Below.size H2; simpa using this
      obtain ⟨-, q3⟩ := boxes_two H3
      obtain ⟨z0, z1, z2, z3, z4⟩ := five_cells q3
      obtain ⟨f0, f1, f2, f3, f4⟩ := five_free q3
      clear hb3 hg q1
      go_wp2
      refine bodyPost_ret (results_cell_row rfl _ _ (w.heap.size + 1) _ _ _ du rfl (five_alloc q3 _ _ _ _ _ _) hu1 (by cases du <;> first | rfl | exact hu2) size_term) rfl ?_
      rw [HLB.out]
      exact ⟨.slice a2 u.kids.length cap2, rfl, liesP_fives_alloc hl2 (by omega) (by omega) _ _ _ _ _ _, below_five_alloc hB3 hB3.size (by omega) _ _ _ _ _ _⟩
end Go.Proofs.Ytjhdcjjoignioaa
