/-
  strip.Strip.
-/
import Derived.Test.YtjafbnilejmbiaaBareM
import Derived.Test.YtjafbnilejmbiaaRefLiftT
namespace Go.Proofs.Ytjafbnilejmbiaa
open Go.RowKit

def Tm.stripB (t : Tm) : Tm := if t.rightB = true then t.bare else .zero

set_option maxHeartbeats 2000000 in
theorem strip_any (t : Tm) (w : World) (s : Value) (hl : Lies w t.kids s) : Calls Try.prog 60 #[tv t s] w (Makes t.stripB w) := by
  obtain ⟨a, cap, S, rfl, hc, hm, -, -, -⟩ := hl.out
  have HL := Lib.hid hl
  obtain ⟨du, hu1, hu2⟩ := under_term
  have H0 := boxes_start w t (.slice a t.kids.length cap)
  clear hl
  unfold tv
  cases hr : t.rightB with
  | false =>
    have hres := Lib.hid (show t.stripB = Tm.zero by unfold Tm.stripB; rw [if_neg (by rw [hr]; decide)])
    go_enter Try.func60, Try.ntmps60
    go_wp2_with fail
    refine (right_any t _ _ (boxes_lies H0 HL.out)).mono ?_
    rw [hr]
    rintro e w2 ⟨rfl, hb2⟩
    have H2 := boxes_call H0 hb2
    obtain ⟨-, q1⟩ := boxes_two H2
    obtain ⟨d0, d1, d2, d3, d4⟩ := held_cells (boxes_held H2)
    obtain ⟨z0, z1, z2, z3, z4⟩ := five_cells q1
    obtain ⟨f0, f1, f2, f3, f4⟩ := five_free q1
    clear hb2 H0
    go_wp2
    refine bodyPost_ret (results_cell_row rfl _ _ (w.heap.size + 1) _ _ _ du rfl (five_set q1) hu1 (by cases du <;> first | rfl | exact hu2) size_term) rfl ?_
    rw [hres.out]
    exact ⟨.slice none 0 0, rfl, liesP_nil _ _, below_five (boxes_under H2) (by omega) _ _ _ _ _⟩
  | true =>
    have hres := Lib.hid (show t.stripB = t.bare by unfold Tm.stripB; rw [if_pos hr])
    go_enter Try.func60, Try.ntmps60
    go_wp2_with fail
    refine (right_any t _ _ (boxes_lies H0 HL.out)).mono ?_
    rw [hr]
    rintro e w2 ⟨rfl, hb2⟩
    have H2 := boxes_call H0 hb2
    obtain ⟨-, q1⟩ := boxes_two H2
    obtain ⟨d0, d1, d2, d3, d4⟩ := held_cells (boxes_held H2)
    obtain ⟨z0, z1, z2, z3, z4⟩ := five_cells q1
    obtain ⟨f0, f1, f2, f3, f4⟩ := five_free q1
    clear hb2 H0
    go_wp2_with fail
    refine (sbare_any t w2 _ (boxes_lies H2 HL.out) hr).mono ?_
    rintro e w3 ⟨s3, rfl, hl3, hb3⟩
    obtain ⟨a3, cap3, rfl, -, -⟩ := hl3.out
    have hs2 : w.heap.size + 2 ≤ w2.heap.size := by have := Below.size H2; simpa using this
    have H3 := boxes_call H2 hb3
    clear q1 z0 z1 z2 z3 z4 f0 f1 f2 f3 f4
    obtain ⟨-, q1⟩ := boxes_two H3
    obtain ⟨z0, z1, z2, z3, z4⟩ := five_cells q1
    obtain ⟨f0, f1, f2, f3, f4⟩ := five_free q1
    have HL3 := Lib.hid hl3
    clear hb3 hl3 d0 d1 d2 d3 d4
    go_wp2
    refine bodyPost_ret (results_cell_row rfl _ _ (w.heap.size + 1) _ _ _ du rfl (five_set q1) hu1 (by cases du <;> first | rfl | exact hu2) size_term) rfl ?_
    rw [hres.out]
    exact ⟨_, rfl, liesP_fives HL3.out (by omega) (by omega) _ _ _ _ _, below_five (boxes_under H3) (by omega) _ _ _ _ _⟩
end Go.Proofs.Ytjafbnilejmbiaa
