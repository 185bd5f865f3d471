/-
  The page's own Strip: whatever is told lies there; it may share what was handed in.
-/
import Derived.Test.YtjhdcjjoignioaaRefStrip
import Derived.Test.YtjhdcjjoignioaaRefPlain
namespace Go.Proofs.Ytjhdcjjoignioaa
open Go.RowKit

/-- What a call hands back that gives a term, new or not. -/
def GivesT (u : Tm) (w : World) (e : Ending) (w' : World) : Prop := ∃ s' : Value, e = .returned (tv u s') ∧ Lies w' u.kids s' ∧ Below w.heap.size w w'

theorem lies_five {w w1 : World} {l : List Tm} {s : Value} (h : Lies w l s) {g : Nat} (hb : Below w.heap.size w w1) (hg : w.heap.size ≤ g) (v0 v1 v2 v3 v4 : Value) : Lies (five w1 g v0 v1 v2 v3 v4) l s := h.keep (below_five hb hg v0 v1 v2 v3 v4)

theorem stripB_ofPlain {t : Tm} (h : t.plainB = true) : t.stripB = t := by unfold Tm.stripB; rw [if_pos (plain_right h), plain_bare t h]
theorem stripB_ofMarked {t : Tm} (h : t.markedB = true) : t.stripB = t.bare := by unfold Tm.stripB; rw [if_pos (marked_right h)]
theorem stripB_ofNone {t : Tm} (h : t.plainB = false) (h' : t.markedB = false) : t.stripB = .zero := by unfold Tm.stripB; rw [if_neg (by unfold Tm.rightB; rw [h, h']; decide)]

set_option maxHeartbeats 2000000 in
theorem refStripT_any (t : Tm) (w : World) (s : Value) (hl : Lies w t.kids s) : Calls Try.prog 48 #[tv t s] w (GivesT t.stripB w) := by
  obtain ⟨a, cap, S, rfl, hc, hm, -, -, -⟩ := hl.out
  have HL := Lib.hid hl
  obtain ⟨du, hu1, hu2⟩ := under_term
  have H0 := boxes_start w t (.slice a t.kids.length cap)
  clear hl
  unfold tv
  cases hp : t.plainB with
  | true =>
    have hres := Lib.hid (stripB_ofPlain hp)
    go_enter Try.func48, Try.ntmps48
    go_wp2_with fail
    refine (refplain_any t _ _ (boxes_lies H0 HL.out)).mono ?_
    rw [hp]
    rintro e w2 ⟨rfl, hb2⟩
    have H2 := boxes_call H0 hb2
    obtain ⟨-, q1⟩ := boxes_two H2
    obtain ⟨d0, d1, d2, d3, d4⟩ := held_cells (boxes_held H2)
    obtain ⟨z0, z1, z2, z3, z4⟩ := five_cells q1
    obtain ⟨f0, f1, f2, f3, f4⟩ := five_free q1
    clear hb2 H0
    go_wp2
    refine bodyPost_ret (results_cell_row rfl _ _ (w.heap.size + 1) _ _ _ du rfl (five_set q1) hu1 (by cases du <;> first | rfl | exact hu2) size_term) rfl ?_
    rw [hres.out]
    exact ⟨_, rfl, lies_five HL.out (boxes_under H2) (by omega) _ _ _ _ _, below_five (boxes_under H2) (by omega) _ _ _ _ _⟩
  | false =>
    cases hr : t.markedB with
    | false =>
      have hres := Lib.hid (stripB_ofNone hp hr)
      go_enter Try.func48, Try.ntmps48
      go_wp2_with fail
      refine (refplain_any t _ _ (boxes_lies H0 HL.out)).mono ?_
      rw [hp]
      rintro e w1 ⟨rfl, hb1⟩
      have H1 := boxes_call H0 hb1
      obtain ⟨d0, d1, d2, d3, d4⟩ := held_cells (boxes_held H1)
      clear hb1 H0
      go_wp2_with fail
      refine (refmarked_any t _ _ (boxes_lies H1 HL.out)).mono ?_
      rw [hr]
      rintro e w2 ⟨rfl, hb2⟩
      have H2 := boxes_call H1 hb2
      obtain ⟨-, q1⟩ := boxes_two H2
      obtain ⟨z0, z1, z2, z3, z4⟩ := five_cells q1
      obtain ⟨f0, f1, f2, f3, f4⟩ := five_free q1
      clear hb2 d0 d1 d2 d3 d4
      obtain ⟨d0, d1, d2, d3, d4⟩ := held_cells (boxes_held H2)
      go_wp2
      refine bodyPost_ret (results_cell_row rfl _ _ (w.heap.size + 1) _ _ _ du rfl (five_set q1) hu1 (by cases du <;> first | rfl | exact hu2) size_term) rfl ?_
      rw [hres.out]
      exact ⟨.slice none 0 0, rfl, (liesP_nil _ (fun _ => True)).lies, below_five (boxes_under H2) (by omega) _ _ _ _ _⟩
    | true =>
      have hres := Lib.hid (stripB_ofMarked hr)
      go_enter Try.func48, Try.ntmps48
      go_wp2_with fail
      refine (refplain_any t _ _ (boxes_lies H0 HL.out)).mono ?_
      rw [hp]
      rintro e w1 ⟨rfl, hb1⟩
      have H1 := boxes_call H0 hb1
      obtain ⟨d0, d1, d2, d3, d4⟩ := held_cells (boxes_held H1)
      clear hb1 H0
      go_wp2_with fail
      refine (refmarked_any t _ _ (boxes_lies H1 HL.out)).mono ?_
      rw [hr]
      rintro e w2 ⟨rfl, hb2⟩
      have H2 := boxes_call H1 hb2
      have hs2 : w.heap.size + 2 ≤ w2.heap.size := by have := Below.size H2; simpa using this
      clear hb2 d0 d1 d2 d3 d4
      obtain ⟨d0, d1, d2, d3, d4⟩ := held_cells (boxes_held H2)
      go_wp2_with fail
      refine (refstrip_any t w.heap.size w2 _ (by omega) (HL.out.q.later (boxes_under H2)) hr).mono ?_
      rintro e w3 ⟨s3, rfl, hl3, hb3⟩
      obtain ⟨a3, cap3, S3, rfl, -⟩ := hl3.out
      have H3 := boxes_call H2 hb3
      obtain ⟨-, q1⟩ := boxes_two H3
      obtain ⟨z0, z1, z2, z3, z4⟩ := five_cells q1
      obtain ⟨f0, f1, f2, f3, f4⟩ := five_free q1
      have HL3 := Lib.hid hl3
      clear hb3 hl3 d0 d1 d2 d3 d4
      go_wp2
      refine bodyPost_ret (results_cell_row rfl _ _ (w.heap.size + 1) _ _ _ du rfl (five_set q1) hu1 (by cases du <;> first | rfl | exact hu2) size_term) rfl ?_
      rw [hres.out]
      exact ⟨_, rfl, (liesQ_fives (N := w2.heap.size) HL3.out (by omega) (by omega) (Nat.le_refl _) _ _ _ _ _).lies, below_five (boxes_under H3) (by omega) _ _ _ _ _⟩
end Go.Proofs.Ytjhdcjjoignioaa
