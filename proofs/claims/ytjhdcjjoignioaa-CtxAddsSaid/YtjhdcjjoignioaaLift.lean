/-
  lift.Lift.
-/
import Derived.Test.YtjhdcjjoignioaaEachL
import Derived.Test.YtjhdcjjoignioaaEnds
import Derived.Test.YtjhdcjjoignioaaTop
namespace Go.Proofs.Ytjhdcjjoignioaa
open Go.RowKit

theorem heap_four (w : World) (a b c d : Obj) : ((((w.alloc a).alloc b).alloc c).alloc d).heap[w.heap.size]? = some a ∧ ((((w.alloc a).alloc b).alloc c).alloc d).heap[w.heap.size + 1]? = some b ∧ ((((w.alloc a).alloc b).alloc c).alloc d).heap[w.heap.size + 2]? = some c ∧ ((((w.alloc a).alloc b).alloc c).alloc d).heap[w.heap.size + 3]? = some d := by
  obtain ⟨h0, h1, h2, -⟩ := heap_three w a b c
  refine ⟨?_, ?_, ?_, ?_⟩
  · rw [Below.heap_alloc _ _ _ (by simp <;> omega)]; exact h0
  · rw [Below.heap_alloc _ _ _ (by simp <;> omega)]; exact h1
  · rw [Below.heap_alloc _ _ _ (by simp)]; exact h2
  · have := alloc_new (((w.alloc a).alloc b).alloc c) d
    simpa using this
theorem below_four (w : World) (a b c d : Obj) : Below w.heap.size w ((((w.alloc a).alloc b).alloc c).alloc d) := ((((Below.refl _ _).alloc (Nat.le_refl _) _).alloc (by simp) _).alloc (by simp <;> omega) _).alloc (by simp <;> omega) _

set_option maxHeartbeats 2000000 in
theorem lift_any (t : Tm) (k c : Int) (w : World) (s : Value) (hl : Lies w t.kids s) (hk : I64 k) (_ : I64 c) (hd : t.deep ≤ 100000) : Calls Try.prog 40 #[tv t s, .int .i64 k, .int .i64 c] w (Makes (t.liftB k c) w) := by
  obtain ⟨a, cap, S, rfl, hc, hm, -, -, -⟩ := hl.out
  have HL := Lib.hid hl
  obtain ⟨du, hu1, hu2⟩ := under_term
  have HB := below_four w (.cells #[.int .i64 t.k, .int .i64 t.i, .int .i64 t.j, .int .i64 t.n, .slice a t.kids.length cap] 26) (.cells #[.int .i64 k] 3) (.cells #[.int .i64 c] 3) (.cells #[.int .i64 0, .int .i64 0, .int .i64 0, .int .i64 0, .slice none 0 0] 26)
  obtain ⟨q0, q1, q2, q3⟩ := heap_four w (.cells #[.int .i64 t.k, .int .i64 t.i, .int .i64 t.j, .int .i64 t.n, .slice a t.kids.length cap] 26) (.cells #[.int .i64 k] 3) (.cells #[.int .i64 c] 3) (.cells #[.int .i64 0, .int .i64 0, .int .i64 0, .int .i64 0, .slice none 0 0] 26)
  clear hl
  unfold tv
  by_cases hk0 : k < 0
  · have e1 : decide (k < 0) = true := by simpa using hk0
    have hres : t.liftB k c = Tm.zero := by unfold Tm.liftB; rw [if_pos (Or.inl hk0)]
    rw [hres]
    clear hres
    go_enter Try.func40, Try.ntmps40
    go_wp2
    refine bodyPost_ret (results_cell_row rfl _ _ (w.heap.size + 3) _ _ _ du rfl q3 hu1 (by cases du <;> first | rfl | exact hu2) size_term) rfl ?_
    exact ⟨.slice none 0 0, rfl, liesP_nil _ _, HB⟩
  by_cases hc0 : c < 0
  · have e1 : decide (k < 0) = false := by simpa using hk0
    have e2 : decide (c < 0) = true := by simpa using hc0
    have hres : t.liftB k c = Tm.zero := by unfold Tm.liftB; rw [if_pos (Or.inr (Or.inl hc0))]
    rw [hres]
    clear hres
    go_enter Try.func40, Try.ntmps40
    go_wp2
    refine bodyPost_ret (results_cell_row rfl _ _ (w.heap.size + 3) _ _ _ du rfl q3 hu1 (by cases du <;> first | rfl | exact hu2) size_term) rfl ?_
    exact ⟨.slice none 0 0, rfl, liesP_nil _ _, HB⟩
  have e1 : decide (k < 0) = false := by simpa using hk0
  have e2 : decide (c < 0) = false := by simpa using hc0
  cases hr : t.rightB with
  | false =>
    have hres : t.liftB k c = Tm.zero := by unfold Tm.liftB; rw [if_pos (Or.inr (Or.inr hr))]
    rw [hres]
    clear hres
    go_enter Try.func40, Try.ntmps40
    go_wp2_with fail
    refine (right_any t _ _ (HL.out.keep HB)).mono ?_
    rw [hr]
    rintro e w2 ⟨rfl, hb2⟩
    have h3 := hb2.block (w.heap.size + 3) (by have := (Array.getElem?_eq_some_iff.1 q3).1; exact this)
    rw [q3] at h3
    obtain ⟨z0, z1, z2, z3, z4⟩ := five_cells h3
    obtain ⟨f0, f1, f2, f3, f4⟩ := five_free h3
    have hB2 := HB.trans (hb2.mono HB.size)
    clear hb2 q0 q1 q2 q3
    go_wp2
    refine bodyPost_ret (results_cell_row rfl _ _ (w.heap.size + 3) _ _ _ du rfl (five_set h3) hu1 (by cases du <;> first | rfl | exact hu2) size_term) rfl ?_
    exact ⟨.slice none 0 0, rfl, liesP_nil _ _, ((((hB2.setCell (above3 _) _).setCell (above3 _) _).setCell (above3 _) _).setCell (above3 _) _).setCell (above3 _) _⟩
  | true =>
    have hlb : t.liftB k c = (t.each (liftF k c) 0).getD .zero := by unfold Tm.liftB; rw [if_neg (by rw [hr]; simp; omega)]
    have HLB := Lib.hid hlb
    clear hlb
    go_enter Try.func40, Try.ntmps40
    go_wp2_with fail
    refine (right_any t _ _ (HL.out.keep HB)).mono ?_
    rw [hr]
    rintro e w2 ⟨rfl, hb2⟩
    have hB2 := HB.trans (hb2.mono HB.size)
    have key : ∀ n o, n < w.heap.size + 4 → ((((w.alloc (.cells #[.int .i64 t.k, .int .i64 t.i, .int .i64 t.j, .int .i64 t.n, .slice a t.kids.length cap] 26)).alloc (.cells #[.int .i64 k] 3)).alloc (.cells #[.int .i64 c] 3)).alloc (.cells #[.int .i64 0, .int .i64 0, .int .i64 0, .int .i64 0, .slice none 0 0] 26)).heap[n]? = some o → w2.heap[n]? = some o := fun n o hn h => by rw [hb2.block n (by simpa using hn)]; exact h
    have h0 := key _ _ (by omega) q0
    have h1 := key _ _ (by omega) q1
    have h2 := key _ _ (by omega) q2
    have h3 := key _ _ (by omega) q3
    have hs2 : w.heap.size + 4 ≤ w2.heap.size := by have := hb2.size; simpa using this
    obtain ⟨d0, d1, d2, d3, d4⟩ := five_cells h0
    clear hb2 q0 q1 q2 q3 key
    go_wp2_with fail
    refine (eachl_any k c (w.heap.size + 2) (w.heap.size + 1) hk (by omega) t 0 w2 _ (HL.out.keep hB2) hr (by omega) (by omega) (by rw [cell_of_row _ _ _ _ _ _ h2]; rfl) (by rw [cell_of_row _ _ _ _ _ _ h1]; rfl)).mono ?_
    intro e w3 hg
    cases hx : t.each (liftF k c) 0 with
    | none =>
      rw [hx] at hg HLB
      obtain ⟨⟨z, rfl⟩, hb3⟩ := hg.none
      have h4 := hb3.block (w.heap.size + 3) (by omega)
      rw [h3] at h4
      obtain ⟨z0, z1, z2, z3, z4⟩ := five_cells h4
      obtain ⟨f0, f1, f2, f3, f4⟩ := five_free h4
      have hB3 := hB2.trans (hb3.mono hB2.size)
      have hs3 : w.heap.size + 1 + 1 + 1 < w3.heap.size := by have := hb3.size; omega
      clear hb3 h0 h1 h2 h3
      go_wp2
      refine bodyPost_ret (results_cell_row rfl _ _ (w.heap.size + 3) _ _ _ du rfl (five_alloc h4 _ _ _ _ _ _) hu1 (by cases du <;> first | rfl | exact hu2) size_term) rfl ?_
      rw [HLB.out]
      exact ⟨.slice none 0 0, rfl, liesP_nil _ _, below_five_alloc hB3 hB3.size (above3 _) _ _ _ _ _ _⟩
    | some u =>
      rw [hx] at hg HLB
      obtain ⟨⟨s2, rfl, hl2⟩, hb3⟩ := hg.some
      obtain ⟨a2, cap2, rfl, -, -⟩ := hl2.out
      have h4 := hb3.block (w.heap.size + 3) (by omega)
      rw [h3] at h4
      obtain ⟨z0, z1, z2, z3, z4⟩ := five_cells h4
      obtain ⟨f0, f1, f2, f3, f4⟩ := five_free h4
      have hB3 := hB2.trans (hb3.mono hB2.size)
      have hs3 : w.heap.size + 1 + 1 + 1 < w3.heap.size := by have := hb3.size; omega
      clear hb3 h0 h1 h2 h3
      go_wp2
      refine bodyPost_ret (results_cell_row rfl _ _ (w.heap.size + 3) _ _ _ du rfl (five_alloc h4 _ _ _ _ _ _) hu1 (by cases du <;> first | rfl | exact hu2) size_term) rfl ?_
      rw [HLB.out]
      exact ⟨.slice a2 u.kids.length cap2, rfl, liesP_fives_alloc hl2 (by omega) (by omega) _ _ _ _ _ _, below_five_alloc hB3 hB3.size (above3 _) _ _ _ _ _ _⟩
end Go.Proofs.Ytjhdcjjoignioaa
