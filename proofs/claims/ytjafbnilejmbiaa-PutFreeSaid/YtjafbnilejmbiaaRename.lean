/-
  lift.Rename.
-/
import Derived.Test.YtjafbnilejmbiaaEachR
import Derived.Test.YtjafbnilejmbiaaEnds
import Derived.Test.YtjafbnilejmbiaaTop
namespace Go.Proofs.Ytjafbnilejmbiaa
open Go.RowKit

set_option maxRecDepth 20000 in
set_option maxHeartbeats 2000000 in
theorem rename_any (t : Tm) (to : List Int) (w : World) (s st : Value) (hl : Lies w t.kids s) (ht : LiesI w to st) (hd : t.deep ≤ 100000) : Calls Try.prog 57 #[tv t s, st] w (GivesZ (t.renB to) w) := by
  obtain ⟨a, cap, S, rfl, hc, hm, -, -, -⟩ := hl.out
  have HL := Lib.hid hl
  have HT := ht
  obtain ⟨ta, tcap, rfl, htc, htm, htn⟩ := ht.out
  obtain ⟨du, hu1, hu2⟩ := under_term
  have HB := below_three w (.cells #[.int .i64 t.k, .int .i64 t.i, .int .i64 t.j, .int .i64 t.n, .slice a t.kids.length cap] 24) (.cells #[.slice ta to.length tcap] 37) (.cells #[.int .i64 0, .int .i64 0, .int .i64 0, .int .i64 0, .slice none 0 0] 24)
  obtain ⟨q0, q1, q2, -⟩ := heap_three w (.cells #[.int .i64 t.k, .int .i64 t.i, .int .i64 t.j, .int .i64 t.n, .slice a t.kids.length cap] 24) (.cells #[.slice ta to.length tcap] 37) (.cells #[.int .i64 0, .int .i64 0, .int .i64 0, .int .i64 0, .slice none 0 0] 24)
  have HTN := Lib.hid htn
  unfold maxLen at hm htm
  clear hl ht htn
  unfold tv
  cases hr : t.rightB with
  | false =>
    have hres := Lib.hid (show t.renB to = none by unfold Tm.renB; rw [hr]; rfl)
    go_enter Try.func57, Try.ntmps57
    go_wp2_with fail
    refine (right_any t _ _ (HL.out.keep HB)).mono ?_
    rw [hr]
    rintro e w2 ⟨rfl, hb2⟩
    have key : ∀ n o, n < w.heap.size + 3 → (((w.alloc (.cells #[.int .i64 t.k, .int .i64 t.i, .int .i64 t.j, .int .i64 t.n, .slice a t.kids.length cap] 24)).alloc (.cells #[.slice ta to.length tcap] 37)).alloc (.cells #[.int .i64 0, .int .i64 0, .int .i64 0, .int .i64 0, .slice none 0 0] 24)).heap[n]? = some o → w2.heap[n]? = some o := fun n o hn h => by rw [hb2.block n (by simpa using hn)]; exact h
    replace q0 := key _ _ (by omega) q0
    replace q1 := key _ _ (by omega) q1
    replace q2 := key _ _ (by omega) q2
    have hs2 : w.heap.size + 3 ≤ w2.heap.size := by have := hb2.size; simpa using this
    obtain ⟨d0, d1, d2, d3, d4⟩ := five_cells q0
    obtain ⟨z0, z1, z2, z3, z4⟩ := five_cells q2
    obtain ⟨f0, f1, f2, f3, f4⟩ := five_free q2
    have t0 : w2.cell? ⟨w.heap.size + 1, 0, none⟩ = some (.slice ta to.length tcap) := by rw [cell_of_row _ _ _ _ _ _ q1]; rfl
    have hB2 := HB.trans (hb2.mono HB.size)
    clear key hb2
    go_wp2
    (try simp only [Exit.inBlock, Exit.then])
    refine bodyPost_ret (results_cell_tmp rfl _ _ (w.heap.size + 2) _ _ _ du rfl (five_set q2) hu1 (by cases du <;> first | rfl | exact hu2) size_term) rfl ?_
    exact ⟨below_five hB2 (by omega) _ _ _ _ _, Or.inr ⟨hres.out, rfl⟩⟩
  | true =>
    go_enter Try.func57, Try.ntmps57
    go_wp2_with fail
    refine (right_any t _ _ (HL.out.keep HB)).mono ?_
    rw [hr]
    rintro e w2 ⟨rfl, hb2⟩
    have key : ∀ n o, n < w.heap.size + 3 → (((w.alloc (.cells #[.int .i64 t.k, .int .i64 t.i, .int .i64 t.j, .int .i64 t.n, .slice a t.kids.length cap] 24)).alloc (.cells #[.slice ta to.length tcap] 37)).alloc (.cells #[.int .i64 0, .int .i64 0, .int .i64 0, .int .i64 0, .slice none 0 0] 24)).heap[n]? = some o → w2.heap[n]? = some o := fun n o hn h => by rw [hb2.block n (by simpa using hn)]; exact h
    replace q0 := key _ _ (by omega) q0
    replace q1 := key _ _ (by omega) q1
    replace q2 := key _ _ (by omega) q2
    have hs2 : w.heap.size + 3 ≤ w2.heap.size := by have := hb2.size; simpa using this
    obtain ⟨d0, d1, d2, d3, d4⟩ := five_cells q0
    obtain ⟨z0, z1, z2, z3, z4⟩ := five_cells q2
    obtain ⟨f0, f1, f2, f3, f4⟩ := five_free q2
    have t0 : w2.cell? ⟨w.heap.size + 1, 0, none⟩ = some (.slice ta to.length tcap) := by rw [cell_of_row _ _ _ _ _ _ q1]; rfl
    have hB2 := HB.trans (hb2.mono HB.size)
    clear key hb2
    go_wp2_with fail
    go_loop [16] (fun i => ∃ q : Nat, q ≤ to.length ∧ i = .int .i64 q ∧ Hid (goodTo (to.take q) = true)) (fun i => to.length - (intOf i).toNat)
    case atStart => exact ⟨0, Nat.zero_le _, rfl, rfl⟩
    case round =>
      obtain ⟨q, hq, rfl, hgood⟩ := hrel
      by_cases hlt : q < to.length
      · obtain ⟨b2, o, rfl, hx⟩ := HTN.out q hlt
        have hx2 := cell_lat hB2 hx
        clear hx
        by_cases hx0 : to[q] < 0
        · have e1 : decide (to[q] < 0) = true := by simpa using hx0
          have hres := Lib.hid (show t.renB to = none by unfold Tm.renB; rw [good_bad hlt (Or.inl hx0), Bool.and_false]; rfl)
          clear hx0
          go_wp2
          (try simp only [Exit.inBlock, Exit.then])
          refine bodyPost_ret (results_cell_tmp rfl _ _ (w.heap.size + 2) _ _ _ du rfl (five_set q2) hu1 (by cases du <;> first | rfl | exact hu2) size_term) rfl ?_
          exact ⟨below_five hB2 (by omega) _ _ _ _ _, Or.inr ⟨hres.out, rfl⟩⟩
        have e1 : decide (to[q] < 0) = false := by simpa using hx0
        by_cases hx1 : 1073741824 < to[q]
        · have e2 : decide (1073741824 < to[q]) = true := by simpa using hx1
          have hres := Lib.hid (show t.renB to = none by unfold Tm.renB; rw [good_bad hlt (Or.inr hx1), Bool.and_false]; rfl)
          clear hx0 hx1
          go_wp2
          (try simp only [Exit.inBlock, Exit.then])
          refine bodyPost_ret (results_cell_tmp rfl _ _ (w.heap.size + 2) _ _ _ du rfl (five_set q2) hu1 (by cases du <;> first | rfl | exact hu2) size_term) rfl ?_
          exact ⟨below_five hB2 (by omega) _ _ _ _ _, Or.inr ⟨hres.out, rfl⟩⟩
        have e2 : decide (1073741824 < to[q]) = false := by simpa using hx1
        have hgood2 := good_next hlt hgood.out hx0 hx1
        have HG := Lib.hid hgood2
        clear hgood hgood2 hx0 hx1
        go_wp2_with fail
        go_round
        case rel => exact ⟨q + 1, hlt, by go_num, HG.out⟩
        case measure => simp [intOf]; omega
      · have : q = to.length := by omega
        subst this
        have hgt : goodTo to = true := by have := hgood.out; rwa [List.take_length] at this
        have hren : t.renB to = t.each (renF to) 0 := by unfold Tm.renB; rw [hr, hgt]; rfl
        have HREN := Lib.hid hren
        clear hren
        go_wp2_with fail
        refine (eachr_any to ta tcap (w.heap.size + 1) hgt t 0 w2 _ (HL.out.keep hB2) hr (by omega) (by omega) t0 (HT.keep hB2)).mono ?_
        intro e w3 hg
        cases hx : t.each (renF to) 0 with
        | none =>
          rw [hx] at hg HREN
          obtain ⟨⟨z, rfl⟩, hb3⟩ := hg.none
          have q3 := hb3.block (w.heap.size + 2) (by omega)
          rw [q2] at q3
          obtain ⟨z0, z1, z2, z3, z4⟩ := five_cells q3
          obtain ⟨f0, f1, f2, f3, f4⟩ := five_free q3
          have hB3 := hB2.trans (hb3.mono hB2.size)
          have hs3 : w.heap.size + 2 < w3.heap.size := by have := hb3.size; omega
          clear hb3 hg q0 q1 q2 hgood
          go_wp2
          (try simp only [Exit.inBlock, Exit.then])
          refine bodyPost_ret (results_cell_tmp rfl _ _ (w.heap.size + 2) _ _ _ du rfl (five_alloc q3 _ _ _ _ _ _) hu1 (by cases du <;> first | rfl | exact hu2) size_term) rfl ?_
          exact ⟨below_five_alloc hB3 hB3.size (by omega) _ _ _ _ _ _, Or.inr ⟨HREN.out, rfl⟩⟩
        | some u =>
          rw [hx] at hg HREN
          obtain ⟨⟨s2, rfl, hl2⟩, hb3⟩ := hg.some
          obtain ⟨a2, cap2, rfl, -, -⟩ := hl2.out
          have q3 := hb3.block (w.heap.size + 2) (by omega)
          rw [q2] at q3
          obtain ⟨z0, z1, z2, z3, z4⟩ := five_cells q3
          obtain ⟨f0, f1, f2, f3, f4⟩ := five_free q3
          have hB3 := hB2.trans (hb3.mono hB2.size)
          have hs3 : w.heap.size + 2 < w3.heap.size := by have := hb3.size; omega
          have HL2 := Lib.hid hl2
          clear hb3 hg q0 q1 q2 hgood hl2
          go_wp2
          (try simp only [Exit.inBlock, Exit.then])
          refine bodyPost_ret (results_cell_tmp rfl _ _ (w.heap.size + 2) _ _ _ du rfl (five_alloc q3 _ _ _ _ _ _) hu1 (by cases du <;> first | rfl | exact hu2) size_term) rfl ?_
          exact ⟨below_five_alloc hB3 hB3.size (by omega) _ _ _ _ _ _, Or.inl ⟨_, _, HREN.out, rfl, liesP_fives_alloc HL2.out (by omega) (by omega) _ _ _ _ _ _⟩⟩
end Go.Proofs.Ytjafbnilejmbiaa
