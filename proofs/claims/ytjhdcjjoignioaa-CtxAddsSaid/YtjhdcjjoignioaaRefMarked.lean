/-
  The page's own: transhipref04.Marked.
-/
import Derived.Test.YtjhdcjjoignioaaRefPlain
namespace Go.Proofs.Ytjhdcjjoignioaa
open Go.RowKit

set_option maxHeartbeats 1000000 in
theorem refmarked_any (t : Tm) : ∀ (w : World) (s : Value), Lies w t.kids s → Calls Try.prog 24 #[tv t s] w fun e w' => e = .returned (.bool t.markedB) ∧ Below w.heap.size w w' := by
  induction t using Tm.ind with
  | h t ih =>
    intro w s hl
    obtain ⟨a, cap, S, rfl, hc, hm, hf, hn, hk⟩ := hl.out
    unfold tv
    unfold maxLen at hm
    have HL := Lib.hid ((hl.keep (w' := w.alloc (.cells #[.int .i64 t.k, .int .i64 t.i, .int .i64 t.j, .int .i64 t.n, .slice a t.kids.length cap] 26)) ((Below.refl _ _).alloc (Nat.le_refl _) _)))
    have HP := Lib.hid (t.markedB_eq)
    have IH := Lib.hid ih
    have HN := Lib.hid hn
    have HK := Lib.hid hk
    have HBX := Lib.hid (fun (wr : World) => box_cells (w := w) (wr := wr) (v0 := .int .i64 t.k) (v1 := .int .i64 t.i) (v2 := .int .i64 t.j) (v3 := .int .i64 t.n) (v4 := .slice a t.kids.length cap) (T := 26))
    clear ih hn hk hf hl
    by_cases h1 : t.k < 1
    · have H5 : Hid (t.markedB = false) := by show _ = _; rw [HP.out]; simp; omega
      go_enter Try.func24, Try.ntmps24
      go_wp2
      go_ret
      exact ⟨ret_bool H5.out.symm, (Below.refl _ _).alloc (Nat.le_refl _) _⟩
    by_cases h2 : 12 < t.k
    · have H5 : Hid (t.markedB = false) := by show _ = _; rw [HP.out]; simp; omega
      go_enter Try.func24, Try.ntmps24
      go_wp2
      go_ret
      exact ⟨ret_bool H5.out.symm, (Below.refl _ _).alloc (Nat.le_refl _) _⟩
    have hkb : (decide (1 ≤ t.k) && decide (t.k ≤ 12)) = true := by simp; omega
    have HP2 : Hid (t.markedB = (t.nodeB && markeds (t.k == 12) 0 t.kids)) := by have := HP.out; rw [hkb, Bool.true_and] at this; exact this
    clear hkb
    cases hn : t.nodeB with
    | false =>
      have H5 : Hid (t.markedB = false) := by show _ = _; rw [HP2.out, hn]; rfl
      have HNN := Lib.hid hn
      clear hn
      go_enter Try.func24, Try.ntmps24
      go_wp2_with fail
      refine (refnode_any t _ _ HL.out).mono ?_
      rintro e w1 ⟨rfl, hb'⟩
      have HB2 := below_call (Below.refl (w.heap.size + 1) (w.alloc (.cells #[.int .i64 t.k, .int .i64 t.i, .int .i64 t.j, .int .i64 t.n, .slice a t.kids.length cap] 26))) hb' (by simp)
      obtain ⟨d0, d1, d2, d3, d4⟩ := HBX.out _ HB2
      clear hb'
      rw [HNN.out]
      go_wp2
      go_ret
      exact ⟨ret_bool H5.out.symm, below_of_box HB2⟩
    | true =>
      have HNN := Lib.hid hn
      clear hn
      go_enter Try.func24, Try.ntmps24
      go_wp2_with fail
      refine (refnode_any t _ _ HL.out).mono ?_
      rintro e w1 ⟨rfl, hb'⟩
      have HB2 := below_call (Below.refl (w.heap.size + 1) (w.alloc (.cells #[.int .i64 t.k, .int .i64 t.i, .int .i64 t.j, .int .i64 t.n, .slice a t.kids.length cap] 26))) hb' (by simp)
      obtain ⟨d0, d1, d2, d3, d4⟩ := HBX.out _ HB2
      clear hb'
      rw [HNN.out]
      go_wp2_with fail
      go_loopw [3] (fun iv wr => ∃ k : Nat, k ≤ t.kids.length ∧ iv = .int .i64 k ∧ Hid (markeds (t.k == 12) 0 (t.kids.take k) = true) ∧ Below (w.heap.size + 1) (w.alloc (.cells #[.int .i64 t.k, .int .i64 t.i, .int .i64 t.j, .int .i64 t.n, .slice a t.kids.length cap] 26)) wr) (fun iv _ => t.kids.length - (intOf iv).toNat)
      case atStart => exact ⟨0, Nat.zero_le _, rfl, by simp [Hid, markeds], HB2⟩
      case round =>
        obtain ⟨k, hk, rfl, hgood, hb⟩ := hrel
        obtain ⟨d0, d1, d2, d3, d4⟩ := HBX.out _ hb
        have hb0 := below_of_box hb
        by_cases hlt : k < t.kids.length
        · obtain ⟨b, o, rfl, hx⟩ := HN.out k hlt
          have hy := hx.below hb0 hx.lt
          obtain ⟨c0, c1, c2, c3, c4⟩ := hy
          have hq := HK.out k hlt
          obtain ⟨a', cap', S', hS, -⟩ := hq.out
          rw [hS] at c4 hq
          have HQ := Lib.hid (hq.keep hb0)
          clear hS hq
          have HM := Lib.hid (List.getElem_mem hlt)
          have HT := Lib.hid (markeds_take (t.k == 12) t.kids 0 k hlt)
          cases e12 : (t.k == 12) <;> cases e2 : ((k : Int) == 2)
          rotate_right
          · have e2' : (k == 2) = ((k : Int) == 2) := by rw [e2]; simp at e2 ⊢; omega
            have hkB : (t.kids[k]).kidB (t.k == 12) k = (t.kids[k]).plainB := by simp [Tm.kidB, e12, e2', e2]
            have HKB := Lib.hid hkB
            clear e2' hkB
            go_wp2_with fail
            refine (refplain_any _ _ _ HQ.out).mono ?_
            rintro e w2 ⟨rfl, hb'⟩
            have HB3 := below_call hb hb' (by have := hb.size; simpa using this)
            obtain ⟨x0, x1, x2, x3, x4⟩ := HBX.out _ HB3
            clear hb' hb d0 d1 d2 d3 d4 hb0 c0 c1 c2 c3 c4
            cases hp : (t.kids[k]).plainB
            · go_wp2
              go_ret
              exact ⟨ret_bool (by rw [HP2.out, markeds_of _ t.kids 0 k hlt (by rw [Nat.zero_add, HKB.out]; exact hp), Bool.and_false]), below_of_box HB3⟩
            · go_wp2
              go_roundw
              case rel => exact ⟨k + 1, by omega, by go_num, by have h1 := HT.out; rw [hgood.out, Nat.zero_add, HKB.out, hp] at h1; show _ = true; first | exact h1 | (rw [e12] at h1; exact h1), HB3⟩
              case measure => simp [intOf]; omega
          all_goals
            have e2' : (k == 2) = ((k : Int) == 2) := by rw [e2]; simp at e2 ⊢; omega
            have hkB : (t.kids[k]).kidB (t.k == 12) k = (t.kids[k]).markedB := by simp [Tm.kidB, e12, e2', e2]
            have HKB := Lib.hid hkB
            clear e2' hkB
            go_wp2_with fail
            refine (IH.out _ HM.out _ _ HQ.out).mono ?_
            rintro e w2 ⟨rfl, hb'⟩
            have HB3 := below_call hb hb' (by have := hb.size; simpa using this)
            obtain ⟨x0, x1, x2, x3, x4⟩ := HBX.out _ HB3
            clear hb' hb d0 d1 d2 d3 d4 hb0 c0 c1 c2 c3 c4
            cases hp : (t.kids[k]).markedB
            · go_wp2
              go_ret
              exact ⟨ret_bool (by rw [HP2.out, markeds_of _ t.kids 0 k hlt (by rw [Nat.zero_add, HKB.out]; exact hp), Bool.and_false]), below_of_box HB3⟩
            · go_wp2
              go_roundw
              case rel => exact ⟨k + 1, by omega, by go_num, by have h1 := HT.out; rw [hgood.out, Nat.zero_add, HKB.out, hp] at h1; show _ = true; first | exact h1 | (rw [e12] at h1; exact h1), HB3⟩
              case measure => simp [intOf]; omega
        · have : k = t.kids.length := by omega
          subst this
          go_wp2
          go_ret
          exact ⟨ret_bool (by have hg := hgood.out; rw [List.take_length] at hg; rw [HP2.out, HNN.out, hg]; rfl), hb0⟩
end Go.Proofs.Ytjhdcjjoignioaa
