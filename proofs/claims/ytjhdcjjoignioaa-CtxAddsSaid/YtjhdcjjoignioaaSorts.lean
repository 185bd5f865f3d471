/-
  term.sorts: of which sort a term is.
-/
import Derived.Test.YtjhdcjjoignioaaSortsDef
import Derived.Test.YtjhdcjjoignioaaWeigh
import Derived.Test.YtjhdcjjoignioaaBox
import Derived.KernelRfl
namespace Go.Proofs.Ytjhdcjjoignioaa
open Go.RowKit

theorem bits_table : bits BinOp.and IntKind.i64 0 1 = 0 ∧ bits BinOp.and IntKind.i64 1 1 = 1 ∧ bits BinOp.and IntKind.i64 2 1 = 0 ∧ bits BinOp.and IntKind.i64 3 1 = 1 ∧
    bits BinOp.and IntKind.i64 0 2 = 0 ∧ bits BinOp.and IntKind.i64 1 2 = 0 ∧ bits BinOp.and IntKind.i64 2 2 = 2 ∧ bits BinOp.and IntKind.i64 3 2 = 2 := by
  refine ⟨?_, ?_, ?_, ?_, ?_, ?_, ?_, ?_⟩ <;> kernel_rfl

set_option maxHeartbeats 800000 in
theorem sorts_any (t : Tm) : ∀ (w : World) (s : Value), Lies w t.kids s → Calls Try.prog 68 #[tv t s] w fun e w' => e = .returned (.int .i64 t.sortsN) ∧ Below w.heap.size w w' := by
  induction t using Tm.ind with
  | h t ih =>
    intro w s hl
    obtain ⟨a, cap, S, rfl, hc, hm, hf, hn, hk⟩ := hl.out
    unfold tv
    unfold maxLen at hm
    have IH := Lib.hid ih
    have HN := Lib.hid hn
    have HK := Lib.hid hk
    have HBX := Lib.hid (fun (wr : World) => box_cells (w := w) (wr := wr) (v0 := .int .i64 t.k) (v1 := .int .i64 t.i) (v2 := .int .i64 t.j) (v3 := .int .i64 t.n) (v4 := .slice a t.kids.length cap) (T := 26))
    clear ih hn hk hf hl
    by_cases h1 : kidsN t.k t.n < 0
    · have hv : t.sortsN = 0 := sorts_bad (by simp only [Tm.nodeB, Bool.and_eq_false_iff]; left; simp; omega)
      have HV := Lib.hid hv
      clear hv
      go_enter Try.func68, Try.ntmps68
      go_wp2_with (go_at_call 82; refine (kids_any _ _ _).mono ?_; rintro e w' ⟨rfl, rfl⟩)
      go_ret
      exact ⟨by rw [HV.out]; rfl, (Below.refl _ _).alloc (Nat.le_refl _) _⟩
    by_cases h2 : (t.kids.length : Int) = kidsN t.k t.n
    rotate_left
    · have hv : t.sortsN = 0 := sorts_bad (by simp only [Tm.nodeB, Bool.and_eq_false_iff]; left; simp; omega)
      have HV := Lib.hid hv
      have h3 : ((t.kids.length : Int) == kidsN t.k t.n) = false := by simpa using h2
      have h4 : ((t.kids.length : Int) != kidsN t.k t.n) = true := by simpa using h2
      clear hv
      go_enter Try.func68, Try.ntmps68
      go_wp2_with (go_at_call 82; refine (kids_any _ _ _).mono ?_; rintro e w' ⟨rfl, rfl⟩)
      go_ret
      exact ⟨by rw [HV.out]; rfl, (Below.refl _ _).alloc (Nat.le_refl _) _⟩
    have h3 : ((t.kids.length : Int) == kidsN t.k t.n) = true := by simpa using h2
    have h4 : ((t.kids.length : Int) != kidsN t.k t.n) = false := by simpa using h2
    have H2 := Lib.hid h2
    clear h2
    cases h5 : numbersN t.k t.i t.j t.n with
    | false =>
      have hv : t.sortsN = 0 := sorts_bad (by simp only [Tm.nodeB, Bool.and_eq_false_iff]; right; exact h5)
      have HV := Lib.hid hv
      clear hv
      go_enter Try.func68, Try.ntmps68
      go_wp2_with (first | (go_at_call 82; refine (kids_any _ _ _).mono ?_; rintro e w' ⟨rfl, rfl⟩) | (go_at_call 83; refine (numbers_any t _ _).mono ?_; rintro e w' ⟨rfl, hb'⟩; have HB' := ((Below.refl w.heap.size w).alloc (Nat.le_refl _) _).trans (hb'.mono (by simp)); clear hb'; rw [h5]))
      go_ret
      exact ⟨by rw [HV.out]; rfl, HB'⟩
    | true =>
      have hnode : t.nodeB = true := by simp only [Tm.nodeB, h5, Bool.and_true]; simpa using H2.out
      by_cases k2 : t.k ≤ 2
      · have hv := sorts_two hnode k2
        have hl0 : t.kids.length = 0 := by rw [hv.2]; rfl
        have HL0 := Lib.hid hl0
        clear hl0
        have HV := Lib.hid hv.1
        clear hv hnode
        go_enter Try.func68, Try.ntmps68
        go_wp2_with (first | (go_at_call 82; refine (kids_any _ _ _).mono ?_; rintro e w' ⟨rfl, rfl⟩) | (go_at_call 83; refine (numbers_any t _ _).mono ?_; rintro e w' ⟨rfl, hb'⟩; have HB' := below_call (Below.refl (w.heap.size + 1) _) hb' (by simp); clear hb'; obtain ⟨d0, d1, d2, d3, d4⟩ := HBX.out _ HB'; rw [h5]))
        have hl0 := HL0.out
        refine wp_loop_rounds 1 ?_
        rw [rounds_succ]
        go_wp2
        go_ret
        exact ⟨by rw [HV.out]; rfl, below_of_box HB'⟩
      by_cases k12 : t.k ≤ 12
      · have hv := sorts_marked hnode (by omega) k12
        have HV := Lib.hid hv
        clear hv hnode
        go_enter Try.func68, Try.ntmps68
        go_wp2_with (first | (go_at_call 82; refine (kids_any _ _ _).mono ?_; rintro e w' ⟨rfl, rfl⟩) | (go_at_call 83; refine (numbers_any t _ _).mono ?_; rintro e w' ⟨rfl, hb'⟩; have HB' := below_call (Below.refl (w.heap.size + 1) _) hb' (by simp); clear hb'; obtain ⟨d0, d1, d2, d3, d4⟩ := HBX.out _ HB'; rw [h5]))
        go_loopw [36] (fun iv wr => ∃ k : Nat, k ≤ t.kids.length ∧ iv = .int .i64 k ∧ Hid (markeds (t.k == 12) 0 (t.kids.take k) = true) ∧ Below (w.heap.size + 1) (w.alloc (.cells #[.int .i64 t.k, .int .i64 t.i, .int .i64 t.j, .int .i64 t.n, .slice a t.kids.length cap] 26)) wr) (fun i _ => t.kids.length - (intOf i).toNat)
        case atStart => exact ⟨0, Nat.zero_le _, rfl, by simp [Hid, markeds], HB'⟩
        case round =>
          obtain ⟨k, hk, rfl, hgood, hb⟩ := hrel
          obtain ⟨d0, d1, d2, d3, d4⟩ := HBX.out _ hb
          have hb0 := below_of_box hb
          by_cases hlt : k < t.kids.length
          · obtain ⟨b, o, rfl, hx⟩ := HN.out k hlt
            have hy := hx.below hb0 hx.lt
            obtain ⟨c0, c1, c2, c3, c4⟩ := hy
            have hq := HK.out k hlt
            obtain ⟨a', cap', S', hS, -⟩ := hq.out
            rw [hS] at c4 hq
            have HM := Lib.hid (List.getElem_mem hlt)
            have HB2 : Below (w.heap.size + 1) (w.alloc (.cells #[.int .i64 t.k, .int .i64 t.i, .int .i64 t.j, .int .i64 t.n, .slice (some ⟨b, o, none⟩) t.kids.length cap] 26)) (wr.alloc (.cells #[.int .i64 t.kids[k].k, .int .i64 t.kids[k].i, .int .i64 t.kids[k].j, .int .i64 t.kids[k].n, .slice a' t.kids[k].kids.length cap'] 26)) := hb.alloc (by have := hb.size; simpa using this) _
            have hq2 := hq.keep (below_of_box HB2)
            have HQ := Lib.hid hq2
            have hsz2 : w.heap.size + 1 ≤ wr.heap.size := by have := hb.size; simpa using this
            obtain ⟨y0, y1, y2, y3, y4⟩ := HBX.out _ HB2
            clear hS hq hq2 hb HB'
            cases e12 : (t.k == 12) <;> cases e2 : ((k : Int) == 2)
            all_goals
              go_wp2_with fail
              refine (IH.out _ HM.out _ _ HQ.out).mono ?_
              rintro e w' ⟨he, hb'⟩
              have HB3 := below_call HB2 hb' (by simp; omega)
              obtain ⟨x0, x1, x2, x3, x4⟩ := HBX.out _ HB3
              have e2' : (k == 2) = ((k : Int) == 2) := by rw [e2]; simp at e2 ⊢; omega
              have HE2 := Lib.hid e2'
              clear e2' hb' HB2 d0 d1 d2 d3 d4 y0 y1 y2 y3 y4 hb0
              cases hm : (t.kids[k]).markedB <;> cases hp : (t.kids[k]).plainB
              all_goals
                simp [Tm.sortsN, hm, hp] at he
                subst he
                obtain ⟨t1, t2, t3, t4, t5, t6, t7, t8⟩ := bits_table
                go_wp2
                first
                | (go_ret
                   exact ⟨by rw [HV.out, if_neg (by rw [markeds_of _ t.kids 0 k hlt (by simp [Tm.kidB, e12, HE2.out, e2, hm, hp])]; simp)]; rfl, below_of_box HB3⟩)
                | (go_roundw
                   case rel => exact ⟨k + 1, by omega, by go_num, by have hg := hgood.out; rw [e12] at hg; show _ = true; rw [markeds_take _ _ _ _ hlt, hg]; simp [Tm.kidB, HE2.out, e2, hm, hp], HB3⟩
                   case measure => simp [intOf]; omega)
          · have : k = t.kids.length := by omega
            subst this
            go_wp2
            go_ret
            exact ⟨by rw [HV.out, if_pos (by have := hgood.out; rwa [List.take_length] at this)]; rfl, hb0⟩
      · have hv := sorts_plain hnode (by omega)
        have HV := Lib.hid hv
        clear hv hnode
        go_enter Try.func68, Try.ntmps68
        go_wp2_with (first | (go_at_call 82; refine (kids_any _ _ _).mono ?_; rintro e w' ⟨rfl, rfl⟩) | (go_at_call 83; refine (numbers_any t _ _).mono ?_; rintro e w' ⟨rfl, hb'⟩; have HB' := below_call (Below.refl (w.heap.size + 1) _) hb' (by simp); clear hb'; obtain ⟨d0, d1, d2, d3, d4⟩ := HBX.out _ HB'; rw [h5]))
        go_loopw [36] (fun iv wr => ∃ k : Nat, k ≤ t.kids.length ∧ iv = .int .i64 k ∧ Hid (plains (t.kids.take k) = true) ∧ Below (w.heap.size + 1) (w.alloc (.cells #[.int .i64 t.k, .int .i64 t.i, .int .i64 t.j, .int .i64 t.n, .slice a t.kids.length cap] 26)) wr) (fun i _ => t.kids.length - (intOf i).toNat)
        case atStart => exact ⟨0, Nat.zero_le _, rfl, by simp [Hid, plains], HB'⟩
        case round =>
          obtain ⟨k, hk, rfl, hgood, hb⟩ := hrel
          obtain ⟨d0, d1, d2, d3, d4⟩ := HBX.out _ hb
          have hb0 := below_of_box hb
          by_cases hlt : k < t.kids.length
          · obtain ⟨b, o, rfl, hx⟩ := HN.out k hlt
            have hy := hx.below hb0 hx.lt
            obtain ⟨c0, c1, c2, c3, c4⟩ := hy
            have hq := HK.out k hlt
            obtain ⟨a', cap', S', hS, -⟩ := hq.out
            rw [hS] at c4 hq
            have HM := Lib.hid (List.getElem_mem hlt)
            have HB2 : Below (w.heap.size + 1) (w.alloc (.cells #[.int .i64 t.k, .int .i64 t.i, .int .i64 t.j, .int .i64 t.n, .slice (some ⟨b, o, none⟩) t.kids.length cap] 26)) (wr.alloc (.cells #[.int .i64 t.kids[k].k, .int .i64 t.kids[k].i, .int .i64 t.kids[k].j, .int .i64 t.kids[k].n, .slice a' t.kids[k].kids.length cap'] 26)) := hb.alloc (by have := hb.size; simpa using this) _
            have hq2 := hq.keep (below_of_box HB2)
            have HQ := Lib.hid hq2
            have hsz2 : w.heap.size + 1 ≤ wr.heap.size := by have := hb.size; simpa using this
            obtain ⟨y0, y1, y2, y3, y4⟩ := HBX.out _ HB2
            clear hS hq hq2 hb HB'
            have e12 : (t.k == 12) = false := by simp; omega
            cases e2 : ((k : Int) == 2)
            all_goals
              go_wp2_with fail
              refine (IH.out _ HM.out _ _ HQ.out).mono ?_
              rintro e w' ⟨he, hb'⟩
              have HB3 := below_call HB2 hb' (by simp; omega)
              obtain ⟨x0, x1, x2, x3, x4⟩ := HBX.out _ HB3
              have e2' : (k == 2) = ((k : Int) == 2) := by rw [e2]; simp at e2 ⊢; omega
              have HE2 := Lib.hid e2'
              clear e2' hb' HB2 d0 d1 d2 d3 d4 y0 y1 y2 y3 y4 hb0
              cases hm : (t.kids[k]).markedB <;> cases hp : (t.kids[k]).plainB
              all_goals
                simp [Tm.sortsN, hm, hp] at he
                subst he
                obtain ⟨t1, t2, t3, t4, t5, t6, t7, t8⟩ := bits_table
                go_wp2
                first
                | (go_ret
                   exact ⟨by rw [HV.out, if_neg (by rw [plains_of t.kids k hlt hp]; simp)]; rfl, below_of_box HB3⟩)
                | (go_roundw
                   case rel => exact ⟨k + 1, by omega, by go_num, by show _ = true; rw [plains_take _ _ hlt, hgood.out]; simp [hp], HB3⟩
                   case measure => simp [intOf]; omega)
          · have : k = t.kids.length := by omega
            subst this
            go_wp2
            go_ret
            exact ⟨by rw [HV.out, if_pos (by have := hgood.out; rwa [List.take_length] at this)]; rfl, hb0⟩
end Go.Proofs.Ytjhdcjjoignioaa
