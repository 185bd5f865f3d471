/-
  The page's own: transhipref04.Count, Size, Deep, Right, Pure, Free; erase.moves.
-/
import Derived.Test.YtjoolpmaehnhpaaRefMarked
namespace Go.Proofs.Ytjoolpmaehnhpaa
open Go.RowKit

theorem counts_le_sizes (l : List Tm) : counts l ≤ sizes l := by
  induction l with
  | nil => simp [counts]
  | cons a r ih => simp only [counts, sizes]; have := count_le_size a; omega

set_option maxHeartbeats 800000 in
theorem ecount_any (t : Tm) : ∀ (w : World) (s : Value), Lies w t.kids s → t.size ≤ 1000000000000 → Calls Try.prog 128 #[tv t s] w fun e w' => e = .returned (.int .i64 (t.count : Nat)) ∧ Below w.heap.size w w' := by
  induction t using Tm.ind with
  | h t ih =>
    intro w s hl hs
    obtain ⟨a, cap, S, rfl, hc, hm, hf, hn, hk⟩ := hl.out
    unfold tv
    unfold maxLen at hm
    have HSZ := Lib.hid (t.size_eq)
    have HCQ := Lib.hid (t.count_eq)
    have HCS := Lib.hid ((fun (x : Tm) (_ : x ∈ t.kids) => count_le_size x))
    have IH := Lib.hid ih
    have HN := Lib.hid hn
    have HK := Lib.hid hk
    have HBX := Lib.hid (fun (wr : World) => box_cells (w := w) (wr := wr) (v0 := .int .i64 t.k) (v1 := .int .i64 t.i) (v2 := .int .i64 t.j) (v3 := .int .i64 t.n) (v4 := .slice a t.kids.length cap) (T := 47))
    clear ih hn hk hf hl
    have hcases : (t.k == 12) = true ∨ (t.k == 12) = false := by cases (t.k == 12) <;> simp
    rcases hcases with e12 | e12
    rotate_left
    · have H12 : Hid ((if t.k = 12 then 1 else 0) = 0) := by show _ = _; simp at e12; simp [e12]
      go_enter Try.func128, Try.ntmps128
      go_wp2
      go_loopw [3, 12] (fun n i wr => ∃ k : Nat, k ≤ t.kids.length ∧ i = .int .i64 k ∧ n = .int .i64 ((0 + counts (t.kids.take k) : Nat) : Int) ∧ Below (w.heap.size + 1) (w.alloc (.cells #[.int .i64 t.k, .int .i64 t.i, .int .i64 t.j, .int .i64 t.n, .slice a t.kids.length cap] 47)) wr) (fun n i _ => t.kids.length - (intOf i).toNat)
      case atStart => exact ⟨0, Nat.zero_le _, rfl, by simp [counts], Below.refl _ _⟩
      case round =>
        obtain ⟨k, hk, rfl, rfl, hb⟩ := hrel
        obtain ⟨d0, d1, d2, d3, d4⟩ := HBX.out _ hb
        have hb0 := below_of_box hb
        by_cases hlt : k < t.kids.length
        · obtain ⟨b, o, rfl, hx⟩ := HN.out k hlt
          have hy := hx.below hb0 hx.lt
          obtain ⟨c0, c1, c2, c3, c4⟩ := hy
          have hq := HK.out k hlt
          obtain ⟨a', cap', S', hS, -⟩ := hq.out
          rw [hS] at c4 hq
          have HM := Lib.hid (List.getElem_mem hlt)
          have HB2 : Below (w.heap.size + 1) (w.alloc (.cells #[.int .i64 t.k, .int .i64 t.i, .int .i64 t.j, .int .i64 t.n, .slice (some ⟨b, o, none⟩) t.kids.length cap] 47)) (wr.alloc (.cells #[.int .i64 t.kids[k].k, .int .i64 t.kids[k].i, .int .i64 t.kids[k].j, .int .i64 t.kids[k].n, .slice a' t.kids[k].kids.length cap'] 47)) := hb.alloc (by have := hb.size; simpa using this) _
          have HQ := Lib.hid (hq.keep (below_of_box HB2))
          have hsz2 : w.heap.size + 1 ≤ wr.heap.size := by have := hb.size; simpa using this
          obtain ⟨y0, y1, y2, y3, y4⟩ := HBX.out _ HB2
          clear hS hq
          have HT := Lib.hid (counts_take t.kids k hlt)
          have h1 := sizes_le t.kids (k + 1)
          have h2 : 1 + sizes (t.kids.take k) + (t.kids[k]).size ≤ 1000000000000 := by rw [sizes_take t.kids k hlt] at h1; rw [HSZ.out] at hs; omega
          have h3 : counts (t.kids.take k) ≤ sizes (t.kids.take k) := counts_le_sizes _
          have h4 := count_le_size (t.kids[k])
          clear h1
          go_wp2_with fail
          refine (IH.out _ HM.out _ _ HQ.out (by omega)).mono ?_
          rintro e w2 ⟨rfl, hb'⟩
          have HB3 := below_call HB2 hb' (by simp; omega)
          obtain ⟨x0, x1, x2, x3, x4⟩ := HBX.out _ HB3
          clear hb' HB2 hb d0 d1 d2 d3 d4 y0 y1 y2 y3 y4 hb0 c0 c1 c2 c3 c4
          go_wp2
          go_roundw
          case rel => exact ⟨k + 1, by omega, by go_num, by rw [HT.out]; go_num, HB3⟩
          case measure => simp [intOf]; omega
        · have : k = t.kids.length := by omega
          subst this
          go_wp2
          go_ret
          refine ⟨?_, hb0⟩
          rw [List.take_length, HCQ.out, H12.out]
          rfl
    · have H12 : Hid ((if t.k = 12 then 1 else 0) = 1) := by show _ = _; simp at e12; simp [e12]
      go_enter Try.func128, Try.ntmps128
      go_wp2
      go_loopw [3, 12] (fun n i wr => ∃ k : Nat, k ≤ t.kids.length ∧ i = .int .i64 k ∧ n = .int .i64 ((1 + counts (t.kids.take k) : Nat) : Int) ∧ Below (w.heap.size + 1) (w.alloc (.cells #[.int .i64 t.k, .int .i64 t.i, .int .i64 t.j, .int .i64 t.n, .slice a t.kids.length cap] 47)) wr) (fun n i _ => t.kids.length - (intOf i).toNat)
      case atStart => exact ⟨0, Nat.zero_le _, rfl, by simp [counts], Below.refl _ _⟩
      case round =>
        obtain ⟨k, hk, rfl, rfl, hb⟩ := hrel
        obtain ⟨d0, d1, d2, d3, d4⟩ := HBX.out _ hb
        have hb0 := below_of_box hb
        by_cases hlt : k < t.kids.length
        · obtain ⟨b, o, rfl, hx⟩ := HN.out k hlt
          have hy := hx.below hb0 hx.lt
          obtain ⟨c0, c1, c2, c3, c4⟩ := hy
          have hq := HK.out k hlt
          obtain ⟨a', cap', S', hS, -⟩ := hq.out
          rw [hS] at c4 hq
          have HM := Lib.hid (List.getElem_mem hlt)
          have HB2 : Below (w.heap.size + 1) (w.alloc (.cells #[.int .i64 t.k, .int .i64 t.i, .int .i64 t.j, .int .i64 t.n, .slice (some ⟨b, o, none⟩) t.kids.length cap] 47)) (wr.alloc (.cells #[.int .i64 t.kids[k].k, .int .i64 t.kids[k].i, .int .i64 t.kids[k].j, .int .i64 t.kids[k].n, .slice a' t.kids[k].kids.length cap'] 47)) := hb.alloc (by have := hb.size; simpa using this) _
          have HQ := Lib.hid (hq.keep (below_of_box HB2))
          have hsz2 : w.heap.size + 1 ≤ wr.heap.size := by have := hb.size; simpa using this
          obtain ⟨y0, y1, y2, y3, y4⟩ := HBX.out _ HB2
          clear hS hq
          have HT := Lib.hid (counts_take t.kids k hlt)
          have h1 := sizes_le t.kids (k + 1)
          have h2 : 1 + sizes (t.kids.take k) + (t.kids[k]).size ≤ 1000000000000 := by rw [sizes_take t.kids k hlt] at h1; rw [HSZ.out] at hs; omega
          have h3 : counts (t.kids.take k) ≤ sizes (t.kids.take k) := counts_le_sizes _
          have h4 := count_le_size (t.kids[k])
          clear h1
          go_wp2_with fail
          refine (IH.out _ HM.out _ _ HQ.out (by omega)).mono ?_
          rintro e w2 ⟨rfl, hb'⟩
          have HB3 := below_call HB2 hb' (by simp; omega)
          obtain ⟨x0, x1, x2, x3, x4⟩ := HBX.out _ HB3
          clear hb' HB2 hb d0 d1 d2 d3 d4 y0 y1 y2 y3 y4 hb0 c0 c1 c2 c3 c4
          go_wp2
          go_roundw
          case rel => exact ⟨k + 1, by omega, by go_num, by rw [HT.out]; go_num, HB3⟩
          case measure => simp [intOf]; omega
        · have : k = t.kids.length := by omega
          subst this
          go_wp2
          go_ret
          refine ⟨?_, hb0⟩
          rw [List.take_length, HCQ.out, H12.out]
          rfl

set_option maxHeartbeats 800000 in
theorem refright_any (t : Tm) (w : World) (s : Value) (hl : Lies w t.kids s) : Calls Try.prog 85 #[tv t s] w fun e w' => e = .returned (.bool t.rightB) ∧ Below w.heap.size w w' := by
  obtain ⟨a, cap, S, hs, -⟩ := hl.out
  subst hs
  have HB := (Below.refl (w.heap.size + 1) (w.alloc (.cells #[.int .i64 t.k, .int .i64 t.i, .int .i64 t.j, .int .i64 t.n, .slice a t.kids.length cap] 47)))
  have HL := Lib.hid (hl.keep (below_of_box HB))
  have HBX := Lib.hid (fun (wr : World) => box_cells (w := w) (wr := wr) (v0 := .int .i64 t.k) (v1 := .int .i64 t.i) (v2 := .int .i64 t.j) (v3 := .int .i64 t.n) (v4 := .slice a t.kids.length cap) (T := 47))
  have hl0 := Lib.hid hl
  clear hl
  unfold tv
  go_enter Try.func85, Try.ntmps85
  go_wp2_with fail
  refine (refmarked_any t _ _ HL.out).mono ?_
  rintro e w' ⟨rfl, hb'⟩
  have HB2 := below_call HB hb' (by simp)
  obtain ⟨d0, d1, d2, d3, d4⟩ := HBX.out _ HB2
  clear hb'
  have HL2 := Lib.hid (hl0.out.keep (below_of_box HB2))
  cases hm : t.markedB
  · go_wp2_with fail
    refine (refplain_any t _ _ HL2.out).mono ?_
    rintro e w2 ⟨rfl, hb'⟩
    have HB3 := below_call HB2 hb' (by have := HB2.size; simpa using this)
    clear hb'
    go_wp2
    go_ret
    exact ⟨ret_bool (by simp [Tm.rightB, hm]), below_of_box HB3⟩
  · go_wp2
    go_ret
    exact ⟨ret_bool (by simp [Tm.rightB, hm]), below_of_box HB2⟩

set_option maxHeartbeats 800000 in
theorem refFree_any (t : Tm) (w : World) (s : Value) (hl : Lies w t.kids s) : Calls Try.prog 43 #[tv t s] w fun e w' => e = .returned (.int .i64 t.freeB) ∧ Below w.heap.size w w' := by
  obtain ⟨a, cap, S, hs, -⟩ := hl.out
  subst hs
  have HB := (Below.refl (w.heap.size + 1) (w.alloc (.cells #[.int .i64 t.k, .int .i64 t.i, .int .i64 t.j, .int .i64 t.n, .slice a t.kids.length cap] 47)))
  have HL := Lib.hid (hl.keep (below_of_box HB))
  have HBX := Lib.hid (fun (wr : World) => box_cells (w := w) (wr := wr) (v0 := .int .i64 t.k) (v1 := .int .i64 t.i) (v2 := .int .i64 t.j) (v3 := .int .i64 t.n) (v4 := .slice a t.kids.length cap) (T := 47))
  have hl0 := Lib.hid hl
  clear hl
  unfold tv
  go_enter Try.func43, Try.ntmps43
  go_wp2_with fail
  refine (refright_any t _ _ HL.out).mono ?_
  rintro e w' ⟨rfl, hb'⟩
  have HB2 := below_call HB hb' (by simp)
  obtain ⟨d0, d1, d2, d3, d4⟩ := HBX.out _ HB2
  clear hb'
  have HL2 := Lib.hid (hl0.out.keep (below_of_box HB2))
  cases hr : t.rightB
  · go_wp2
    go_ret
    exact ⟨ret_int (by simp [Tm.freeB, hr]), below_of_box HB2⟩
  · go_wp2_with fail
    refine (reffree_any t _ _ HL2.out hr).mono ?_
    rintro e w2 ⟨rfl, hb'⟩
    have HB3 := below_call HB2 hb' (by have := HB2.size; simpa using this)
    clear hb'
    go_wp2
    go_ret
    exact ⟨ret_int (by simp [Tm.freeB, hr]), below_of_box HB3⟩

end Go.Proofs.Ytjoolpmaehnhpaa
