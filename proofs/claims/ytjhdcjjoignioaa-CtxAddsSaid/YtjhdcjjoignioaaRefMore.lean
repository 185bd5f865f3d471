/-
  The page's own: transhipref04.Count, Size, Deep, Right, Pure, Free; erase.moves.
-/
import Derived.Test.YtjhdcjjoignioaaRefMarked
namespace Go.Proofs.Ytjhdcjjoignioaa
open Go.RowKit

theorem counts_le_sizes (l : List Tm) : counts l ≤ sizes l := by
  induction l with
  | nil => simp [counts]
  | cons a r ih => simp only [counts, sizes]; have := count_le_size a; omega

set_option maxHeartbeats 800000 in
theorem refright_any (t : Tm) (w : World) (s : Value) (hl : Lies w t.kids s) : Calls Try.prog 53 #[tv t s] w fun e w' => e = .returned (.bool t.rightB) ∧ Below w.heap.size w w' := by
  obtain ⟨a, cap, S, hs, -⟩ := hl.out
  subst hs
  have HB := (Below.refl (w.heap.size + 1) (w.alloc (.cells #[.int .i64 t.k, .int .i64 t.i, .int .i64 t.j, .int .i64 t.n, .slice a t.kids.length cap] 26)))
  have HL := Lib.hid (hl.keep (below_of_box HB))
  have HBX := Lib.hid (fun (wr : World) => box_cells (w := w) (wr := wr) (v0 := .int .i64 t.k) (v1 := .int .i64 t.i) (v2 := .int .i64 t.j) (v3 := .int .i64 t.n) (v4 := .slice a t.kids.length cap) (T := 26))
  have hl0 := Lib.hid hl
  clear hl
  unfold tv
  go_enter Try.func53, Try.ntmps53
  go_wp2_with fail
  refine (refmarked_any t _ _ HL.out).mono ?_
  rintro e w' ⟨rfl, hb'⟩
  have HB2 := below_call HB hb' (by simp)
  obtain ⟨d0, d1, d2, d3, d4⟩ := HBX.out _ HB2
  clear hb'
  have HL2 := Lib.hid (hl0.out.keep (below_of_box HB2))
  cases hm : t.markedB
  · go_wp2_with fail
    refine (refplain_any t _ _ HL2.out).mono ?_
    rintro e w2 ⟨rfl, hb'⟩
    have HB3 := below_call HB2 hb' (by have := HB2.size; simpa using this)
    clear hb'
    go_wp2
    go_ret
    exact ⟨ret_bool (by simp [Tm.rightB, hm]), below_of_box HB3⟩
  · go_wp2
    go_ret
    exact ⟨ret_bool (by simp [Tm.rightB, hm]), below_of_box HB2⟩

set_option maxHeartbeats 800000 in
theorem refFree_any (t : Tm) (w : World) (s : Value) (hl : Lies w t.kids s) : Calls Try.prog 25 #[tv t s] w fun e w' => e = .returned (.int .i64 t.freeB) ∧ Below w.heap.size w w' := by
  obtain ⟨a, cap, S, hs, -⟩ := hl.out
  subst hs
  have HB := (Below.refl (w.heap.size + 1) (w.alloc (.cells #[.int .i64 t.k, .int .i64 t.i, .int .i64 t.j, .int .i64 t.n, .slice a t.kids.length cap] 26)))
  have HL := Lib.hid (hl.keep (below_of_box HB))
  have HBX := Lib.hid (fun (wr : World) => box_cells (w := w) (wr := wr) (v0 := .int .i64 t.k) (v1 := .int .i64 t.i) (v2 := .int .i64 t.j) (v3 := .int .i64 t.n) (v4 := .slice a t.kids.length cap) (T := 26))
  have hl0 := Lib.hid hl
  clear hl
  unfold tv
  go_enter Try.func25, Try.ntmps25
  go_wp2_with fail
  refine (refright_any t _ _ HL.out).mono ?_
  rintro e w' ⟨rfl, hb'⟩
  have HB2 := below_call HB hb' (by simp)
  obtain ⟨d0, d1, d2, d3, d4⟩ := HBX.out _ HB2
  clear hb'
  have HL2 := Lib.hid (hl0.out.keep (below_of_box HB2))
  cases hr : t.rightB
  · go_wp2
    go_ret
    exact ⟨ret_int (by simp [Tm.freeB, hr]), below_of_box HB2⟩
  · go_wp2_with fail
    refine (reffree_any t _ _ HL2.out hr).mono ?_
    rintro e w2 ⟨rfl, hb'⟩
    have HB3 := below_call HB2 hb' (by have := HB2.size; simpa using this)
    clear hb'
    go_wp2
    go_ret
    exact ⟨ret_int (by simp [Tm.freeB, hr]), below_of_box HB3⟩

end Go.Proofs.Ytjhdcjjoignioaa
