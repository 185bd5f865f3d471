/-
  term.Right, Marked, Plain, Pure, Free and the page's own.
-/
import Derived.Test.YtmhmengbhdaodaaFree
import Derived.Test.YtmhmengbhdaodaaMoves
namespace Go.Proofs.Ytmhmengbhdaodaa
open Go.RowKit

def Tm.pureB (t : Tm) : Bool := t.markedB && (t.count == 0)
def Tm.freeB (t : Tm) : Int := if t.rightB then t.freeN else 0

set_option maxHeartbeats 800000 in
theorem right_any (t : Tm) (w : World) (s : Value) (hl : Lies w t.kids s) : Calls Try.prog 30 #[tv t s] w fun e w' => e = .returned (.bool t.rightB) ∧ Below w.heap.size w w' := by
  obtain ⟨a, cap, S, hs, -⟩ := hl.out
  subst hs
  have HB := (Below.refl (w.heap.size + 1) (w.alloc (.cells #[.int .i64 t.k, .int .i64 t.i, .int .i64 t.j, .int .i64 t.n, .slice a t.kids.length cap] 24)))
  have HL := Lib.hid (hl.keep (below_of_box HB))
  have HBX := Lib.hid (fun (wr : World) => box_cells (w := w) (wr := wr) (v0 := .int .i64 t.k) (v1 := .int .i64 t.i) (v2 := .int .i64 t.j) (v3 := .int .i64 t.n) (v4 := .slice a t.kids.length cap) (T := 24))
  clear hl
  unfold tv
  go_enter Try.func30, Try.ntmps30
  go_wp2_with fail
  refine (sorts_any t _ _ HL.out).mono ?_
  rintro e w' ⟨he, hb'⟩
  have HB2 := below_call HB hb' (by simp)
  obtain ⟨d0, d1, d2, d3, d4⟩ := HBX.out _ HB2
  clear hb'
  obtain ⟨t1, t2, t3, t4, t5, t6, t7, t8⟩ := bits_table
  cases hm : t.markedB <;> cases hp : t.plainB
  all_goals
    simp [Tm.sortsN, hm, hp] at he
    subst he
    go_wp2
    go_ret
    exact ⟨ret_bool (by simp [Tm.rightB, hm, hp]), below_of_box HB2⟩

set_option maxHeartbeats 800000 in
theorem marked_any (t : Tm) (w : World) (s : Value) (hl : Lies w t.kids s) : Calls Try.prog 50 #[tv t s] w fun e w' => e = .returned (.bool t.markedB) ∧ Below w.heap.size w w' := by
  obtain ⟨a, cap, S, hs, -⟩ := hl.out
  subst hs
  have HB := (Below.refl (w.heap.size + 1) (w.alloc (.cells #[.int .i64 t.k, .int .i64 t.i, .int .i64 t.j, .int .i64 t.n, .slice a t.kids.length cap] 24)))
  have HL := Lib.hid (hl.keep (below_of_box HB))
  have HBX := Lib.hid (fun (wr : World) => box_cells (w := w) (wr := wr) (v0 := .int .i64 t.k) (v1 := .int .i64 t.i) (v2 := .int .i64 t.j) (v3 := .int .i64 t.n) (v4 := .slice a t.kids.length cap) (T := 24))
  clear hl
  unfold tv
  go_enter Try.func50, Try.ntmps50
  go_wp2_with fail
  refine (sorts_any t _ _ HL.out).mono ?_
  rintro e w' ⟨he, hb'⟩
  have HB2 := below_call HB hb' (by simp)
  obtain ⟨d0, d1, d2, d3, d4⟩ := HBX.out _ HB2
  clear hb'
  obtain ⟨t1, t2, t3, t4, t5, t6, t7, t8⟩ := bits_table
  cases hm : t.markedB <;> cases hp : t.plainB
  all_goals
    simp [Tm.sortsN, hm, hp] at he
    subst he
    go_wp2
    go_ret
    exact ⟨ret_bool (by simp [hm]), below_of_box HB2⟩

end Go.Proofs.Ytmhmengbhdaodaa
