/-
  erase.under passes the transports at the top of a term.
-/
import Derived.Test.YtjhdcjjoignioaaPur
import Derived.Test.YtjhdcjjoignioaaEnds
import Derived.Deep.LoopGhost
namespace Go.Proofs.Ytjhdcjjoignioaa
open Go.RowKit

/-- What a call hands back that gives a part of its argument. -/
def Parts (u : Tm) (v w : World) (e : Ending) (w' : World) : Prop := ∃ s' : Value, e = .returned (tv u s') ∧ Lies v u.kids s' ∧ Below w.heap.size w w'

/-- The box, the result; the box may hold another term than at first. -/
structure Pair (w : World) (x : Tm) (s : Value) (w' : World) : Prop where
  under : Below w.heap.size w w'
  box : w'.heap[w.heap.size]? = some (boxOf x s)
  res : w'.heap[w.heap.size + 1]? = some zeroObj
theorem Pair.put {w w1 : World} {x : Tm} {s : Value} (h : Pair w x s w1) (y : Tm) (sy : Value) : Pair w y sy (five w1 w.heap.size (.int .i64 y.k) (.int .i64 y.i) (.int .i64 y.j) (.int .i64 y.n) sy) :=
  ⟨below_five h.under (Nat.le_refl _) _ _ _ _ _, five_set h.box, by rw [five_other _ _ _ _ _ _ _ (by omega)]; exact h.res⟩
theorem pair_start (w : World) (t : Tm) (s : Value) : Pair w t s ((w.alloc (.cells #[.int .i64 t.k, .int .i64 t.i, .int .i64 t.j, .int .i64 t.n, s] 26)).alloc (.cells #[.int .i64 0, .int .i64 0, .int .i64 0, .int .i64 0, .slice none 0 0] 26)) :=
  ⟨((Below.refl _ _).alloc (Nat.le_refl _) _).alloc (by simp) _, by rw [Below.heap_alloc _ _ _ (by simp), alloc_new]; rfl, heap_alloc2_new _ _ _⟩

set_option maxRecDepth 20000 in
set_option maxHeartbeats 2000000 in
theorem under_any (t : Tm) (v w : World) (s : Value) (hl : Lies v t.kids s) (hv : Below v.heap.size v w) (hm : t.markedB = true) : Calls Try.prog 84 #[tv t s] w (Parts t.und v w) := by
  obtain ⟨du, hu1, hu2⟩ := under_term
  have hp0 := pair_start w t s
  obtain ⟨a0, cap0, S0, rfl, -⟩ := hl.out
  have HL := Lib.hid hl
  have HM := Lib.hid hm
  clear hl hm
  unfold tv
  go_enter Try.func84, Try.ntmps84
  go_wp2_with fail
  go_loopg [] t.size (fun g wr => ∃ (x : Tm) (sx : Value), g = x.size ∧ Pair w x sx wr ∧ Lies v x.kids sx ∧ x.markedB = true ∧ Hid (x.und = t.und))
  case atStart => exact ⟨t, _, rfl, hp0, HL.out, HM.out, rfl⟩
  case round =>
    clear hp0
    obtain ⟨x, sx, hg, hp, hlx, hmx, hux⟩ := hrel
    have HG := Lib.hid hg
    obtain ⟨ax, cx, Sx, rfl, hcx, hmaxx, -, hn, hkk⟩ := hlx.out
    have HLX := Lib.hid hlx
    unfold maxLen at hmaxx
    clear hlx
    obtain ⟨d0, d1, d2, d3, d4⟩ := five_cells hp.box
    obtain ⟨e0, e1, e2, e3, e4⟩ := five_free hp.box
    obtain ⟨z0, z1, z2, z3, z4⟩ := five_cells hp.res
    obtain ⟨f0, f1, f2, f3, f4⟩ := five_free hp.res
    by_cases hk : x.k = 12
    · have ek : (x.k == 12) = true := by simpa using hk
      obtain ⟨a, b, p, y, hkids, -, -, -, hy⟩ := marked_tr hmx hk
      have hund := und_tr hk hkids
      have hsz : y.size < x.size := by rw [x.size_eq, hkids]; simp only [sizes]; omega
      have h3 : 3 < x.kids.length := by rw [hkids]; show 3 < 4; omega
      have hy3 : x.kids[3] = y := by simp [hkids]
      obtain ⟨b', o, rfl, hx⟩ := hn 3 h3
      have hly := hkk 3 h3
      rw [hy3] at hx hly
      obtain ⟨ay, cy, Sy, hSy, -⟩ := hly.out
      rw [hSy] at hly hx
      obtain ⟨c0, c1, c2, c3, c4⟩ : Node _ b' (o + 15) y (.slice ay y.kids.length cy) := hx.below (hv.trans (hp.under.mono hv.size)) hx.lt
      have HY := Lib.hid (And.intro hly (And.intro hy (hund.symm.trans hux.out)))
      have HSZ := Lib.hid hsz
      have HP := Lib.hid hp
      clear hg hmx hund hk hkids hn hkk hly hSy hx hy hsz hux HLX hy3
      go_wp2
      go_roundg y.size
      case measure => rw [HG.out]; exact HSZ.out
      case rel => exact ⟨y, _, rfl, HP.out.put y _, HY.out.1, HY.out.2.1, HY.out.2.2⟩
    · have ek : (x.k == 12) = false := by simpa using hk
      have hxu : x = t.und := by rw [← hux.out, und_other hk]
      have HXU := Lib.hid hxu
      clear hg hux hxu hk hmx hn hkk
      go_wp2
      refine bodyPost_ret (results_cell_row rfl _ _ (w.heap.size + 1) _ _ _ du rfl (five_set hp.res) hu1 (by cases du <;> first | rfl | exact hu2) size_term) rfl ?_
      rw [← HXU.out]
      have hb := below_five hp.under (g := w.heap.size + 1) (by omega) (.int .i64 x.k) (.int .i64 x.i) (.int .i64 x.j) (.int .i64 x.n) (.slice ax x.kids.length cx)
      exact ⟨_, rfl, HLX.out, hb⟩
end Go.Proofs.Ytjhdcjjoignioaa
