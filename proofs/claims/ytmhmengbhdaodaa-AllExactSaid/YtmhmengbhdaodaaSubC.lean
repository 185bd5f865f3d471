/-
  subst: fits, plainPlace, the functions that Put and All hand over, variable.
-/
import Derived.Test.YtmhmengbhdaodaaPutFacts
import Derived.Test.YtmhmengbhdaodaaLift
namespace Go.Proofs.Ytmhmengbhdaodaa
open Go.RowKit

theorem results_cell_tmp2 {P : Program} {fn : Func} {p q r : Tmp} {ty : TypeId} (h : fn.results = #[.cell p ty, .tmp q, .tmp r]) (tmps : Array Value) (w : World) (g : Nat) (t : TypeId) (cs : Array Value) (fr : Nat × Nat) (d : TypeDesc)
    (hp : tmps.getD p undef = .pointer (some ⟨g, 0, none⟩)) (hg : w.heap[g]? = some (.cells cs t fr))
    (hu : P.underlying ty = some d) (hd : (match d with | .struct _ | .array _ _ => true | _ => false) = true) (hi : (P.info? ty).map (·.size) = some cs.size) :
    (results fn tmps).run P w = .ok (.tuple #[.agg cs, tmps.getD q undef, tmps.getD r undef]) w := by
  have hp' : tmps[p]?.getD undef = .pointer (some ⟨g, 0, none⟩) := by simpa using hp
  simp [results, h, hp', asAddr, run_loadVar_row w g t ty cs fr d hg hu hd hi]
theorem under_value : ∃ d, Try.prog.underlying 44 = some d ∧ (match d with | .struct _ | .array _ _ => true | _ => false) = true := by
  have h : (Try.prog.underlying 44).map (fun d => match d with | .struct _ | .array _ _ => true | _ => false) = some true := by kernel_rfl
  cases e : Try.prog.underlying 44 with
  | none => rw [e] at h; cases h
  | some d => rw [e] at h; exact ⟨d, rfl, Option.some.inj h⟩
theorem size_value : (Try.prog.info? 44).map (·.size) = some 10 := by kernel_rfl

/-- Ten cells of a block. -/
theorem ten_cells {w : World} {g : Nat} {v0 v1 v2 v3 v4 v5 v6 v7 v8 v9 : Value} {T : TypeId} {fr : Nat × Nat} (h : w.heap[g]? = some (.cells #[v0, v1, v2, v3, v4, v5, v6, v7, v8, v9] T fr)) : w.cell? ⟨g, 0, none⟩ = some v0 ∧ w.cell? ⟨g, 1, none⟩ = some v1 ∧ w.cell? ⟨g, 2, none⟩ = some v2 ∧ w.cell? ⟨g, 3, none⟩ = some v3 ∧ w.cell? ⟨g, 4, none⟩ = some v4 ∧ w.cell? ⟨g, 5, none⟩ = some v5 ∧ w.cell? ⟨g, 6, none⟩ = some v6 ∧ w.cell? ⟨g, 7, none⟩ = some v7 ∧ w.cell? ⟨g, 8, none⟩ = some v8 ∧ w.cell? ⟨g, 9, none⟩ = some v9 := by
  have c := fun q => cell_of_row w g q _ _ _ h
  exact ⟨by rw [c]; rfl, by rw [c]; rfl, by rw [c]; rfl, by rw [c]; rfl, by rw [c]; rfl, by rw [c]; rfl, by rw [c]; rfl, by rw [c]; rfl, by rw [c]; rfl, by rw [c]; rfl⟩
theorem ten_free {w : World} {g : Nat} {v0 v1 v2 v3 v4 v5 v6 v7 v8 v9 : Value} {T : TypeId} (h : w.heap[g]? = some (.cells #[v0, v1, v2, v3, v4, v5, v6, v7, v8, v9] T (0, 0))) (q : Nat) : w.frozen? ⟨g, q, none⟩ = false := open_unfrozen h q
theorem ten_set {w : World} {g : Nat} {z0 z1 z2 z3 z4 z5 z6 z7 z8 z9 v0 v1 v2 v3 v4 v5 v6 v7 v8 v9 : Value} {T : TypeId} (h : w.heap[g]? = some (.cells #[z0, z1, z2, z3, z4, z5, z6, z7, z8, z9] T (0, 0))) : ((((((((((w.setCell ⟨g, 0, none⟩ v0).setCell ⟨g, 1, none⟩ v1).setCell ⟨g, 2, none⟩ v2).setCell ⟨g, 3, none⟩ v3).setCell ⟨g, 4, none⟩ v4).setCell ⟨g, 5, none⟩ v5).setCell ⟨g, 6, none⟩ v6).setCell ⟨g, 7, none⟩ v7).setCell ⟨g, 8, none⟩ v8).setCell ⟨g, 9, none⟩ v9).heap[g]? = some (.cells #[v0, v1, v2, v3, v4, v5, v6, v7, v8, v9] T (0, 0)) := by
  have h5 : (((((w.setCell ⟨g, 0, none⟩ v0).setCell ⟨g, 1, none⟩ v1).setCell ⟨g, 2, none⟩ v2).setCell ⟨g, 3, none⟩ v3).setCell ⟨g, 4, none⟩ v4).heap[g]? = some (.cells #[v0, v1, v2, v3, v4, z5, z6, z7, z8, z9] T (0, 0)) := heap_setCell_same _ _ _ _ _ _ (heap_setCell_same _ _ _ _ _ _ (heap_setCell_same _ _ _ _ _ _ (heap_setCell_same _ _ _ _ _ _ (heap_setCell_same _ _ _ _ _ _ h))))
  exact heap_setCell_same _ _ _ _ _ _ (heap_setCell_same _ _ _ _ _ _ (heap_setCell_same _ _ _ _ _ _ (heap_setCell_same _ _ _ _ _ _ (heap_setCell_same _ _ _ _ _ _ h5))))

/-- What a call hands back that makes a term, or says that there is none; the term is then of no account. -/
def GivesN (r : Option Tm) (w : World) (e : Ending) (w' : World) : Prop := Below w.heap.size w w' ∧
  ((∃ u s', r = some u ∧ e = .returned (.tuple #[tv u s', .bool true]) ∧ LiesP w' (Own w.heap.size w') u.kids s') ∨ (∃ (z : Tm) (a : Option Addr) (n cap : Nat), r = none ∧ e = .returned (.tuple #[tv z (.slice a n cap), .bool false])))

set_option maxHeartbeats 1000000 in
theorem fits_any (t u : Tm) (w : World) (s r : Value) (hl : Lies w t.kids s) (hm : Lies w u.kids r) : Calls Try.prog 37 #[tv t s, tv u r] w fun e w' => e = .returned (.bool (fitsB t u)) ∧ Below w.heap.size w w' := by
  obtain ⟨a, cap, S, rfl, -⟩ := hl.out
  obtain ⟨a2, cap2, S2, rfl, -⟩ := hm.out
  have HL := Lib.hid hl
  have HM := Lib.hid hm
  have H0 := held2_start w t (.slice a t.kids.length cap) u (.slice a2 u.kids.length cap2)
  clear hl hm
  unfold tv
  by_cases h1 : t.k ≤ 2
  · have e1 : decide (t.k ≤ 2) = true := by simpa using h1
    have HR := Lib.hid (show fitsB t u = u.rightB by unfold fitsB; rw [if_pos (Or.inl h1)])
    clear h1
    go_enter Try.func37, Try.ntmps37
    go_wp2_with fail
    refine (right_any u _ _ (held2_lies H0 HM.out)).mono ?_
    rintro e w1 ⟨rfl, hb1⟩
    have H1 := held2_call H0 hb1
    clear hb1
    go_wp2
    go_ret
    exact ⟨ret_bool HR.out.symm, held2_below H1⟩
  have e1 : decide (t.k ≤ 2) = false := by simpa using h1
  by_cases h2 : 12 < t.k
  · have e2 : decide (12 < t.k) = true := by simpa using h2
    have HR := Lib.hid (show fitsB t u = u.rightB by unfold fitsB; rw [if_pos (Or.inr h2)])
    clear h1 h2
    go_enter Try.func37, Try.ntmps37
    go_wp2_with fail
    refine (right_any u _ _ (held2_lies H0 HM.out)).mono ?_
    rintro e w1 ⟨rfl, hb1⟩
    have H1 := held2_call H0 hb1
    clear hb1
    go_wp2
    go_ret
    exact ⟨ret_bool HR.out.symm, held2_below H1⟩
  have e2 : decide (12 < t.k) = false := by simpa using h2
  have HR := Lib.hid (show fitsB t u = u.markedB by unfold fitsB; rw [if_neg (by omega)])
  clear h1 h2
  go_enter Try.func37, Try.ntmps37
  go_wp2_with fail
  refine (marked_any u _ _ (held2_lies H0 HM.out)).mono ?_
  rintro e w1 ⟨rfl, hb1⟩
  have H1 := held2_call H0 hb1
  clear hb1
  go_wp2
  go_ret
  exact ⟨ret_bool HR.out.symm, held2_below H1⟩

theorem plainPlace_any (t : Tm) (w : World) (s : Value) : Calls Try.prog 40 #[tv t s] w fun e w' => e = .returned (.bool (decide (12 < t.k))) ∧ Below w.heap.size w w' := by
  unfold tv
  go_enter Try.func40, Try.ntmps40
  go_wp2
  go_ret
  exact ⟨rfl, (Below.refl _ _).alloc (Nat.le_refl _) _⟩

set_option maxHeartbeats 1000000 in
theorem putc_zero (n : Int) (hn : n = 0) (w : World) (bv : Nat) (u x : Tm) (a1 a2 : Option Addr) (n1 p1 n2 p2 : Nat) (fr : Nat × Nat) (h : w.heap[bv]? = some (.cells #[.int .i64 u.k, .int .i64 u.i, .int .i64 u.j, .int .i64 u.n, .slice a1 n1 p1, .int .i64 x.k, .int .i64 x.i, .int .i64 x.j, .int .i64 x.n, .slice a2 n2 p2] 44 fr)) :
    Calls Try.prog 38 #[.int .i64 n, .pointer (some ⟨bv, 0, none⟩)] w fun e w' => e = .returned (.tuple #[.agg #[.int .i64 u.k, .int .i64 u.i, .int .i64 u.j, .int .i64 u.n, .slice a1 n1 p1, .int .i64 x.k, .int .i64 x.i, .int .i64 x.j, .int .i64 x.n, .slice a2 n2 p2], .int .i64 (-1), .bool true]) ∧ Below w.heap.size w w' := by
  obtain ⟨dv, hv1, hv2⟩ := under_value
  obtain ⟨c0, c1, c2, c3, c4, c5, c6, c7, c8, c9⟩ := ten_cells h
  have hlt : bv < w.heap.size := block_lt h
  have e1 : (n == 0) = true := by simpa using hn
  clear hn h
  go_enter Try.func38, Try.ntmps38
  go_wp2
  (try simp only [Exit.inBlock, Exit.then])
  refine bodyPost_ret (results_cell_tmp2 rfl _ _ (w.heap.size) _ _ _ dv rfl (alloc_new _ _) hv1 (by cases dv <;> first | rfl | exact hv2) size_value) rfl ?_
  exact ⟨rfl, (Below.refl _ _).alloc (Nat.le_refl _) _⟩
set_option maxHeartbeats 1000000 in
theorem putc_next (n : Int) (hn : n ≠ 0) (h0 : 0 ≤ n) (h1 : n ≤ 2147483647) (w : World) (bv : Nat) :
    Calls Try.prog 38 #[.int .i64 n, .pointer (some ⟨bv, 0, none⟩)] w fun e w' => e = .returned (.tuple #[.agg #[.int .i64 0, .int .i64 0, .int .i64 0, .int .i64 0, .slice none 0 0, .int .i64 0, .int .i64 0, .int .i64 0, .int .i64 0, .slice none 0 0], .int .i64 (n - 1), .bool true]) ∧ Below w.heap.size w w' := by
  obtain ⟨dv, hv1, hv2⟩ := under_value
  have e1 : (n == 0) = false := by simpa using hn
  clear hn
  go_enter Try.func38, Try.ntmps38
  go_wp2
  (try simp only [Exit.inBlock, Exit.then])
  refine bodyPost_ret (results_cell_tmp2 rfl _ _ (w.heap.size) _ _ _ dv rfl (alloc_new _ _) hv1 (by cases dv <;> first | rfl | exact hv2) size_value) rfl ?_
  exact ⟨rfl, (Below.refl _ _).alloc (Nat.le_refl _) _⟩
end Go.Proofs.Ytmhmengbhdaodaa
