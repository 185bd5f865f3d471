/-
  subst: variable, for Put.
-/
import Derived.Test.YtmhmengbhdaodaaSubC
namespace Go.Proofs.Ytmhmengbhdaodaa
open Go.RowKit

theorem liftB_fin {u : Tm} {b : Int} (hb : 0 ≤ b) (hu : u.rightB = true) : (((u.liftB b 0).k != 0) = false ∧ u.each (liftF b 0) 0 = none) ∨ (((u.liftB b 0).k != 0) = true ∧ u.each (liftF b 0) 0 = some (u.liftB b 0)) := by
  rw [liftB_good hb (Int.le_refl _) hu]
  cases hx : u.each (liftF b 0) 0 with
  | none => exact Or.inl ⟨rfl, rfl⟩
  | some x =>
    have hk := Tm.node_kind (Tm.right_node (right_each _ (liftF_range b 0 hb) u 0 x hu hx))
    refine Or.inr ⟨?_, rfl⟩
    show (x.k != 0) = true
    simp; omega

set_option maxRecDepth 20000 in
set_option maxHeartbeats 2000000 in
theorem variable_put (u : Tm) (hu : u.rightB = true) (hd : u.deep ≤ 100000) (bv : Nat) (a1 a2 : Option Addr) (p1 p2 : Nat) (fr : Nat × Nat) (v b : Int) (pl : Bool) (w : World) (h0 : 0 ≤ v) (h1 : v ≤ 2147483647) (hb0 : 0 ≤ b) (hb1 : b ≤ 2000000)
    (hV0 : w.heap[bv]? = some (.cells #[.int .i64 u.k, .int .i64 u.i, .int .i64 u.j, .int .i64 u.n, .slice a1 u.kids.length p1, .int .i64 u.bare.k, .int .i64 u.bare.i, .int .i64 u.bare.j, .int .i64 u.bare.n, .slice a2 u.bare.kids.length p2] 44 fr)) (hl : Lies w u.kids (.slice a1 u.kids.length p1)) (hlb : Lies w u.bare.kids (.slice a2 u.bare.kids.length p2)) :
    Calls Try.prog 51 #[.agg #[.func (.func 38) #[] #[.pointer (some ⟨bv, 0, none⟩)]], .int .i64 v, .int .i64 b, .bool pl] w (GivesN (gPut u v b pl) w) := by
  obtain ⟨du, hu1, hu2⟩ := under_term
  have HL := Lib.hid hl
  have HLB := Lib.hid hlb
  have HV := Lib.hid hV0
  clear hl hlb hV0
  have hbW : Below w.heap.size w ((w.alloc (.cells #[.func (.func 38) #[] #[.pointer (some ⟨bv, 0, none⟩)]] 47)).alloc (.cells #[.int .i64 0, .int .i64 0, .int .i64 0, .int .i64 0, .slice none 0 0] 24)) := ((Below.refl _ _).alloc (Nat.le_refl _) _).alloc (by simp) _
  have hz : ((w.alloc (.cells #[.func (.func 38) #[] #[.pointer (some ⟨bv, 0, none⟩)]] 47)).alloc (.cells #[.int .i64 0, .int .i64 0, .int .i64 0, .int .i64 0, .slice none 0 0] 24)).heap[w.heap.size + 1]? = some zeroObj := heap_alloc2_new _ _ _
  by_cases hv : v < b
  · have e1 : decide (v < b) = true := by simpa using hv
    have HG := Lib.hid (show gPut u v b pl = some (varT v) by unfold gPut; rw [if_pos hv])
    clear hv hz
    go_enter Try.func51, Try.ntmps51
    go_wp2
    (try simp only [Exit.inBlock, Exit.then])
    refine bodyPost_ret (results_cell_tmp rfl _ _ (w.heap.size + 1) _ _ _ du rfl (heap_alloc2_new _ _ _) hu1 (by cases du <;> first | rfl | exact hu2) size_term) rfl ?_
    rw [HG.out]
    exact ⟨((Below.refl _ _).alloc (Nat.le_refl _) _).alloc (by simp) _, Or.inl ⟨varT v, .slice none 0 0, rfl, rfl, liesP_nil _ _⟩⟩
  have e1 : decide (v < b) = false := by simpa using hv
  have hsub : IntKind.i64.wrap (v - b) = v - b := IntWalk.i64_in _ (by omega)
  have hbi : I64 b := by unfold I64; omega
  have h0i : I64 0 := by unfold I64; omega
  by_cases he : v = b
  · cases pl with
    | false =>
      have HG := Lib.hid (show gPut u v b false = u.each (liftF b 0) 0 by unfold gPut; rw [if_neg hv, if_pos he, if_neg (by decide)])
      have HX0 := liftB_fin (b := b) hb0 hu
      obtain ⟨X, hX⟩ : ∃ X, (u).liftB b 0 = X := ⟨_, rfl⟩
      rw [hX] at HX0
      have HX := Lib.hid hX
      have HFIN := Lib.hid HX0
      have hdX : (u).deep ≤ 100000 := hd
      clear hX HX0
      go_enter Try.func51, Try.ntmps51
      go_wp2_with fail
      refine (putc_zero 0 rfl _ bv u u.bare a1 a2 _ p1 _ p2 fr (keep_block hbW (block_lt HV.out) HV.out)).mono ?_
      rintro e w2 ⟨rfl, hb2⟩
      have hbw2 := hbW.trans (hb2.mono hbW.size)
      have hz2 := keep_block hb2 (block_lt hz) hz
      have hsN : w.heap.size + 1 < w2.heap.size := block_lt hz2
      have hb4 : Below w2.heap.size w2 ((w2.alloc (.cells #[.int .i64 u.k, .int .i64 u.i, .int .i64 u.j, .int .i64 u.n, .slice a1 u.kids.length p1, .int .i64 u.bare.k, .int .i64 u.bare.i, .int .i64 u.bare.j, .int .i64 u.bare.n, .slice a2 u.bare.kids.length p2] 44)).alloc (.cells #[.int .i64 u.k, .int .i64 u.i, .int .i64 u.j, .int .i64 u.n, .slice a1 u.kids.length p1] 24)) := ((Below.refl _ _).alloc (Nat.le_refl _) _).alloc (by simp) _
      have hqx : ((w2.alloc (.cells #[.int .i64 u.k, .int .i64 u.i, .int .i64 u.j, .int .i64 u.n, .slice a1 u.kids.length p1, .int .i64 u.bare.k, .int .i64 u.bare.i, .int .i64 u.bare.j, .int .i64 u.bare.n, .slice a2 u.bare.kids.length p2] 44)).alloc (.cells #[.int .i64 u.k, .int .i64 u.i, .int .i64 u.j, .int .i64 u.n, .slice a1 u.kids.length p1] 24)).heap[w2.heap.size + 1]? = some (.cells #[.int .i64 u.k, .int .i64 u.i, .int .i64 u.j, .int .i64 u.n, .slice a1 u.kids.length p1] 24) := heap_alloc2_new _ _ _
      have hs4 : ((w2.alloc (.cells #[.int .i64 u.k, .int .i64 u.i, .int .i64 u.j, .int .i64 u.n, .slice a1 u.kids.length p1, .int .i64 u.bare.k, .int .i64 u.bare.i, .int .i64 u.bare.j, .int .i64 u.bare.n, .slice a2 u.bare.kids.length p2] 44)).alloc (.cells #[.int .i64 u.k, .int .i64 u.i, .int .i64 u.j, .int .i64 u.n, .slice a1 u.kids.length p1] 24)).heap.size = w2.heap.size + 1 + 1 := by simp
      clear hb2
      go_wp2_with fail
      generalize ((w2.alloc (.cells #[.int .i64 u.k, .int .i64 u.i, .int .i64 u.j, .int .i64 u.n, .slice a1 u.kids.length p1, .int .i64 u.bare.k, .int .i64 u.bare.i, .int .i64 u.bare.j, .int .i64 u.bare.n, .slice a2 u.bare.kids.length p2] 44)).alloc (.cells #[.int .i64 u.k, .int .i64 u.i, .int .i64 u.j, .int .i64 u.n, .slice a1 u.kids.length p1] 24)) = w4 at hb4 hqx hs4 ⊢
      refine (lift_any u b 0 w4 _ ((HL.out.keep hbw2).keep hb4) hbi h0i hdX).mono ?_
      rw [HX.out]
      rintro e w5 ⟨s5, rfl, hl5, hb5⟩
      obtain ⟨a5, c5, rfl, -, -⟩ := hl5.out
      have hq5 := keep_block hb5 (block_lt hqx) hqx
      have hz5 := keep_block hb5 (by omega) (keep_block hb4 (by omega) hz2)
      obtain ⟨x0, x1, x2, x3, x4⟩ := five_cells hq5
      obtain ⟨y0, y1, y2, y3, y4⟩ := five_free hq5
      have hs5 : w2.heap.size + 1 < w5.heap.size := block_lt hq5
      have hbw5 := (hbw2.trans (hb4.mono hbw2.size)).trans (hb5.mono (by omega))
      have hl6 := liesP_fives hl5 (g := w2.heap.size + 1) (N := w2.heap.size + 1 + 1) (by omega) (by omega) (.int .i64 X.k) (.int .i64 X.i) (.int .i64 X.j) (.int .i64 X.n) (.slice a5 X.kids.length c5)
      have hq6 := five_set (v0 := .int .i64 X.k) (v1 := .int .i64 X.i) (v2 := .int .i64 X.j) (v3 := .int .i64 X.n) (v4 := .slice a5 X.kids.length c5) hq5
      have hz6 : (five w5 (w2.heap.size + 1) (.int .i64 X.k) (.int .i64 X.i) (.int .i64 X.j) (.int .i64 X.n) (.slice a5 X.kids.length c5)).heap[w.heap.size + 1]? = some zeroObj := by rw [five_other _ _ _ _ _ _ _ (by omega)]; exact hz5
      have hb6 := below_five hbw5 (g := w2.heap.size + 1) (by omega) (.int .i64 X.k) (.int .i64 X.i) (.int .i64 X.j) (.int .i64 X.n) (.slice a5 X.kids.length c5)
      unfold five at hl6 hz6 hb6
      clear hl5 hb5 hqx hb4 hz5 hz2 hbw2 hbw5 hq5
      go_upto_region 12 with fail
      generalize ((((w5.setCell ⟨w2.heap.size + 1, 0, none⟩ (.int .i64 X.k)).setCell ⟨w2.heap.size + 1, 1, none⟩ (.int .i64 X.i)).setCell ⟨w2.heap.size + 1, 2, none⟩ (.int .i64 X.j)).setCell ⟨w2.heap.size + 1, 3, none⟩ (.int .i64 X.n)).setCell ⟨w2.heap.size + 1, 4, none⟩ (.slice a5 X.kids.length c5) = w6 at hl6 hq6 hz6 hb6 ⊢
      clear x0 x1 x2 x3 x4 y0 y1 y2 y3 y4
      obtain ⟨x0, x1, x2, x3, x4⟩ := five_cells hq6
      obtain ⟨z0, z1, z2, z3, z4⟩ := five_cells hz6
      obtain ⟨f0, f1, f2, f3, f4⟩ := five_free hz6
      have HL6 := Lib.hid hl6
      have HB6 := Lib.hid hb6
      clear hl6 hq6 hb6
      go_wp2_with fail
      go_region
      all_goals
        go_wp2
        (try simp only [Exit.inBlock, Exit.then])
        refine bodyPost_ret (results_cell_tmp rfl _ _ (w.heap.size + 1) _ _ _ du rfl (five_set hz6) hu1 (by cases du <;> first | rfl | exact hu2) size_term) rfl ?_
        rcases HFIN.out with ⟨hk, hr⟩ | ⟨hk, hr⟩
        · exact ⟨(below_five HB6.out (by omega) _ _ _ _ _).drew, Or.inr ⟨X, a5, _, c5, HG.out.trans hr, (by rw [hk] <;> rfl)⟩⟩
        · exact ⟨(below_five HB6.out (by omega) _ _ _ _ _).drew, Or.inl ⟨X, _, HG.out.trans hr, (by rw [hk] <;> rfl), (liesP_fives HL6.out (by omega) (by omega) _ _ _ _ _).later (Below.refl _ _).drew⟩⟩
    | true =>
      have HG := Lib.hid (show gPut u v b true = u.bare.each (liftF b 0) 0 by unfold gPut; rw [if_neg hv, if_pos he, if_pos rfl])
      have HX0 := liftB_fin (b := b) hb0 (plain_right (bare_plain u hu))
      obtain ⟨X, hX⟩ : ∃ X, (u.bare).liftB b 0 = X := ⟨_, rfl⟩
      rw [hX] at HX0
      have HX := Lib.hid hX
      have HFIN := Lib.hid HX0
      have hdX : (u.bare).deep ≤ 100000 := Nat.le_trans (bare_deep u) hd
      clear hX HX0
      go_enter Try.func51, Try.ntmps51
      go_wp2_with fail
      refine (putc_zero 0 rfl _ bv u u.bare a1 a2 _ p1 _ p2 fr (keep_block hbW (block_lt HV.out) HV.out)).mono ?_
      rintro e w2 ⟨rfl, hb2⟩
      have hbw2 := hbW.trans (hb2.mono hbW.size)
      have hz2 := keep_block hb2 (block_lt hz) hz
      have hsN : w.heap.size + 1 < w2.heap.size := block_lt hz2
      have hb4 : Below w2.heap.size w2 ((w2.alloc (.cells #[.int .i64 u.k, .int .i64 u.i, .int .i64 u.j, .int .i64 u.n, .slice a1 u.kids.length p1, .int .i64 u.bare.k, .int .i64 u.bare.i, .int .i64 u.bare.j, .int .i64 u.bare.n, .slice a2 u.bare.kids.length p2] 44)).alloc (.cells #[.int .i64 u.bare.k, .int .i64 u.bare.i, .int .i64 u.bare.j, .int .i64 u.bare.n, .slice a2 u.bare.kids.length p2] 24)) := ((Below.refl _ _).alloc (Nat.le_refl _) _).alloc (by simp) _
      have hqx : ((w2.alloc (.cells #[.int .i64 u.k, .int .i64 u.i, .int .i64 u.j, .int .i64 u.n, .slice a1 u.kids.length p1, .int .i64 u.bare.k, .int .i64 u.bare.i, .int .i64 u.bare.j, .int .i64 u.bare.n, .slice a2 u.bare.kids.length p2] 44)).alloc (.cells #[.int .i64 u.bare.k, .int .i64 u.bare.i, .int .i64 u.bare.j, .int .i64 u.bare.n, .slice a2 u.bare.kids.length p2] 24)).heap[w2.heap.size + 1]? = some (.cells #[.int .i64 u.bare.k, .int .i64 u.bare.i, .int .i64 u.bare.j, .int .i64 u.bare.n, .slice a2 u.bare.kids.length p2] 24) := heap_alloc2_new _ _ _
      have hs4 : ((w2.alloc (.cells #[.int .i64 u.k, .int .i64 u.i, .int .i64 u.j, .int .i64 u.n, .slice a1 u.kids.length p1, .int .i64 u.bare.k, .int .i64 u.bare.i, .int .i64 u.bare.j, .int .i64 u.bare.n, .slice a2 u.bare.kids.length p2] 44)).alloc (.cells #[.int .i64 u.bare.k, .int .i64 u.bare.i, .int .i64 u.bare.j, .int .i64 u.bare.n, .slice a2 u.bare.kids.length p2] 24)).heap.size = w2.heap.size + 1 + 1 := by simp
      clear hb2
      go_wp2_with fail
      generalize ((w2.alloc (.cells #[.int .i64 u.k, .int .i64 u.i, .int .i64 u.j, .int .i64 u.n, .slice a1 u.kids.length p1, .int .i64 u.bare.k, .int .i64 u.bare.i, .int .i64 u.bare.j, .int .i64 u.bare.n, .slice a2 u.bare.kids.length p2] 44)).alloc (.cells #[.int .i64 u.bare.k, .int .i64 u.bare.i, .int .i64 u.bare.j, .int .i64 u.bare.n, .slice a2 u.bare.kids.length p2] 24)) = w4 at hb4 hqx hs4 ⊢
      refine (lift_any u.bare b 0 w4 _ ((HLB.out.keep hbw2).keep hb4) hbi h0i hdX).mono ?_
      rw [HX.out]
      rintro e w5 ⟨s5, rfl, hl5, hb5⟩
      obtain ⟨a5, c5, rfl, -, -⟩ := hl5.out
      have hq5 := keep_block hb5 (block_lt hqx) hqx
      have hz5 := keep_block hb5 (by omega) (keep_block hb4 (by omega) hz2)
      obtain ⟨x0, x1, x2, x3, x4⟩ := five_cells hq5
      obtain ⟨y0, y1, y2, y3, y4⟩ := five_free hq5
      have hs5 : w2.heap.size + 1 < w5.heap.size := block_lt hq5
      have hbw5 := (hbw2.trans (hb4.mono hbw2.size)).trans (hb5.mono (by omega))
      have hl6 := liesP_fives hl5 (g := w2.heap.size + 1) (N := w2.heap.size + 1 + 1) (by omega) (by omega) (.int .i64 X.k) (.int .i64 X.i) (.int .i64 X.j) (.int .i64 X.n) (.slice a5 X.kids.length c5)
      have hq6 := five_set (v0 := .int .i64 X.k) (v1 := .int .i64 X.i) (v2 := .int .i64 X.j) (v3 := .int .i64 X.n) (v4 := .slice a5 X.kids.length c5) hq5
      have hz6 : (five w5 (w2.heap.size + 1) (.int .i64 X.k) (.int .i64 X.i) (.int .i64 X.j) (.int .i64 X.n) (.slice a5 X.kids.length c5)).heap[w.heap.size + 1]? = some zeroObj := by rw [five_other _ _ _ _ _ _ _ (by omega)]; exact hz5
      have hb6 := below_five hbw5 (g := w2.heap.size + 1) (by omega) (.int .i64 X.k) (.int .i64 X.i) (.int .i64 X.j) (.int .i64 X.n) (.slice a5 X.kids.length c5)
      unfold five at hl6 hz6 hb6
      clear hl5 hb5 hqx hb4 hz5 hz2 hbw2 hbw5 hq5
      go_upto_region 12 with fail
      generalize ((((w5.setCell ⟨w2.heap.size + 1, 0, none⟩ (.int .i64 X.k)).setCell ⟨w2.heap.size + 1, 1, none⟩ (.int .i64 X.i)).setCell ⟨w2.heap.size + 1, 2, none⟩ (.int .i64 X.j)).setCell ⟨w2.heap.size + 1, 3, none⟩ (.int .i64 X.n)).setCell ⟨w2.heap.size + 1, 4, none⟩ (.slice a5 X.kids.length c5) = w6 at hl6 hq6 hz6 hb6 ⊢
      clear x0 x1 x2 x3 x4 y0 y1 y2 y3 y4
      obtain ⟨x0, x1, x2, x3, x4⟩ := five_cells hq6
      obtain ⟨z0, z1, z2, z3, z4⟩ := five_cells hz6
      obtain ⟨f0, f1, f2, f3, f4⟩ := five_free hz6
      have HL6 := Lib.hid hl6
      have HB6 := Lib.hid hb6
      clear hl6 hq6 hb6
      go_wp2_with fail
      go_region
      all_goals
        go_wp2
        (try simp only [Exit.inBlock, Exit.then])
        refine bodyPost_ret (results_cell_tmp rfl _ _ (w.heap.size + 1) _ _ _ du rfl (five_set hz6) hu1 (by cases du <;> first | rfl | exact hu2) size_term) rfl ?_
        rcases HFIN.out with ⟨hk, hr⟩ | ⟨hk, hr⟩
        · exact ⟨(below_five HB6.out (by omega) _ _ _ _ _).drew, Or.inr ⟨X, a5, _, c5, HG.out.trans hr, (by rw [hk] <;> rfl)⟩⟩
        · exact ⟨(below_five HB6.out (by omega) _ _ _ _ _).drew, Or.inl ⟨X, _, HG.out.trans hr, (by rw [hk] <;> rfl), (liesP_fives HL6.out (by omega) (by omega) _ _ _ _ _).later (Below.refl _ _).drew⟩⟩
  · have HG := Lib.hid (show gPut u v b pl = some (varT (v - 1)) by unfold gPut; rw [if_neg hv, if_neg he])
    have e3 : decide (0 ≤ v - b - 1) = true := decide_eq_true (by omega)
    have hsum : IntKind.i64.wrap (v - b - 1 + b) = v - 1 := by rw [show v - b - 1 + b = v - 1 by omega]; exact IntWalk.i64_in _ (by omega)
    go_enter Try.func51, Try.ntmps51
    go_wp2_with fail
    refine (putc_next (v - b) (by omega) (by omega) (by omega) _ bv).mono ?_
    rintro e w2 ⟨rfl, hb2⟩
    have hbw2 := hbW.trans (hb2.mono hbW.size)
    have hz2 := keep_block hb2 (block_lt hz) hz
    have hsN : w.heap.size + 1 < w2.heap.size := block_lt hz2
    obtain ⟨z0, z1, z2, z3, z4⟩ := five_cells hz2
    obtain ⟨f0, f1, f2, f3, f4⟩ := five_free hz2
    have HZ2 := Lib.hid hz2
    have HB2 := Lib.hid hbw2
    clear hb2 hz hbW hbw2 hz2
    go_wp2
    (try simp only [Exit.inBlock, Exit.then])
    refine bodyPost_ret (results_cell_tmp rfl _ _ (w.heap.size + 1) _ _ _ du rfl (five_alloc HZ2.out _ _ _ _ _ _) hu1 (by cases du <;> first | rfl | exact hu2) size_term) rfl ?_
    rw [HG.out]
    exact ⟨below_five_alloc HB2.out HB2.out.size (by omega) _ _ _ _ _ _, Or.inl ⟨varT (v - 1), .slice none 0 0, rfl, rfl, liesP_nil _ _⟩⟩
end Go.Proofs.Ytmhmengbhdaodaa
