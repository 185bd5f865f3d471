/-
  Texts that AllExact stands on, in one: AllC, AllM, RefAll, All.
-/
import Derived.Test.YtmhmengbhdaodaaSubV
import Derived.Test.YtmhmengbhdaodaaPutLaws
import Derived.Test.YtmhmengbhdaodaaQ
import Derived.Test.YtmhmengbhdaodaaIn
import Derived.Test.YtmhmengbhdaodaaPut
import Derived.Test.YtmhmengbhdaodaaPzA
import Derived.Test.YtmhmengbhdaodaaLawKit
import Derived.Laws.EntriesVeiled
import Derived.Deep.RegionLaw
/-! subst.All's own function; variable for All. -/
namespace Go.Proofs.Ytmhmengbhdaodaa
open Go.RowKit

/-- The ten cells of a value at a place. -/
structure Val10 (w : World) (b o : Nat) (u x : Tm) (s1 s2 : Value) : Prop where
  c0 : w.cell? ⟨b, o, none⟩ = some (.int .i64 u.k)
  c1 : w.cell? ⟨b, o + 1, none⟩ = some (.int .i64 u.i)
  c2 : w.cell? ⟨b, o + 2, none⟩ = some (.int .i64 u.j)
  c3 : w.cell? ⟨b, o + 3, none⟩ = some (.int .i64 u.n)
  c4 : w.cell? ⟨b, o + 4, none⟩ = some (s1)
  c5 : w.cell? ⟨b, o + 5, none⟩ = some (.int .i64 x.k)
  c6 : w.cell? ⟨b, o + 6, none⟩ = some (.int .i64 x.i)
  c7 : w.cell? ⟨b, o + 7, none⟩ = some (.int .i64 x.j)
  c8 : w.cell? ⟨b, o + 8, none⟩ = some (.int .i64 x.n)
  c9 : w.cell? ⟨b, o + 9, none⟩ = some (s2)
theorem Val10.keep {w w' : World} {b o : Nat} {u x : Tm} {s1 s2 : Value} (h : Val10 w b o u x s1 s2) (hb : Below w.heap.size w w') : Val10 w' b o u x s1 s2 :=
  ⟨cell_lat hb h.c0, cell_lat hb h.c1, cell_lat hb h.c2, cell_lat hb h.c3, cell_lat hb h.c4, cell_lat hb h.c5, cell_lat hb h.c6, cell_lat hb h.c7, cell_lat hb h.c8, cell_lat hb h.c9⟩

set_option maxHeartbeats 1000000 in
theorem allc_in (N k : Nat) (hk : k < N) (w : World) (bs bv : Nat) (u x : Tm) (a1 a2 : Option Addr) (n1 p1 n2 p2 : Nat) (hc : w.cell? ⟨bs, 0, none⟩ = some (.slice (some ⟨bv, 0, none⟩) N N)) (h : Val10 w bv (k * 10) u x (.slice a1 n1 p1) (.slice a2 n2 p2)) :
    Calls Try.prog 41 #[.int .i64 k, .pointer (some ⟨bs, 0, none⟩)] w fun e w' => e = .returned (.tuple #[.agg #[.int .i64 u.k, .int .i64 u.i, .int .i64 u.j, .int .i64 u.n, .slice a1 n1 p1, .int .i64 x.k, .int .i64 x.i, .int .i64 x.j, .int .i64 x.n, .slice a2 n2 p2], .int .i64 (-1), .bool true]) ∧ Below w.heap.size w w' := by
  obtain ⟨dv, hv1, hv2⟩ := under_value
  obtain ⟨c0, c1, c2, c3, c4, c5, c6, c7, c8, c9⟩ := h
  have hlt : bv < w.heap.size := World.block_lt_of_cell? _ _ c0
  have hlt2 : bs < w.heap.size := World.block_lt_of_cell? _ _ hc
  have e1 : decide ((N : Int) ≤ (k : Int)) = false := decide_eq_false (by omega)
  have e2 : decide (N ≤ k) = false := decide_eq_false (by omega)
  have j1 : (k : Int) < (N : Int) := by omega
  go_enter Try.func41, Try.ntmps41
  go_wp2
  (try simp only [Exit.inBlock, Exit.then])
  refine bodyPost_ret (results_cell_tmp2 rfl _ _ (w.heap.size) _ _ _ dv rfl (alloc_new _ _) hv1 (by cases dv <;> first | rfl | exact hv2) size_value) rfl ?_
  exact ⟨rfl, (Below.refl _ _).alloc (Nat.le_refl _) _⟩
set_option maxHeartbeats 1000000 in
theorem allc_out (N k : Nat) (hk : N ≤ k) (w : World) (bs : Nat) (a : Option Addr) (hc : w.cell? ⟨bs, 0, none⟩ = some (.slice a N N)) :
    Calls Try.prog 41 #[.int .i64 k, .pointer (some ⟨bs, 0, none⟩)] w fun e w' => e = .returned (.tuple #[.agg #[.int .i64 0, .int .i64 0, .int .i64 0, .int .i64 0, .slice none 0 0, .int .i64 0, .int .i64 0, .int .i64 0, .int .i64 0, .slice none 0 0], .int .i64 0, .bool false]) ∧ Below w.heap.size w w' := by
  obtain ⟨dv, hv1, hv2⟩ := under_value
  have hlt2 : bs < w.heap.size := World.block_lt_of_cell? _ _ hc
  have e1 : decide ((N : Int) ≤ (k : Int)) = true := decide_eq_true (by omega)
  have e2 : decide (N ≤ k) = true := decide_eq_true (by omega)
  go_enter Try.func41, Try.ntmps41
  go_wp2
  (try simp only [Exit.inBlock, Exit.then])
  refine bodyPost_ret (results_cell_tmp2 rfl _ _ (w.heap.size) _ _ _ dv rfl (alloc_new _ _) hv1 (by cases dv <;> first | rfl | exact hv2) size_value) rfl ?_
  exact ⟨rfl, (Below.refl _ _).alloc (Nat.le_refl _) _⟩

set_option maxRecDepth 20000 in
set_option maxHeartbeats 2000000 in
theorem variable_all (l : List Tm) (hu0 : ∀ u ∈ l, u.rightB = true) (hd0 : ∀ u ∈ l, u.deep ≤ 100000) (bs bv : Nat) (v b : Int) (pl : Bool) (w : World) (h0 : 0 ≤ v) (h1 : v ≤ 2147483647) (hb0 : 0 ≤ b) (hb1 : b ≤ 2000000)
    (hcs : w.cell? ⟨bs, 0, none⟩ = some (.slice (some ⟨bv, 0, none⟩) l.length l.length)) (hV0 : ∀ k (h : k < l.length), ∃ (a1 : Option Addr) (p1 : Nat) (a2 : Option Addr) (p2 : Nat), Val10 w bv (k * 10) l[k] (l[k]).bare (.slice a1 (l[k]).kids.length p1) (.slice a2 (l[k]).bare.kids.length p2) ∧ Lies w (l[k]).kids (.slice a1 (l[k]).kids.length p1) ∧ Lies w (l[k]).bare.kids (.slice a2 (l[k]).bare.kids.length p2)) :
    Calls Try.prog 51 #[.agg #[.func (.func 41) #[] #[.pointer (some ⟨bs, 0, none⟩)]], .int .i64 v, .int .i64 b, .bool pl] w (GivesN (gAll l v b pl) w) := by
  obtain ⟨du, hu1, hu2⟩ := under_term
  have HV0 := Lib.hid hV0
  have HCS := Lib.hid hcs
  clear hV0 hcs
  have hbW : Below w.heap.size w ((w.alloc (.cells #[.func (.func 41) #[] #[.pointer (some ⟨bs, 0, none⟩)]] 47)).alloc (.cells #[.int .i64 0, .int .i64 0, .int .i64 0, .int .i64 0, .slice none 0 0] 24)) := ((Below.refl _ _).alloc (Nat.le_refl _) _).alloc (by simp) _
  have hz : ((w.alloc (.cells #[.func (.func 41) #[] #[.pointer (some ⟨bs, 0, none⟩)]] 47)).alloc (.cells #[.int .i64 0, .int .i64 0, .int .i64 0, .int .i64 0, .slice none 0 0] 24)).heap[w.heap.size + 1]? = some zeroObj := heap_alloc2_new _ _ _
  by_cases hv : v < b
  · have e1 : decide (v < b) = true := by simpa using hv
    have HG := Lib.hid (show gAll l v b pl = some (varT v) by unfold gAll; rw [if_pos hv])
    clear hv hz
    go_enter Try.func51, Try.ntmps51
    go_wp2
    (try simp only [Exit.inBlock, Exit.then])
    refine bodyPost_ret (results_cell_tmp rfl _ _ (w.heap.size + 1) _ _ _ du rfl (heap_alloc2_new _ _ _) hu1 (by cases du <;> first | rfl | exact hu2) size_term) rfl ?_
    rw [HG.out]
    exact ⟨((Below.refl _ _).alloc (Nat.le_refl _) _).alloc (by simp) _, Or.inl ⟨varT v, .slice none 0 0, rfl, rfl, liesP_nil _ _⟩⟩
  have e1 : decide (v < b) = false := by simpa using hv
  obtain ⟨k, rfl⟩ : ∃ k : Nat, v = b + (k : Int) := ⟨(v - b).toNat, by omega⟩
  have hsub : IntKind.i64.wrap (b + (k : Int) - b) = (k : Int) := by rw [show b + (k : Int) - b = (k : Int) by omega]; exact IntWalk.i64_in _ (by omega)
  have hkk : (b + (k : Int) - b).toNat = k := by omega
  have hbi : I64 b := by unfold I64; omega
  have h0i : I64 0 := by unfold I64; omega
  by_cases he : k < l.length
  · obtain ⟨u, hue⟩ : ∃ u, l[k] = u := ⟨_, rfl⟩
    have hget : l[k]? = some u := by rw [List.getElem?_eq_getElem he, hue]
    have hu : u.rightB = true := by rw [← hue]; exact hu0 _ (List.getElem_mem he)
    have hd : u.deep ≤ 100000 := by rw [← hue]; exact hd0 _ (List.getElem_mem he)
    obtain ⟨a1, p1, a2, p2, hval, hl, hlb⟩ := HV0.out k he
    rw [hue] at hval hl hlb
    have HL := Lib.hid hl
    have HLB := Lib.hid hlb
    have HV := Lib.hid hval
    clear hval hl hlb hue
    cases pl with
    | false =>
      have HG := Lib.hid (show gAll l (b + (k : Int)) b false = u.each (liftF b 0) 0 by unfold gAll; rw [if_neg hv, hkk, hget]; rfl)
      have HX0 := liftB_fin (b := b) hb0 hu
      obtain ⟨X, hX⟩ : ∃ X, (u).liftB b 0 = X := ⟨_, rfl⟩
      rw [hX] at HX0
      have HX := Lib.hid hX
      have HFIN := Lib.hid HX0
      have hdX : (u).deep ≤ 100000 := hd
      clear hX HX0
      go_enter Try.func51, Try.ntmps51
      go_wp2_with fail
      refine (allc_in l.length k he _ bs bv u u.bare a1 a2 _ p1 _ p2 (cell_lat hbW HCS.out) (HV.out.keep hbW)).mono ?_
      rintro e w2 ⟨rfl, hb2⟩
      have hbw2 := hbW.trans (hb2.mono hbW.size)
      have hz2 := keep_block hb2 (block_lt hz) hz
      have hsN : w.heap.size + 1 < w2.heap.size := block_lt hz2
      have hb4 : Below w2.heap.size w2 ((w2.alloc (.cells #[.int .i64 u.k, .int .i64 u.i, .int .i64 u.j, .int .i64 u.n, .slice a1 u.kids.length p1, .int .i64 u.bare.k, .int .i64 u.bare.i, .int .i64 u.bare.j, .int .i64 u.bare.n, .slice a2 u.bare.kids.length p2] 44)).alloc (.cells #[.int .i64 u.k, .int .i64 u.i, .int .i64 u.j, .int .i64 u.n, .slice a1 u.kids.length p1] 24)) := ((Below.refl _ _).alloc (Nat.le_refl _) _).alloc (by simp) _
      have hqx : ((w2.alloc (.cells #[.int .i64 u.k, .int .i64 u.i, .int .i64 u.j, .int .i64 u.n, .slice a1 u.kids.length p1, .int .i64 u.bare.k, .int .i64 u.bare.i, .int .i64 u.bare.j, .int .i64 u.bare.n, .slice a2 u.bare.kids.length p2] 44)).alloc (.cells #[.int .i64 u.k, .int .i64 u.i, .int .i64 u.j, .int .i64 u.n, .slice a1 u.kids.length p1] 24)).heap[w2.heap.size + 1]? = some (.cells #[.int .i64 u.k, .int .i64 u.i, .int .i64 u.j, .int .i64 u.n, .slice a1 u.kids.length p1] 24) := heap_alloc2_new _ _ _
      have hs4 : ((w2.alloc (.cells #[.int .i64 u.k, .int .i64 u.i, .int .i64 u.j, .int .i64 u.n, .slice a1 u.kids.length p1, .int .i64 u.bare.k, .int .i64 u.bare.i, .int .i64 u.bare.j, .int .i64 u.bare.n, .slice a2 u.bare.kids.length p2] 44)).alloc (.cells #[.int .i64 u.k, .int .i64 u.i, .int .i64 u.j, .int .i64 u.n, .slice a1 u.kids.length p1] 24)).heap.size = w2.heap.size + 1 + 1 := by simp
      clear hb2
      go_wp2_with fail
      generalize ((w2.alloc (.cells #[.int .i64 u.k, .int .i64 u.i, .int .i64 u.j, .int .i64 u.n, .slice a1 u.kids.length p1, .int .i64 u.bare.k, .int .i64 u.bare.i, .int .i64 u.bare.j, .int .i64 u.bare.n, .slice a2 u.bare.kids.length p2] 44)).alloc (.cells #[.int .i64 u.k, .int .i64 u.i, .int .i64 u.j, .int .i64 u.n, .slice a1 u.kids.length p1] 24)) = w4 at hb4 hqx hs4 ⊢
      refine (lift_any u b 0 w4 _ ((HL.out.keep hbw2).keep hb4) hbi h0i hdX).mono ?_
      rw [HX.out]
      rintro e w5 ⟨s5, rfl, hl5, hb5⟩
      obtain ⟨a5, c5, rfl, -, -⟩ := hl5.out
      have hq5 := keep_block hb5 (block_lt hqx) hqx
      have hz5 := keep_block hb5 (by omega) (keep_block hb4 (by omega) hz2)
      obtain ⟨x0, x1, x2, x3, x4⟩ := five_cells hq5
      obtain ⟨y0, y1, y2, y3, y4⟩ := five_free hq5
      have hs5 : w2.heap.size + 1 < w5.heap.size := block_lt hq5
      have hbw5 := (hbw2.trans (hb4.mono hbw2.size)).trans (hb5.mono (by omega))
      have hl6 := liesP_fives hl5 (g := w2.heap.size + 1) (N := w2.heap.size + 1 + 1) (by omega) (by omega) (.int .i64 X.k) (.int .i64 X.i) (.int .i64 X.j) (.int .i64 X.n) (.slice a5 X.kids.length c5)
      have hq6 := five_set (v0 := .int .i64 X.k) (v1 := .int .i64 X.i) (v2 := .int .i64 X.j) (v3 := .int .i64 X.n) (v4 := .slice a5 X.kids.length c5) hq5
      have hz6 : (five w5 (w2.heap.size + 1) (.int .i64 X.k) (.int .i64 X.i) (.int .i64 X.j) (.int .i64 X.n) (.slice a5 X.kids.length c5)).heap[w.heap.size + 1]? = some zeroObj := by rw [five_other _ _ _ _ _ _ _ (by omega)]; exact hz5
      have hb6 := below_five hbw5 (g := w2.heap.size + 1) (by omega) (.int .i64 X.k) (.int .i64 X.i) (.int .i64 X.j) (.int .i64 X.n) (.slice a5 X.kids.length c5)
      unfold five at hl6 hz6 hb6
      clear hl5 hb5 hqx hb4 hz5 hz2 hbw2 hbw5 hq5
      go_upto_region 12 with fail
      generalize ((((w5.setCell ⟨w2.heap.size + 1, 0, none⟩ (.int .i64 X.k)).setCell ⟨w2.heap.size + 1, 1, none⟩ (.int .i64 X.i)).setCell ⟨w2.heap.size + 1, 2, none⟩ (.int .i64 X.j)).setCell ⟨w2.heap.size + 1, 3, none⟩ (.int .i64 X.n)).setCell ⟨w2.heap.size + 1, 4, none⟩ (.slice a5 X.kids.length c5) = w6 at hl6 hq6 hz6 hb6 ⊢
      clear x0 x1 x2 x3 x4 y0 y1 y2 y3 y4
      obtain ⟨x0, x1, x2, x3, x4⟩ := five_cells hq6
      obtain ⟨z0, z1, z2, z3, z4⟩ := five_cells hz6
      obtain ⟨f0, f1, f2, f3, f4⟩ := five_free hz6
      have HL6 := Lib.hid hl6
      have HB6 := Lib.hid hb6
      clear hl6 hq6 hb6
      go_wp2_with fail
      go_region
      all_goals
        go_wp2
        (try simp only [Exit.inBlock, Exit.then])
        refine bodyPost_ret (results_cell_tmp rfl _ _ (w.heap.size + 1) _ _ _ du rfl (five_set hz6) hu1 (by cases du <;> first | rfl | exact hu2) size_term) rfl ?_
        rcases HFIN.out with ⟨hk, hr⟩ | ⟨hk, hr⟩
        · exact ⟨(below_five HB6.out (by omega) _ _ _ _ _).drew, Or.inr ⟨X, a5, _, c5, HG.out.trans hr, (by rw [hk] <;> rfl)⟩⟩
        · exact ⟨(below_five HB6.out (by omega) _ _ _ _ _).drew, Or.inl ⟨X, _, HG.out.trans hr, (by rw [hk] <;> rfl), (liesP_fives HL6.out (by omega) (by omega) _ _ _ _ _).later (Below.refl _ _).drew⟩⟩
    | true =>
      have HG := Lib.hid (show gAll l (b + (k : Int)) b true = u.bare.each (liftF b 0) 0 by unfold gAll; rw [if_neg hv, hkk, hget]; rfl)
      have HX0 := liftB_fin (b := b) hb0 (plain_right (bare_plain u hu))
      obtain ⟨X, hX⟩ : ∃ X, (u.bare).liftB b 0 = X := ⟨_, rfl⟩
      rw [hX] at HX0
      have HX := Lib.hid hX
      have HFIN := Lib.hid HX0
      have hdX : (u.bare).deep ≤ 100000 := Nat.le_trans (bare_deep u) hd
      clear hX HX0
      go_enter Try.func51, Try.ntmps51
      go_wp2_with fail
      refine (allc_in l.length k he _ bs bv u u.bare a1 a2 _ p1 _ p2 (cell_lat hbW HCS.out) (HV.out.keep hbW)).mono ?_
      rintro e w2 ⟨rfl, hb2⟩
      have hbw2 := hbW.trans (hb2.mono hbW.size)
      have hz2 := keep_block hb2 (block_lt hz) hz
      have hsN : w.heap.size + 1 < w2.heap.size := block_lt hz2
      have hb4 : Below w2.heap.size w2 ((w2.alloc (.cells #[.int .i64 u.k, .int .i64 u.i, .int .i64 u.j, .int .i64 u.n, .slice a1 u.kids.length p1, .int .i64 u.bare.k, .int .i64 u.bare.i, .int .i64 u.bare.j, .int .i64 u.bare.n, .slice a2 u.bare.kids.length p2] 44)).alloc (.cells #[.int .i64 u.bare.k, .int .i64 u.bare.i, .int .i64 u.bare.j, .int .i64 u.bare.n, .slice a2 u.bare.kids.length p2] 24)) := ((Below.refl _ _).alloc (Nat.le_refl _) _).alloc (by simp) _
      have hqx : ((w2.alloc (.cells #[.int .i64 u.k, .int .i64 u.i, .int .i64 u.j, .int .i64 u.n, .slice a1 u.kids.length p1, .int .i64 u.bare.k, .int .i64 u.bare.i, .int .i64 u.bare.j, .int .i64 u.bare.n, .slice a2 u.bare.kids.length p2] 44)).alloc (.cells #[.int .i64 u.bare.k, .int .i64 u.bare.i, .int .i64 u.bare.j, .int .i64 u.bare.n, .slice a2 u.bare.kids.length p2] 24)).heap[w2.heap.size + 1]? = some (.cells #[.int .i64 u.bare.k, .int .i64 u.bare.i, .int .i64 u.bare.j, .int .i64 u.bare.n, .slice a2 u.bare.kids.length p2] 24) := heap_alloc2_new _ _ _
      have hs4 : ((w2.alloc (.cells #[.int .i64 u.k, .int .i64 u.i, .int .i64 u.j, .int .i64 u.n, .slice a1 u.kids.length p1, .int .i64 u.bare.k, .int .i64 u.bare.i, .int .i64 u.bare.j, .int .i64 u.bare.n, .slice a2 u.bare.kids.length p2] 44)).alloc (.cells #[.int .i64 u.bare.k, .int .i64 u.bare.i, .int .i64 u.bare.j, .int .i64 u.bare.n, .slice a2 u.bare.kids.length p2] 24)).heap.size = w2.heap.size + 1 + 1 := by simp
      clear hb2
      go_wp2_with fail
      generalize ((w2.alloc (.cells #[.int .i64 u.k, .int .i64 u.i, .int .i64 u.j, .int .i64 u.n, .slice a1 u.kids.length p1, .int .i64 u.bare.k, .int .i64 u.bare.i, .int .i64 u.bare.j, .int .i64 u.bare.n, .slice a2 u.bare.kids.length p2] 44)).alloc (.cells #[.int .i64 u.bare.k, .int .i64 u.bare.i, .int .i64 u.bare.j, .int .i64 u.bare.n, .slice a2 u.bare.kids.length p2] 24)) = w4 at hb4 hqx hs4 ⊢
      refine (lift_any u.bare b 0 w4 _ ((HLB.out.keep hbw2).keep hb4) hbi h0i hdX).mono ?_
      rw [HX.out]
      rintro e w5 ⟨s5, rfl, hl5, hb5⟩
      obtain ⟨a5, c5, rfl, -, -⟩ := hl5.out
      have hq5 := keep_block hb5 (block_lt hqx) hqx
      have hz5 := keep_block hb5 (by omega) (keep_block hb4 (by omega) hz2)
      obtain ⟨x0, x1, x2, x3, x4⟩ := five_cells hq5
      obtain ⟨y0, y1, y2, y3, y4⟩ := five_free hq5
      have hs5 : w2.heap.size + 1 < w5.heap.size := block_lt hq5
      have hbw5 := (hbw2.trans (hb4.mono hbw2.size)).trans (hb5.mono (by omega))
      have hl6 := liesP_fives hl5 (g := w2.heap.size + 1) (N := w2.heap.size + 1 + 1) (by omega) (by omega) (.int .i64 X.k) (.int .i64 X.i) (.int .i64 X.j) (.int .i64 X.n) (.slice a5 X.kids.length c5)
      have hq6 := five_set (v0 := .int .i64 X.k) (v1 := .int .i64 X.i) (v2 := .int .i64 X.j) (v3 := .int .i64 X.n) (v4 := .slice a5 X.kids.length c5) hq5
      have hz6 : (five w5 (w2.heap.size + 1) (.int .i64 X.k) (.int .i64 X.i) (.int .i64 X.j) (.int .i64 X.n) (.slice a5 X.kids.length c5)).heap[w.heap.size + 1]? = some zeroObj := by rw [five_other _ _ _ _ _ _ _ (by omega)]; exact hz5
      have hb6 := below_five hbw5 (g := w2.heap.size + 1) (by omega) (.int .i64 X.k) (.int .i64 X.i) (.int .i64 X.j) (.int .i64 X.n) (.slice a5 X.kids.length c5)
      unfold five at hl6 hz6 hb6
      clear hl5 hb5 hqx hb4 hz5 hz2 hbw2 hbw5 hq5
      go_upto_region 12 with fail
      generalize ((((w5.setCell ⟨w2.heap.size + 1, 0, none⟩ (.int .i64 X.k)).setCell ⟨w2.heap.size + 1, 1, none⟩ (.int .i64 X.i)).setCell ⟨w2.heap.size + 1, 2, none⟩ (.int .i64 X.j)).setCell ⟨w2.heap.size + 1, 3, none⟩ (.int .i64 X.n)).setCell ⟨w2.heap.size + 1, 4, none⟩ (.slice a5 X.kids.length c5) = w6 at hl6 hq6 hz6 hb6 ⊢
      clear x0 x1 x2 x3 x4 y0 y1 y2 y3 y4
      obtain ⟨x0, x1, x2, x3, x4⟩ := five_cells hq6
      obtain ⟨z0, z1, z2, z3, z4⟩ := five_cells hz6
      obtain ⟨f0, f1, f2, f3, f4⟩ := five_free hz6
      have HL6 := Lib.hid hl6
      have HB6 := Lib.hid hb6
      clear hl6 hq6 hb6
      go_wp2_with fail
      go_region
      all_goals
        go_wp2
        (try simp only [Exit.inBlock, Exit.then])
        refine bodyPost_ret (results_cell_tmp rfl _ _ (w.heap.size + 1) _ _ _ du rfl (five_set hz6) hu1 (by cases du <;> first | rfl | exact hu2) size_term) rfl ?_
        rcases HFIN.out with ⟨hk, hr⟩ | ⟨hk, hr⟩
        · exact ⟨(below_five HB6.out (by omega) _ _ _ _ _).drew, Or.inr ⟨X, a5, _, c5, HG.out.trans hr, (by rw [hk] <;> rfl)⟩⟩
        · exact ⟨(below_five HB6.out (by omega) _ _ _ _ _).drew, Or.inl ⟨X, _, HG.out.trans hr, (by rw [hk] <;> rfl), (liesP_fives HL6.out (by omega) (by omega) _ _ _ _ _).later (Below.refl _ _).drew⟩⟩
  · have HG := Lib.hid (show gAll l (b + (k : Int)) b pl = none by unfold gAll; rw [if_neg hv, hkk, List.getElem?_eq_none (by omega)]; rfl)
    go_enter Try.func51, Try.ntmps51
    go_wp2_with fail
    refine (allc_out l.length k (by omega) _ bs _ (cell_lat hbW HCS.out)).mono ?_
    rintro e w2 ⟨rfl, hb2⟩
    have hbw2 := hbW.trans (hb2.mono hbW.size)
    have hz2 := keep_block hb2 (block_lt hz) hz
    have hsN : w.heap.size + 1 < w2.heap.size := block_lt hz2
    obtain ⟨z0, z1, z2, z3, z4⟩ := five_cells hz2
    obtain ⟨f0, f1, f2, f3, f4⟩ := five_free hz2
    have HZ2 := Lib.hid hz2
    have HB2 := Lib.hid hbw2
    clear hb2 hz hbW hbw2 hz2
    go_wp2
    (try simp only [Exit.inBlock, Exit.then])
    refine bodyPost_ret (results_cell_tmp rfl _ _ (w.heap.size + 1) _ _ _ du rfl (five_alloc HZ2.out _ _ _ _ _ _) hu1 (by cases du <;> first | rfl | exact hu2) size_term) rfl ?_
    rw [HG.out]
    exact ⟨below_five_alloc HB2.out HB2.out.size (by omega) _ _ _ _ _ _, Or.inr ⟨.zero, none, 0, 0, rfl, rfl⟩⟩
end Go.Proofs.Ytmhmengbhdaodaa

/-! The row of values that subst.All fills; what its function then reads. -/
namespace Go.Proofs.Ytmhmengbhdaodaa
open Go.RowKit

/-- Ten cells of an element are written, one behind the other. -/
abbrev put10 (w : World) (b o : Nat) (u x : Tm) (s1 s2 : Value) : World := (((((((((w.setCell ⟨b, o, none⟩ (.int .i64 u.k)).setCell ⟨b, o + 1, none⟩ (.int .i64 u.i)).setCell ⟨b, o + 2, none⟩ (.int .i64 u.j)).setCell ⟨b, o + 3, none⟩ (.int .i64 u.n)).setCell ⟨b, o + 4, none⟩ (s1)).setCell ⟨b, o + 5, none⟩ (.int .i64 x.k)).setCell ⟨b, o + 6, none⟩ (.int .i64 x.i)).setCell ⟨b, o + 7, none⟩ (.int .i64 x.j)).setCell ⟨b, o + 8, none⟩ (.int .i64 x.n)).setCell ⟨b, o + 9, none⟩ (s2)
theorem put10_other (w : World) (b o : Nat) (u x : Tm) (s1 s2 : Value) {g : Nat} (h : g ≠ b) : (put10 w b o u x s1 s2).heap[g]? = w.heap[g]? := by
  unfold put10; repeat rw [Below.heap_setCell _ _ _ _ (by exact h)]
theorem put10_size (w : World) (b o : Nat) (u x : Tm) (s1 s2 : Value) : (put10 w b o u x s1 s2).heap.size = w.heap.size := by simp [put10, World.setCell]
theorem put10_rest (w : World) (b o : Nat) (u x : Tm) (s1 s2 : Value) : (put10 w b o u x s1 s2).os = w.os ∧ (put10 w b o u x s1 s2).tape = w.tape ∧ (put10 w b o u x s1 s2).output = w.output := by simp [put10, World.setCell]
theorem put10_block {w : World} {b : Nat} {cs : Array Value} {T : TypeId} (o : Nat) (u x : Tm) (s1 s2 : Value) (h : w.heap[b]? = some (.cells cs T (0, 0))) :
    (put10 w b o u x s1 s2).heap[b]? = some (.cells ((((((((((cs.setIfInBounds (o) (.int .i64 u.k)).setIfInBounds (o + 1) (.int .i64 u.i)).setIfInBounds (o + 2) (.int .i64 u.j)).setIfInBounds (o + 3) (.int .i64 u.n)).setIfInBounds (o + 4) (s1)).setIfInBounds (o + 5) (.int .i64 x.k)).setIfInBounds (o + 6) (.int .i64 x.i)).setIfInBounds (o + 7) (.int .i64 x.j)).setIfInBounds (o + 8) (.int .i64 x.n)).setIfInBounds (o + 9) (s2)) T (0, 0)) := (heap_setCell_same _ _ _ _ _ _ (heap_setCell_same _ _ _ _ _ _ (heap_setCell_same _ _ _ _ _ _ (heap_setCell_same _ _ _ _ _ _ (heap_setCell_same _ _ _ _ _ _ (heap_setCell_same _ _ _ _ _ _ (heap_setCell_same _ _ _ _ _ _ (heap_setCell_same _ _ _ _ _ _ (heap_setCell_same _ _ _ _ _ _ (heap_setCell_same _ _ _ _ _ _ h))))))))))
theorem put10_below {B : Nat} {w w1 : World} (h : Below B w w1) {b : Nat} (hb : B ≤ b) (o : Nat) (u x : Tm) (s1 s2 : Value) : Below B w (put10 w1 b o u x s1 s2) :=
  h.trans ⟨(put10_rest _ _ _ _ _ _ _).1, (put10_rest _ _ _ _ _ _ _).2.1, (put10_rest _ _ _ _ _ _ _).2.2, by rw [put10_size]; exact Nat.le_refl _, fun k hk => put10_other _ _ _ _ _ _ _ (by omega)⟩
theorem put10_out (w : World) (b o : Nat) (u x : Tm) (s1 s2 : Value) {q : Nat} (h : q < o ∨ o + 10 ≤ q) : (put10 w b o u x s1 s2).cell? ⟨b, q, none⟩ = w.cell? ⟨b, q, none⟩ := by
  unfold put10
  repeat rw [World.cell?_setCell_other _ _ _ _ (by intro e; have := congrArg Addr.off e; simp only at this; omega)]
theorem put10_in {w : World} {b o : Nat} {cs : Array Value} {T : TypeId} (u x : Tm) (s1 s2 : Value) (h : w.heap[b]? = some (.cells cs T (0, 0))) (hs : o + 10 ≤ cs.size) : Val10 (put10 w b o u x s1 s2) b o u x s1 s2 := by
  have hb := put10_block o u x s1 s2 h
  have c : ∀ q, (put10 w b o u x s1 s2).cell? ⟨b, q, none⟩ = ((((((((((cs.setIfInBounds (o) (.int .i64 u.k)).setIfInBounds (o + 1) (.int .i64 u.i)).setIfInBounds (o + 2) (.int .i64 u.j)).setIfInBounds (o + 3) (.int .i64 u.n)).setIfInBounds (o + 4) (s1)).setIfInBounds (o + 5) (.int .i64 x.k)).setIfInBounds (o + 6) (.int .i64 x.i)).setIfInBounds (o + 7) (.int .i64 x.j)).setIfInBounds (o + 8) (.int .i64 x.n)).setIfInBounds (o + 9) (s2))[q]? := fun q => cell_of_row _ _ _ _ _ _ hb
  refine ⟨?_, ?_, ?_, ?_, ?_, ?_, ?_, ?_, ?_, ?_⟩ <;> (rw [c]; simp [Array.getElem?_setIfInBounds] <;> omega)

/-- The row: N values, the first q of them written. -/
structure Vals (w : World) (bv N q : Nat) (l : List Tm) : Prop where
  open' : ∃ cs, w.heap[bv]? = some (.cells cs 44 (0, 0)) ∧ N * 10 ≤ cs.size
  done : ∀ k (h : k < l.length), k < q → ∃ (a1 : Option Addr) (p1 : Nat) (a2 : Option Addr) (p2 : Nat), Val10 w bv (k * 10) l[k] (l[k]).bare (.slice a1 (l[k]).kids.length p1) (.slice a2 (l[k]).bare.kids.length p2) ∧
    LiesQ w (· ≠ bv) (l[k]).kids (.slice a1 (l[k]).kids.length p1) ∧ LiesQ w (· ≠ bv) (l[k]).bare.kids (.slice a2 (l[k]).bare.kids.length p2)
theorem Vals.lt {w : World} {bv N q : Nat} {l : List Tm} (h : Vals w bv N q l) : bv < w.heap.size := by obtain ⟨cs, h, -⟩ := h.open'; exact block_lt h
theorem Vals.later {w w' : World} {bv N q : Nat} {l : List Tm} (h : Vals w bv N q l) (hb : Below w.heap.size w w') : Vals w' bv N q l := by
  refine ⟨?_, fun k hk hq => ?_⟩
  · obtain ⟨cs, h1, h2⟩ := h.open'
    exact ⟨cs, keep_block hb (block_lt h1) h1, h2⟩
  · obtain ⟨a1, p1, a2, p2, h1, h2, h3⟩ := h.done k hk hq
    exact ⟨a1, p1, a2, p2, h1.keep hb, h2.later hb, h3.later hb⟩
theorem Vals.fill {w : World} {bv N q : Nat} {l : List Tm} (h : Vals w bv N q l) (hq : q < N) (hl : q < l.length) {a1 : Option Addr} {p1 : Nat} {a2 : Option Addr} {p2 : Nat} (h1 : LiesQ w (· ≠ bv) (l[q]).kids (.slice a1 (l[q]).kids.length p1)) (h2 : LiesQ w (· ≠ bv) (l[q]).bare.kids (.slice a2 (l[q]).bare.kids.length p2)) :
    Vals (put10 w bv (q * 10) l[q] (l[q]).bare (.slice a1 (l[q]).kids.length p1) (.slice a2 (l[q]).bare.kids.length p2)) bv N (q + 1) l := by
  obtain ⟨cs, hcs, hsz⟩ := h.open'
  have keepL : ∀ {m : List Tm} {s : Value}, LiesQ w (· ≠ bv) m s → LiesQ (put10 w bv (q * 10) l[q] (l[q]).bare (.slice a1 (l[q]).kids.length p1) (.slice a2 (l[q]).bare.kids.length p2)) (· ≠ bv) m s := fun hm => hm.keep (fun b hp _ => put10_other _ _ _ _ _ _ _ hp) (fun _ hp _ => hp)
  refine ⟨⟨_, put10_block _ _ _ _ _ hcs, by simpa using hsz⟩, fun k hk hkq => ?_⟩
  by_cases e : k = q
  · subst e
    exact ⟨a1, p1, a2, p2, put10_in _ _ _ _ hcs (by omega), keepL h1, keepL h2⟩
  · obtain ⟨b1, c1, b2, c2, g1, g2, g3⟩ := h.done k hk (by omega)
    refine ⟨b1, c1, b2, c2, ?_, keepL g2, keepL g3⟩
    exact ⟨(put10_out _ _ _ _ _ _ _ (by omega)).trans g1.c0, (put10_out _ _ _ _ _ _ _ (by omega)).trans g1.c1, (put10_out _ _ _ _ _ _ _ (by omega)).trans g1.c2, (put10_out _ _ _ _ _ _ _ (by omega)).trans g1.c3, (put10_out _ _ _ _ _ _ _ (by omega)).trans g1.c4, (put10_out _ _ _ _ _ _ _ (by omega)).trans g1.c5, (put10_out _ _ _ _ _ _ _ (by omega)).trans g1.c6, (put10_out _ _ _ _ _ _ _ (by omega)).trans g1.c7, (put10_out _ _ _ _ _ _ _ (by omega)).trans g1.c8, (put10_out _ _ _ _ _ _ _ (by omega)).trans g1.c9⟩
theorem vals_open {w : World} {bv N q : Nat} {l : List Tm} (h : Vals w bv N q l) (o : Nat) : w.frozen? ⟨bv, o, none⟩ = false := by obtain ⟨cs, hcs, -⟩ := h.open'; exact open_unfrozen hcs o
theorem vals_cell {w : World} {bv N q : Nat} {l : List Tm} (h : Vals w bv N q l) (o : Nat) (ho : o < N * 10) : ∃ v, w.cell? ⟨bv, o, none⟩ = some v := by
  obtain ⟨cs, hcs, hs⟩ := h.open'
  rw [cell_of_row _ _ _ _ _ _ hcs]
  exact ⟨_, Array.getElem?_eq_getElem (by omega)⟩

/-- What All's own function reads. -/
def AllI (l : List Tm) (bs bv : Nat) (w : World) : Prop := w.cell? ⟨bs, 0, none⟩ = some (.slice (some ⟨bv, 0, none⟩) l.length l.length) ∧ ∀ k (h : k < l.length), ∃ (a1 : Option Addr) (p1 : Nat) (a2 : Option Addr) (p2 : Nat), Val10 w bv (k * 10) l[k] (l[k]).bare (.slice a1 (l[k]).kids.length p1) (.slice a2 (l[k]).bare.kids.length p2) ∧ Lies w (l[k]).kids (.slice a1 (l[k]).kids.length p1) ∧ Lies w (l[k]).bare.kids (.slice a2 (l[k]).bare.kids.length p2)
theorem allI_later (l : List Tm) (bs bv : Nat) : ∀ w w' : World, AllI l bs bv w → Below w.heap.size w w' → AllI l bs bv w' := by
  rintro w w' ⟨h, h1⟩ hb
  refine ⟨cell_lat hb h, fun k hk => ?_⟩
  obtain ⟨a1, p1, a2, p2, g1, g2, g3⟩ := h1 k hk
  exact ⟨a1, p1, a2, p2, g1.keep hb, g2.keep hb, g3.keep hb⟩
theorem vals_all {w : World} {bs bv : Nat} {l : List Tm} (h : Vals w bv l.length l.length l) (hc : w.cell? ⟨bs, 0, none⟩ = some (.slice (some ⟨bv, 0, none⟩) l.length l.length)) : AllI l bs bv w :=
  ⟨hc, fun k hk => by obtain ⟨a1, p1, a2, p2, h1, h2, h3⟩ := h.done k hk hk; exact ⟨a1, p1, a2, p2, h1, h2.lies, h3.lies⟩⟩
theorem gAll_fine {l : List Tm} (hu : ∀ u ∈ l, u.rightB = true) : ∀ v b pl x, 0 ≤ v → v ≤ 2147483647 → 0 ≤ b → gAll l v b pl = some x → x.fine := by
  intro v b pl x h0 h1 hb hx
  unfold gAll at hx
  split at hx
  · cases hx; exact right_fine (var_right h0 h1).2.2
  · obtain ⟨u, h2, h3⟩ := Option.bind_eq_some_iff.1 hx
    have hm : u ∈ l := List.mem_of_getElem? h2
    exact right_fine (right_each _ (liftF_range b 0 hb) _ 0 x (bareIf_right (hu u hm) pl) h3)
theorem all_in {l : List Tm} (hu : ∀ u ∈ l, u.rightB = true) (hd : ∀ u ∈ l, u.deep ≤ 100000) (bs bv : Nat) (t : Tm) (pl : Bool) (w : World) (s : Value) (hl : Lies w t.kids s) (hr : t.rightB = true) (hdt : t.deep ≤ 100000) (hI : AllI l bs bv w) :
    Calls Try.prog 39 #[.agg #[.func (.func 41) #[] #[.pointer (some ⟨bs, 0, none⟩)]], tv t s, .int .i64 0, .bool pl] w (GivesY (t.putG (gAll l) 0 pl) w) :=
  (in_any (gAll l) 41 bs (AllI l bs bv) (allI_later l bs bv) (fun v b pl w hI h0 h1 hb0 hb1 => variable_all l hu hd bs bv v b pl w h0 h1 hb0 hb1 hI.1 hI.2) (gAll_fine hu) t 0 pl w s hl hr (Int.le_refl _) (by omega) hI).mono fun e w' h => h.ans
theorem info_value : (Try.prog.info? 44).map (fun i => (i.zero, i.size, i.bytes)) = some (some (.agg #[.int .i64 0, .int .i64 0, .int .i64 0, .int .i64 0, .slice none 0 0, .int .i64 0, .int .i64 0, .int .i64 0, .int .i64 0, .slice none 0 0]), 10, 112) := by kernel_rfl
end Go.Proofs.Ytmhmengbhdaodaa

/-! The page's own all. -/
namespace Go.Proofs.Ytmhmengbhdaodaa
open Go.RowKit

theorem all_and {v w' : World} {b0 b2 o2 : Nat} {t x : Tm} {st sx : Value} (h : Kept v w') (ht : Five v b0 t st) (hx : Node v b2 o2 x sx) : Kept v w' ∧ w'.cell? ⟨b0, 0, none⟩ = some (.int .i64 t.k) ∧ w'.cell? ⟨b0, 1, none⟩ = some (.int .i64 t.i) ∧ w'.cell? ⟨b0, 2, none⟩ = some (.int .i64 t.j) ∧ w'.cell? ⟨b0, 3, none⟩ = some (.int .i64 t.n) ∧ w'.cell? ⟨b0, 4, none⟩ = some (st) ∧ w'.cell? ⟨b2, o2, none⟩ = some (.int .i64 x.k) ∧ w'.cell? ⟨b2, o2 + 1, none⟩ = some (.int .i64 x.i) ∧ w'.cell? ⟨b2, o2 + 2, none⟩ = some (.int .i64 x.j) ∧ w'.cell? ⟨b2, o2 + 3, none⟩ = some (.int .i64 x.n) ∧ w'.cell? ⟨b2, o2 + 4, none⟩ = some (sx) := by
  obtain ⟨t0, t1, t2, t3, t4⟩ := ht.keep h
  obtain ⟨x0, x1, x2, x3, x4⟩ := hx.below h hx.lt
  exact ⟨h, t0, t1, t2, t3, t4, x0, x1, x2, x3, x4⟩

set_option maxRecDepth 20000 in
set_option maxHeartbeats 8000000 in
theorem refall_any (l : List Tm) (hur : ∀ u ∈ l, u.rightB = true) (hud : ∀ u ∈ l, u.deep ≤ 100000) (t : Tm) : ∀ (b : Int) (pl : Bool) (w : World) (s ls : Value), Lies w t.kids s → Lies w l ls → t.rightB = true → 0 ≤ b → b + 2 * t.deep ≤ 1000000 → t.freeN ≤ (l.length : Int) + b →
    Calls Try.prog 43 #[tv t s, ls, .int .i64 b, .bool pl] w (GivesY (t.putG (gAll l) b (pl || decide (12 < t.k))) w) := by
  induction t using Tm.ind with
  | h t ih =>
    intro b pl w s ls hl hlu hr hb hd hfr
    obtain ⟨a, cap, S, rfl, hc, hm, hf, hn, hkk⟩ := hl.out
    obtain ⟨au, capu, SU, rfl, -, -, -, hnu, hku⟩ := hlu.out
    have hlen := right_len hr
    unfold maxLen at hm
    obtain ⟨du, hu1, hu2⟩ := under_term
    have hde := t.deep_eq
    have HUR := Lib.hid hur
    have HBP := Lib.hid (Below.refl w.heap.size w)
    have HLU := Lib.hid hlu
    clear hlu
    unfold tv
    by_cases hkv : t.k = 2 ∧ b ≤ t.i
    · obtain ⟨hk2, hbi⟩ := hkv
      have e2 : (t.k == 2) = true := by simpa using hk2
      have e3 : decide (b ≤ t.i) = true := decide_eq_true hbi
      have hv := t.right_var hr hk2
      have hfN : t.freeN = t.i + 1 := by rw [t.freeN_eq, if_pos hk2]
      have hflag : (pl || decide (12 < t.k)) = pl := by rw [decide_eq_false (by omega), Bool.or_false]
      rw [hflag, t.putG_var _ _ _ hk2]
      obtain ⟨k, hik⟩ : ∃ k : Nat, t.i = b + (k : Int) := ⟨(t.i - b).toNat, by omega⟩
      have hkl : k < l.length := by omega
      have hsub : IntKind.i64.wrap (t.i - b) = (k : Int) := by rw [show t.i - b = (k : Int) by omega]; exact IntWalk.i64_in _ (by omega)
      have hj1 : (k : Int) < (l.length : Int) := by omega
      obtain ⟨u, hue⟩ : ∃ u, l[k] = u := ⟨_, rfl⟩
      have hg : gAll l t.i b pl = (if pl = true then u.bare else u).each (liftF b 0) 0 := by unfold gAll; rw [if_neg (by omega), show (t.i - b).toNat = k by omega, List.getElem?_eq_getElem hkl, hue]; rfl
      obtain ⟨R, hRR⟩ : ∃ R, (if pl = true then u.bare else u).each (liftF b 0) 0 = R := ⟨_, rfl⟩
      have CR : Hid (∀ w' s', Lies w' u.kids s' → Calls Try.prog 47 #[tv u s', .int .i64 b, .bool pl] w' (GivesY R w')) := fun w' s' h => by rw [← hRR]; exact refraised_any u b pl w' s' h (by rw [← hue]; exact hur _ (List.getElem_mem hkl)) (by rw [← hue]; exact hud _ (List.getElem_mem hkl)) hb (by omega)
      rw [hg, hRR]
      obtain ⟨bu, ou, rfl, hxu⟩ := hnu k hkl
      have hqu := hku k hkl
      rw [hue] at hxu hqu
      obtain ⟨ak, capk, SK, hSK, -⟩ := hqu.out
      rw [hSK] at hxu hqu
      have hB := below_two w (.cells #[.int .i64 t.k, .int .i64 t.i, .int .i64 t.j, .int .i64 t.n, .slice a t.kids.length cap] 24) (.cells #[.int .i64 0, .int .i64 0, .int .i64 0, .int .i64 0, .slice none 0 0] 24)
      obtain ⟨q0, q1⟩ := heap_two w (.cells #[.int .i64 t.k, .int .i64 t.i, .int .i64 t.j, .int .i64 t.n, .slice a t.kids.length cap] 24) (.cells #[.int .i64 0, .int .i64 0, .int .i64 0, .int .i64 0, .slice none 0 0] 24)
      have hs2 : w.heap.size + 1 < ((w.alloc (.cells #[.int .i64 t.k, .int .i64 t.i, .int .i64 t.j, .int .i64 t.n, .slice a t.kids.length cap] 24)).alloc (.cells #[.int .i64 0, .int .i64 0, .int .i64 0, .int .i64 0, .slice none 0 0] 24)).heap.size := by simp
      have HQU := Lib.hid (hqu.keep hB)
      have hy := hxu.below hB hxu.lt
      clear hg hRR hik hfN hfr hflag hk2 ih hn hkk hf hl hnu hku hue hqu hxu hSK hbi hr hur hud hde hkl HLU
      go_enter Try.func43, Try.ntmps43
      go_upto_region 1 with fail
      generalize (w.alloc (.cells #[.int .i64 t.k, .int .i64 t.i, .int .i64 t.j, .int .i64 t.n, .slice a t.kids.length cap] 24)).alloc (.cells #[.int .i64 0, .int .i64 0, .int .i64 0, .int .i64 0, .slice none 0 0] 24) = w2 at hB q0 q1 HQU hs2 hy ⊢
      obtain ⟨d0, d1, d2, d3, d4⟩ := five_cells q0
      obtain ⟨y0, y1, y2, y3, y4⟩ := hy
      have HQ1 := Lib.hid q1
      clear q0 q1
      go_wp2_with fail
      refine (CR.out _ _ HQU.out).mono ?_
      rintro e w3 ⟨x, xa, xn, xc, ok, rfl, hb3, hans⟩
      have HANS := Lib.hid hans
      have q1' := (hb3.block _ hs2).trans HQ1.out
      obtain ⟨z0, z1, z2, z3, z4⟩ := five_cells q1'
      obtain ⟨f0, f1, f2, f3, f4⟩ := five_free q1'
      have hs3 : w.heap.size + 1 < w3.heap.size := block_lt q1'
      have HB3 := Lib.hid (hB.trans (hb3.mono hB.size))
      clear hans hb3 d0 d1 d2 d3 d4 y0 y1 y2 y3 y4
      go_wp2
      (try simp only [Exit.inBlock, Exit.then])
      refine bodyPost_ret (results_cell_tmp rfl _ _ (w.heap.size + 1) _ _ _ du rfl (five_set q1') hu1 (by cases du <;> first | rfl | exact hu2) size_term) rfl ?_
      refine ⟨x, xa, xn, xc, ok, rfl, below_five HB3.out (by omega) _ _ _ _ _, ?_⟩
      rcases HANS.out with ⟨rfl, h1, h2, h3⟩ | ⟨rfl, h1⟩
      · exact Or.inl ⟨rfl, h1, h2, liesP_fives h3 (by omega) (by have := hB.size; omega) _ _ _ _ _⟩
      · exact Or.inr ⟨rfl, h1⟩
    by_cases hk2 : t.k = 2
    · have e2 : (t.k == 2) = true := by simpa using hk2
      have e3 : decide (b ≤ t.i) = false := decide_eq_false (fun h => hkv ⟨hk2, h⟩)
      have HVE := Lib.hid (right_var_eq hr hk2)
      have e4 : decide ((0 : Int) < (t.kids.length : Int)) = false := by
        have := HVE.out
        rw [this]; rfl
      have e5 : decide (0 < t.kids.length) = false := by
        have := HVE.out
        rw [this]; rfl
      have hflag : (pl || decide (12 < t.k)) = pl := by rw [decide_eq_false (by omega), Bool.or_false]
      have hg : gAll l t.i b pl = some (varT t.i) := by unfold gAll; rw [if_pos (by by_cases h : t.i < b; exact h; exact absurd ⟨hk2, by omega⟩ hkv)]
      rw [hflag, t.putG_var _ _ _ hk2, hg]
      clear hflag hg hkv hk2 ih hn hkk hf hl hnu hku hr hur hud hde hfr HLU
      go_enter Try.func43, Try.ntmps43
      have hd0 := desk_start w t t (.slice a t.kids.length cap) (.slice none 0 0)
      go_wp2_with fail
      go_loopw [11, 12] (fun v i wr => v = .slice none 0 0 ∧ i = .int .i64 0 ∧ Desk w t t (.slice a t.kids.length cap) (.slice none 0 0) wr) (fun _ i _ => t.kids.length - (intOf i).toNat)
      case atStart => exact ⟨rfl, rfl, hd0⟩
      case round =>
        clear hd0
        obtain ⟨rfl, rfl, hdk⟩ := hrel
        obtain ⟨q0, q1, q2⟩ := desk_blocks hdk
        have hsz := desk_size hdk
        obtain ⟨d0, d1, d2, d3, d4⟩ := five_cells q0
        have hd2 := desk_set (v' := .slice none 0 0) hdk
        obtain ⟨-, q1', -⟩ := desk_blocks hd2
        obtain ⟨y0, y1, y2, y3, y4⟩ := five_cells q2
        obtain ⟨f0, f1, f2, f3, f4⟩ := five_free q2
        obtain ⟨z0, z1, z2, z3, z4⟩ := five_cells q1
        obtain ⟨g0, g1, g2, g3, g4⟩ := five_free q1
        have q3 : (wr.setCell ⟨w.heap.size + 1 + 1, 4, none⟩ (.slice none 0 0)).heap[w.heap.size + 1]? = some (.cells #[.int .i64 0, .int .i64 0, .int .i64 0, .int .i64 0, .slice none 0 0] 24 (0, 0)) := q1'
        go_wp2
        (try simp only [Exit.inBlock, Exit.then])
        refine bodyPost_ret (results_cell_tmp rfl _ _ (w.heap.size + 1) _ _ _ du rfl (five_set (v0 := .int .i64 t.k) (v1 := .int .i64 t.i) (v2 := .int .i64 t.j) (v3 := .int .i64 t.n) (v4 := .slice none 0 0) q3) hu1 (by cases du <;> first | rfl | exact hu2) size_term) rfl ?_
        exact ⟨.mk t.k t.i t.j t.n [], none, 0, 0, true, rfl, HBP.out.trans ((below_five (desk_under hd2) (by omega) _ _ _ _ _).mono HBP.out.size), Or.inl ⟨rfl, by rw [HVE.out]; rfl, rfl, liesP_nil _ _⟩⟩
    · have e2 : (t.k == 2) = false := by simpa using hk2
      obtain ⟨F, hF⟩ : ∃ F, (pl || decide (12 < t.k)) = F := ⟨_, rfl⟩
      have heq := t.putG_node (gAll l) b F hk2
      rw [hF]
      have hfN : t.freeN = frees t.k 0 t.kids := by rw [t.freeN_eq, if_neg hk2]
      have HFR := Lib.hid (show frees t.k 0 t.kids ≤ (l.length : Int) + b by rw [← hfN]; exact hfr)
      have HF := Lib.hid hF
      have HEQ := Lib.hid heq
      have HR := Lib.hid hr
      have HRK := Lib.hid (t.right_kids hr)
      have HFI := Lib.hid hf
      have IH := Lib.hid ih
      have HN := Lib.hid hn
      have HK := Lib.hid hkk
      have HDE := Lib.hid hde
      clear heq hk2 ih hn hkk hf hr hl hF hde hfr hfN hkv hnu hku
      obtain ⟨i0, hi, hz0, hz1, hz2⟩ := info_parts info_term
      have HI := Lib.hid (And.intro hi (And.intro hz0 (And.intro hz1 hz2)))
      clear hi hz0 hz1 hz2
      go_enter Try.func43, Try.ntmps43
      have hd0 := desk_start w t t (.slice a t.kids.length cap) (.slice none 0 0)
      go_wp2_with fail
      go_loopw [11, 12] (fun v i wr => ∃ (q : Nat) (ps : List (Tm × Value)) (vv : Value), vv = v ∧ q ≤ t.kids.length ∧ i = .int .i64 q ∧ Hid (optK (fun q x => x.putG (gAll l) (b + bindsN t.k q) (F || (t.k == 12 && q == 2))) 0 (t.kids.take q) = some (ps.map (·.1))) ∧ Made (w.heap.size + 3) wr v ps ∧ Desk w t t (.slice a t.kids.length cap) (.slice none 0 0) wr) (fun _ i _ => t.kids.length - (intOf i).toNat)
      case atStart => exact ⟨0, [], _, rfl, Nat.zero_le _, rfl, rfl, made_nil _ _, hd0⟩
      case round =>
        clear hd0
        obtain ⟨q, ps, vv, rfl, hq0, rfl, hps, hmade, hdk⟩ := hrel
        have HPS := Lib.hid hps.out
        clear hps
        obtain ⟨q0, q1, q2⟩ := desk_blocks hdk
        have hsz := desk_size hdk
        have hTw : Five wr w.heap.size t (.slice a t.kids.length cap) := five_cells q0
        obtain ⟨d0, d1, d2, d3, d4⟩ := hTw
        by_cases hlt : q < t.kids.length
        · obtain ⟨b', o, rfl, hx⟩ := HN.out q hlt
          have hxw := hx.below HBP.out hx.lt
          have hy := hxw.below (desk_under hdk) hxw.lt
          have hq := (HK.out q hlt).keep HBP.out
          obtain ⟨a', cap', S', hS, -⟩ := hq.out
          rw [hS] at hy hq
          have HM := Lib.hid (List.getElem_mem hlt)
          have hbd := binds_range t.k q
          have hwrap : IntKind.i64.wrap (b + bindsN t.k q) = b + bindsN t.k q := IntWalk.i64_in _ (by omega)
          have hj1 : (q : Int) < (t.kids.length : Int) := by omega
          have hpl : ps.length = q := by have := optK_length HPS.out; simp at this; omega
          have hkd : (t.kids[q]).deep + 1 ≤ t.deep := by have := deep_mem (List.getElem_mem hlt); rw [HDE.out]; omega
          have hkf : (t.kids[q]).freeN ≤ (l.length : Int) + (b + bindsN t.k q) := by
            have h1 := frees_get t.k t.kids 0 q hlt
            have h2 := HFR.out
            rw [Nat.zero_add] at h1
            omega
          have CALL0 : Hid (∀ w', Kept wr w' → ∀ fl : Bool, fl = (pl || plainlyB t q) → Calls Try.prog 43 #[tv t.kids[q] (.slice a' t.kids[q].kids.length cap'), .slice au l.length capu, .int .i64 (b + bindsN t.k q), .bool fl] w' (GivesY (t.kids[q].putG (gAll l) (b + bindsN t.k q) (F || (t.k == 12 && q == 2))) w')) := fun w' hk fl hfl => by
            have h1 := IH.out _ HM.out (b + bindsN t.k q) fl w' _ _ ((hq.keep (desk_under hdk)).keep hk) ((HLU.out.keep (desk_under hdk)).keep hk) (HRK.out _ HM.out) (by omega) (by omega) hkf
            have h2 : (fl || decide (12 < (t.kids[q]).k)) = (F || (t.k == 12 && q == 2)) := by
              rw [hfl, ← HF.out]
              have := flag_kid' HR.out q hlt pl
              rw [int_two q] at this ⊢
              rw [← this]
              unfold plainlyB
              generalize decide (12 < t.k) = d1
              generalize ((t.k == 12) && ((q : Int) == 2)) = d2
              generalize decide (12 < (t.kids[q]).k) = d3
              cases pl <;> cases d1 <;> cases d2 <;> cases d3 <;> rfl
            rw [h2] at h1
            exact h1
          have HTC := Lib.hid (show Five wr w.heap.size t (.slice (some ⟨b', o, none⟩) t.kids.length cap) from ⟨d0, d1, d2, d3, d4⟩)
          have HXC := Lib.hid hy
          have HPL := Lib.hid hpl
          have HMD := Lib.hid hmade
          have HDK := Lib.hid hdk
          have hk0 := kept_start wr
          obtain ⟨c0, c1, c2, c3, c4⟩ := hy
          clear hS hq hx hxw hpl hmade hdk hkd hkf q0 q1 q2
          cases pl with
          | true =>
            have CALL := Lib.hid (fun w' (h : Kept wr w') => CALL0.out w' h true rfl)
            clear CALL0
            go_wp2_with fail
            refine wp_region_held_drew (S := fun w' => Kept wr w' ∧ w'.cell? ⟨w.heap.size, 0, none⟩ = some (.int .i64 t.k) ∧ w'.cell? ⟨w.heap.size, 1, none⟩ = some (.int .i64 t.i) ∧ w'.cell? ⟨w.heap.size, 2, none⟩ = some (.int .i64 t.j) ∧ w'.cell? ⟨w.heap.size, 3, none⟩ = some (.int .i64 t.n) ∧ w'.cell? ⟨w.heap.size, 4, none⟩ = some (.slice (some ⟨b', o, none⟩) t.kids.length cap) ∧ w'.cell? ⟨b', o + q * 5, none⟩ = some (.int .i64 t.kids[q].k) ∧ w'.cell? ⟨b', o + q * 5 + 1, none⟩ = some (.int .i64 t.kids[q].i) ∧ w'.cell? ⟨b', o + q * 5 + 2, none⟩ = some (.int .i64 t.kids[q].j) ∧ w'.cell? ⟨b', o + q * 5 + 3, none⟩ = some (.int .i64 t.kids[q].n) ∧ w'.cell? ⟨b', o + q * 5 + 4, none⟩ = some (.slice a' t.kids[q].kids.length cap')) (by kernel_rfl) ?_ (fun hHeld => ?_)
            · (try dsimp only)
              (((with_reducible refine all_and ?_ HTC.out HXC.out); repeat (first | with_reducible assumption | with_reducible exact hk0 | with_reducible refine kept_drew ?_ | with_reducible refine kept_alloc ?_ _ | ((with_reducible refine kept_set ?_ ?hh _); (case hh => first | exact Nat.le_refl _ | exact hszp)))))
            refine wpAnyH_take (i := 0) (oi := { dst := some 53, op := Go.Op.fieldAddr 24 (Go.Operand.tmp 4) 4, type := 0, pos := "ref.go:330", after := #[], guard := none }) (v := ?_) rfl (by kernel_rfl) (by kernel_rfl) (by kernel_rfl) (fun _ _ _ h => h) (Or.inl ⟨by rfl, ?_⟩) (by assumption) ?_
            rotate_left 1
            · ((intro w hSw; (try dsimp only at hSw); go_simp) <;> with_reducible rfl)
            (try simp only [Act.put, List.setIfInBounds_toArray, List.set_cons_zero, List.set_cons_succ])
            refine wpAnyH_take (i := 1) (oi := { dst := some 54, op := Go.Op.load 22 (Go.Operand.tmp 53), type := 22, pos := "ref.go:330", after := #[{ on := 0, ground := Go.Ground.data }], guard := none }) (v := ?_) rfl (by kernel_rfl) (by kernel_rfl) (by kernel_rfl) (fun _ _ _ h => h) (Or.inl ⟨by rfl, ?_⟩) (by assumption) ?_
            rotate_left 1
            · ((intro w hSw; (try dsimp only at hSw); go_simp) <;> with_reducible rfl)
            (try simp only [Act.put, List.setIfInBounds_toArray, List.set_cons_zero, List.set_cons_succ])
            refine wpAnyH_take (i := 2) (oi := { dst := some 55, op := Go.Op.move (Go.Operand.tmp 12), type := 3, pos := "ref.go:330", after := #[], guard := none }) (v := ?_) rfl (by kernel_rfl) (by kernel_rfl) (by kernel_rfl) (fun _ _ _ h => h) (Or.inl ⟨by rfl, ?_⟩) (by assumption) ?_
            rotate_left 1
            · ((intro w hSw; (try dsimp only at hSw); go_simp) <;> with_reducible rfl)
            (try simp only [Act.put, List.setIfInBounds_toArray, List.set_cons_zero, List.set_cons_succ])
            refine wpAnyH_take (i := 3) (oi := { dst := some 56, op := Go.Op.indexAddr 22 (Go.Operand.tmp 54) (Go.Operand.tmp 55), type := 0, pos := "ref.go:330", after := #[{ on := 1, ground := Go.Ground.data }, { on := 2, ground := Go.Ground.data }], guard := none }) (v := ?_) rfl (by kernel_rfl) (by kernel_rfl) (by kernel_rfl) (fun _ _ _ h => h) (Or.inl ⟨by rfl, ?_⟩) (by assumption) ?_
            rotate_left 1
            · ((intro w hSw; (try dsimp only at hSw); go_simp) <;> with_reducible rfl)
            (try simp only [Act.put, List.setIfInBounds_toArray, List.set_cons_zero, List.set_cons_succ])
            refine wpAnyH_take (i := 4) (oi := { dst := some 57, op := Go.Op.load 24 (Go.Operand.tmp 56), type := 24, pos := "ref.go:330", after := #[{ on := 3, ground := Go.Ground.data }], guard := none }) (v := ?_) rfl (by kernel_rfl) (by kernel_rfl) (by kernel_rfl) (fun _ _ _ h => h) (Or.inl ⟨by rfl, ?_⟩) (by assumption) ?_
            rotate_left 1
            · ((intro w hSw; (try dsimp only at hSw); go_simp) <;> with_reducible rfl)
            (try simp only [Act.put, List.setIfInBounds_toArray, List.set_cons_zero, List.set_cons_succ])
            refine wpAnyH_take (i := 5) (oi := { dst := some 58, op := Go.Op.move (Go.Operand.tmp 1), type := 22, pos := "ref.go:330", after := #[], guard := none }) (v := ?_) rfl (by kernel_rfl) (by kernel_rfl) (by kernel_rfl) (fun _ _ _ h => h) (Or.inl ⟨by rfl, ?_⟩) (by assumption) ?_
            rotate_left 1
            · ((intro w hSw; (try dsimp only at hSw); go_simp) <;> with_reducible rfl)
            (try simp only [Act.put, List.setIfInBounds_toArray, List.set_cons_zero, List.set_cons_succ])
            refine wpAnyH_take (i := 6) (oi := { dst := some 59, op := Go.Op.move (Go.Operand.tmp 2), type := 3, pos := "ref.go:330", after := #[], guard := none }) (v := ?_) rfl (by kernel_rfl) (by kernel_rfl) (by kernel_rfl) (fun _ _ _ h => h) (Or.inl ⟨by rfl, ?_⟩) (by assumption) ?_
            rotate_left 1
            · ((intro w hSw; (try dsimp only at hSw); go_simp) <;> with_reducible rfl)
            (try simp only [Act.put, List.setIfInBounds_toArray, List.set_cons_zero, List.set_cons_succ])
            refine wpAnyH_take (i := 7) (oi := { dst := some 60, op := Go.Op.fieldAddr 24 (Go.Operand.tmp 4) 0, type := 0, pos := "ref.go:330", after := #[], guard := none }) (v := ?_) rfl (by kernel_rfl) (by kernel_rfl) (by kernel_rfl) (fun _ _ _ h => h) (Or.inl ⟨by rfl, ?_⟩) (by assumption) ?_
            rotate_left 1
            · ((intro w hSw; (try dsimp only at hSw); go_simp) <;> with_reducible rfl)
            (try simp only [Act.put, List.setIfInBounds_toArray, List.set_cons_zero, List.set_cons_succ])
            refine wpAnyH_take (i := 8) (oi := { dst := some 61, op := Go.Op.load 3 (Go.Operand.tmp 60), type := 3, pos := "ref.go:330", after := #[{ on := 7, ground := Go.Ground.data }], guard := none }) (v := ?_) rfl (by kernel_rfl) (by kernel_rfl) (by kernel_rfl) (fun _ _ _ h => h) (Or.inl ⟨by rfl, ?_⟩) (by assumption) ?_
            rotate_left 1
            · ((intro w hSw; (try dsimp only at hSw); go_simp) <;> with_reducible rfl)
            (try simp only [Act.put, List.setIfInBounds_toArray, List.set_cons_zero, List.set_cons_succ])
            refine wpAnyH_take (i := 9) (oi := { dst := some 62, op := Go.Op.move (Go.Operand.tmp 12), type := 3, pos := "ref.go:330", after := #[], guard := none }) (v := ?_) rfl (by kernel_rfl) (by kernel_rfl) (by kernel_rfl) (fun _ _ _ h => h) (Or.inl ⟨by rfl, ?_⟩) (by assumption) ?_
            rotate_left 1
            · ((intro w hSw; (try dsimp only at hSw); go_simp) <;> with_reducible rfl)
            (try simp only [Act.put, List.setIfInBounds_toArray, List.set_cons_zero, List.set_cons_succ])
            refine wpAnyH_take (i := 12) (oi := { dst := some 65, op := Go.Op.move (Go.Operand.tmp 3), type := 4, pos := "ref.go:330", after := #[], guard := none }) (v := ?_) rfl (by kernel_rfl) (by kernel_rfl) (by kernel_rfl) (fun _ _ _ h => h) (Or.inl ⟨by rfl, ?_⟩) (by assumption) ?_
            rotate_left 1
            · ((intro w hSw; (try dsimp only at hSw); go_simp) <;> with_reducible rfl)
            (try simp only [Act.put, List.setIfInBounds_toArray, List.set_cons_zero, List.set_cons_succ])
            refine wpAnyH_ready (rs := [10, 22]) (by kernel_rfl) (by simp) ?_
            refine AllReadyH.cons (o := { dst := some 63, op := Go.Op.call { callee := Go.Callee.value (Go.Operand.func 48), args := #[Go.Operand.tmp 61, Go.Operand.tmp 62], argTypes := #[3, 3] }, type := 3, pos := "ref.go:330", after := #[{ on := 8, ground := Go.Ground.data }, { on := 9, ground := Go.Ground.data }], guard := none }) rfl (fun K hK => ?_) ?_
            · go_simp
              (go_at_call 48; refine (refbinds_any _ _ _).mono ?_; rintro e w' ⟨rfl, rfl⟩)
              refine hK.out _ _ ?_ (fun hHeld => ?_)
              · (try dsimp only)
                (((with_reducible refine all_and ?_ HTC.out HXC.out); repeat (first | with_reducible assumption | with_reducible exact hk0 | with_reducible refine kept_drew ?_ | with_reducible refine kept_alloc ?_ _ | ((with_reducible refine kept_set ?_ ?hh _); (case hh => first | exact Nat.le_refl _ | exact hszp)))))
              clear hK K
              (try simp only [Act.put, List.setIfInBounds_toArray, List.set_cons_zero, List.set_cons_succ])
              refine wpAnyH_take (i := 11) (oi := { dst := some 64, op := Go.Op.binOp Go.BinOp.add 3 (Go.Operand.tmp 59) (Go.Operand.tmp 63) 3, type := 3, pos := "ref.go:330", after := #[{ on := 6, ground := Go.Ground.data }, { on := 10, ground := Go.Ground.data }], guard := none }) (v := ?_) rfl (by kernel_rfl) (by kernel_rfl) (by kernel_rfl) (fun _ _ _ h => h) (Or.inl ⟨by rfl, ?_⟩) (by assumption) ?_
              rotate_left 1
              · ((intro w hSw; (try dsimp only at hSw); go_simp) <;> with_reducible rfl)
              (try simp only [Act.put, List.setIfInBounds_toArray, List.set_cons_zero, List.set_cons_succ])
              refine wpAnyH_take (i := 13) (oi := { dst := some 66, op := Go.Op.move (Go.Operand.tmp 65), type := 4, pos := "ref.go:330", after := #[{ on := 12, ground := Go.Ground.data }, { on := 10, ground := Go.Ground.chain }], guard := none }) (v := ?_) rfl (by kernel_rfl) (by kernel_rfl) (by kernel_rfl) (fun _ _ _ h => h) (Or.inl ⟨by rfl, ?_⟩) (by assumption) ?_
              rotate_left 1
              · ((intro w hSw; (try dsimp only at hSw); go_simp) <;> with_reducible rfl)
              (try simp only [Act.put, List.setIfInBounds_toArray, List.set_cons_zero, List.set_cons_succ])
              refine wpAnyH_take (i := 14) (oi := { dst := some 67, op := Go.Op.load 24 (Go.Operand.tmp 4), type := 24, pos := "ref.go:330", after := #[{ on := 13, ground := Go.Ground.guard }], guard := some (13, false) }) (v := undef) rfl (by kernel_rfl) (by kernel_rfl) (by kernel_rfl) (fun _ _ _ h => h) (Or.inr ⟨by rfl, rfl⟩) (by assumption) ?_
              (try simp only [Act.put, List.setIfInBounds_toArray, List.set_cons_zero, List.set_cons_succ])
              refine wpAnyH_take (i := 15) (oi := { dst := some 68, op := Go.Op.move (Go.Operand.tmp 12), type := 3, pos := "ref.go:330", after := #[{ on := 13, ground := Go.Ground.guard }], guard := some (13, false) }) (v := undef) rfl (by kernel_rfl) (by kernel_rfl) (by kernel_rfl) (fun _ _ _ h => h) (Or.inr ⟨by rfl, rfl⟩) (by assumption) ?_
              (try simp only [Act.put, List.setIfInBounds_toArray, List.set_cons_zero, List.set_cons_succ])
              refine wpAnyH_take (i := 16) (oi := { dst := some 69, op := Go.Op.call { callee := Go.Callee.value (Go.Operand.func 49), args := #[Go.Operand.tmp 67, Go.Operand.tmp 68], argTypes := #[24, 3] }, type := 4, pos := "ref.go:330", after := #[{ on := 14, ground := Go.Ground.data }, { on := 15, ground := Go.Ground.data }, { on := 13, ground := Go.Ground.chain }, { on := 13, ground := Go.Ground.guard }], guard := some (13, false) }) (v := undef) rfl (by kernel_rfl) (by kernel_rfl) (by kernel_rfl) (fun _ _ _ h => h) (Or.inr ⟨by rfl, rfl⟩) (by assumption) ?_
              (try simp only [Act.put, List.setIfInBounds_toArray, List.set_cons_zero, List.set_cons_succ])
              refine wpAnyH_take (i := 17) (oi := { dst := some 70, op := Go.Op.pick (Go.Operand.tmp 66) (Go.Operand.const (Go.Value.bool true)) (Go.Operand.tmp 69), type := 4, pos := "ref.go:330", after := #[{ on := 13, ground := Go.Ground.data }, { on := 16, ground := Go.Ground.data }], guard := none }) (v := ?_) rfl (by kernel_rfl) (by kernel_rfl) (by kernel_rfl) (fun _ _ _ h => h) (Or.inl ⟨by rfl, ?_⟩) (by assumption) ?_
              rotate_left 1
              · ((intro w hSw; (try dsimp only at hSw); go_simp) <;> with_reducible rfl)
              (try simp only [Act.put, List.setIfInBounds_toArray, List.set_cons_zero, List.set_cons_succ])
              refine wpAnyH_ready (rs := [18, 22]) (by kernel_rfl) (by simp) ?_
              refine AllReadyH.cons (o := { dst := some 71, op := Go.Op.call { callee := Go.Callee.value (Go.Operand.func 43), args := #[Go.Operand.tmp 57, Go.Operand.tmp 58, Go.Operand.tmp 64, Go.Operand.tmp 70], argTypes := #[24, 22, 3, 4] }, type := 33, pos := "ref.go:330", after := #[{ on := 4, ground := Go.Ground.data }, { on := 5, ground := Go.Ground.data }, { on := 11, ground := Go.Ground.data }, { on := 17, ground := Go.Ground.data }, { on := 16, ground := Go.Ground.chain }], guard := none }) rfl (fun K hK => ?_) ?_
              · go_simp
                (go_at_call 43; have hS := hHeld.1; have hnc := Below.size hS; ((with_reducible refine Calls.mono (CALL.out _ hS) ?_); rintro e wn ⟨x, a2, n2, cap2, ok, rfl, hbn, hans⟩; have HANS := Lib.hid hans; have hhn := kept_call hS hbn; clear hans hbn hS))
                refine hK.out _ _ ?_ (fun hHeld => ?_)
                · (try dsimp only)
                  (((with_reducible refine all_and ?_ HTC.out HXC.out); repeat (first | with_reducible assumption | with_reducible exact hk0 | with_reducible refine kept_drew ?_ | with_reducible refine kept_alloc ?_ _ | ((with_reducible refine kept_set ?_ ?hh _); (case hh => first | exact Nat.le_refl _ | exact hszp)))))
                clear hK K
                (try simp only [Act.put, List.setIfInBounds_toArray, List.set_cons_zero, List.set_cons_succ])
                refine wpAnyH_take (i := 19) (oi := { dst := some 52, op := Go.Op.move (Go.Operand.tmp 71), type := 33, pos := "ref.go:330", after := #[{ on := 18, ground := Go.Ground.data }], guard := none }) (v := ?_) rfl (by kernel_rfl) (by kernel_rfl) (by kernel_rfl) (fun _ _ _ h => h) (Or.inl ⟨by rfl, ?_⟩) (by assumption) ?_
                rotate_left 1
                · ((intro w hSw; (try dsimp only at hSw); go_simp) <;> with_reducible rfl)
                (try simp only [Act.put, List.setIfInBounds_toArray, List.set_cons_zero, List.set_cons_succ])
                refine wpAnyH_take (i := 20) (oi := { dst := some 72, op := Go.Op.extract (Go.Operand.tmp 52) 0, type := 24, pos := "ref.go:330", after := #[{ on := 19, ground := Go.Ground.data }], guard := none }) (v := ?_) rfl (by kernel_rfl) (by kernel_rfl) (by kernel_rfl) (fun _ _ _ h => h) (Or.inl ⟨by rfl, ?_⟩) (by assumption) ?_
                rotate_left 1
                · ((intro w hSw; (try dsimp only at hSw); go_simp) <;> with_reducible rfl)
                (try simp only [Act.put, List.setIfInBounds_toArray, List.set_cons_zero, List.set_cons_succ])
                refine wpAnyH_take (i := 21) (oi := { dst := some 73, op := Go.Op.extract (Go.Operand.tmp 52) 1, type := 4, pos := "ref.go:330", after := #[{ on := 19, ground := Go.Ground.data }, { on := 23, ground := Go.Ground.gcOnly Go.Departure.lateStores }], guard := none }) (v := ?_) rfl (by kernel_rfl) (by kernel_rfl) (by kernel_rfl) (fun _ _ _ h => h) (Or.inl ⟨by rfl, ?_⟩) (by assumption) ?_
                rotate_left 1
                · ((intro w hSw; (try dsimp only at hSw); go_simp) <;> with_reducible rfl)
                (try simp only [Act.put, List.setIfInBounds_toArray, List.set_cons_zero, List.set_cons_succ])
                refine wpAnyH_ready (rs := [22]) (by kernel_rfl) (by simp) ?_
                refine AllReadyH.cons (o := { dst := some 13, op := Go.Op.alloc 24, type := 0, pos := "ref.go:330", after := #[], guard := none }) rfl (fun K hK => ?_) ?_
                · go_simp
                  refine hK.out _ _ ?_ (fun hHeld => ?_)
                  · (try dsimp only)
                    (((with_reducible refine all_and ?_ HTC.out HXC.out); repeat (first | with_reducible assumption | with_reducible exact hk0 | with_reducible refine kept_drew ?_ | with_reducible refine kept_alloc ?_ _ | ((with_reducible refine kept_set ?_ ?hh _); (case hh => first | exact Nat.le_refl _ | exact hszp)))))
                  clear hK K
                  (try simp only [Act.put, List.setIfInBounds_toArray, List.set_cons_zero, List.set_cons_succ])
                  refine wpAnyH_ready (rs := [23]) (by kernel_rfl) (by simp) ?_
                  refine AllReadyH.cons (o := { dst := none, op := Go.Op.store 24 (Go.Operand.tmp 13) (Go.Operand.tmp 72), type := 0, pos := "ref.go:330", after := #[{ on := 22, ground := Go.Ground.data }, { on := 20, ground := Go.Ground.data }, { on := 18, ground := Go.Ground.chain }, { on := 0, ground := Go.Ground.phase }, { on := 1, ground := Go.Ground.phase }, { on := 2, ground := Go.Ground.phase }, { on := 3, ground := Go.Ground.phase }, { on := 4, ground := Go.Ground.phase }, { on := 5, ground := Go.Ground.phase }, { on := 6, ground := Go.Ground.phase }, { on := 7, ground := Go.Ground.phase }, { on := 8, ground := Go.Ground.phase }, { on := 9, ground := Go.Ground.phase }, { on := 10, ground := Go.Ground.phase }, { on := 11, ground := Go.Ground.phase }, { on := 12, ground := Go.Ground.phase }, { on := 13, ground := Go.Ground.phase }, { on := 14, ground := Go.Ground.phase }, { on := 15, ground := Go.Ground.phase }, { on := 16, ground := Go.Ground.phase }, { on := 17, ground := Go.Ground.phase }, { on := 18, ground := Go.Ground.phase }, { on := 19, ground := Go.Ground.phase }, { on := 20, ground := Go.Ground.phase }, { on := 21, ground := Go.Ground.textOnly Go.Departure.lateStores }, { on := 22, ground := Go.Ground.phase }], guard := none }) rfl (fun K hK => ?_) ?_
                  · go_simp
                    refine hK.out _ _ ?_ (fun hHeld => ?_)
                    · (try dsimp only)
                      (((with_reducible refine all_and ?_ HTC.out HXC.out); repeat (first | with_reducible assumption | with_reducible exact hk0 | with_reducible refine kept_drew ?_ | with_reducible refine kept_alloc ?_ _ | ((with_reducible refine kept_set ?_ ?hh _); (case hh => first | exact Nat.le_refl _ | exact hszp)))))
                    clear hK K
                    (try simp only [Act.put, List.setIfInBounds_toArray, List.set_cons_zero, List.set_cons_succ])
                    refine wpAnyH_take (i := 24) (oi := { dst := some 14, op := Go.Op.assign (Go.Operand.tmp 73), type := 4, pos := "ref.go:330", after := #[{ on := 21, ground := Go.Ground.data }, { on := 23, ground := Go.Ground.chain }, { on := 0, ground := Go.Ground.phase }, { on := 1, ground := Go.Ground.phase }, { on := 2, ground := Go.Ground.phase }, { on := 3, ground := Go.Ground.phase }, { on := 4, ground := Go.Ground.phase }, { on := 5, ground := Go.Ground.phase }, { on := 6, ground := Go.Ground.phase }, { on := 7, ground := Go.Ground.phase }, { on := 8, ground := Go.Ground.phase }, { on := 9, ground := Go.Ground.phase }, { on := 10, ground := Go.Ground.phase }, { on := 11, ground := Go.Ground.phase }, { on := 12, ground := Go.Ground.phase }, { on := 13, ground := Go.Ground.phase }, { on := 14, ground := Go.Ground.phase }, { on := 15, ground := Go.Ground.phase }, { on := 16, ground := Go.Ground.phase }, { on := 17, ground := Go.Ground.phase }, { on := 18, ground := Go.Ground.phase }, { on := 19, ground := Go.Ground.phase }, { on := 20, ground := Go.Ground.phase }, { on := 21, ground := Go.Ground.phase }, { on := 22, ground := Go.Ground.phase }, { on := 23, ground := Go.Ground.phase }], guard := none }) (v := ?_) rfl (by kernel_rfl) (by kernel_rfl) (by kernel_rfl) (fun _ _ _ h => h) (Or.inl ⟨by rfl, ?_⟩) (by assumption) ?_
                    rotate_left 1
                    · ((intro w hSw; (try dsimp only at hSw); go_simp) <;> with_reducible rfl)
                    (try simp only [Act.put, List.setIfInBounds_toArray, List.set_cons_zero, List.set_cons_succ])
                    refine wpAnyH_done (by kernel_rfl) ?_ _
                    have hHold := True.intro
                    clear hHold
                    rcases HANS.out with ⟨rfl, hr, rfl, hl2⟩ | ⟨rfl, hr⟩
                    · have HKW := Lib.hid hHeld.1
                      have hN : (wn.alloc (.cells #[.int .i64 x.k, .int .i64 x.i, .int .i64 x.j, .int .i64 x.n, .slice a2 x.kids.length cap2] 24)).heap[wn.heap.size]? = some (boxOf x (.slice a2 x.kids.length cap2)) := alloc_new _ _
                      have hLW : LiesP (wn.alloc (.cells #[.int .i64 x.k, .int .i64 x.i, .int .i64 x.j, .int .i64 x.n, .slice a2 x.kids.length cap2] 24)) (Own wr.heap.size (wn.alloc (.cells #[.int .i64 x.k, .int .i64 x.i, .int .i64 x.j, .int .i64 x.n, .slice a2 x.kids.length cap2] 24))) x.kids (.slice a2 x.kids.length cap2) := (hl2.from hnc).later ((Below.refl _ _).alloc (Nat.le_refl _) _)
                      generalize wn.alloc (.cells #[.int .i64 x.k, .int .i64 x.i, .int .i64 x.j, .int .i64 x.n, .slice a2 x.kids.length cap2] 24) = W at HKW hN hLW ⊢
                      have HFX := Lib.hid (putG_fine (gAll_fine HUR.out) (HRK.out _ HM.out) (by omega) hr)
                      have HRS := Lib.hid hr
                      obtain ⟨p0, p1, p2, p3, p4⟩ := five_cells hN
                      have HLW := Lib.hid hLW
                      clear hN hLW hr
                      go_wp2_with (at_builtin; refine wpList_append_lies _ rfl _ _ 22 rfl (w.heap.size + 3) 24 i0 _ 5 56 (by kernel_rfl) HI.out.1 HI.out.2.1 HI.out.2.2.1 HI.out.2.2.2 rfl (by decide) _ ps.length (cells5 ps) rfl (made_later (made_later HMD.out HKW.out) ((Below.refl _ _).alloc (Nat.le_refl _) _)).own ⟨W.heap.size, 0, none⟩ 1 1 (cells5 [(x, .slice a2 x.kids.length cap2)]) rfl rfl ?news ?one (by decide) ?max ?bytes ?base _ rfl ?next)
                      case news => first | exact news_new _ _ _ _ | exact fun j u h => h
                      case one => exact one5 _ _
                      case max => have := HPL.out; unfold maxLen; omega
                      case bytes => have := HPL.out; omega
                      case base => have := Below.size HKW.out; simp; omega
                      case next =>
                        intro g3 cap3 w3 hown hgrow hat _
                        have hpb := push_once HDK.out HMD.out HFX.out HKW.out HLW.out _ hown hgrow (by simpa using hat)
                        clear hown hgrow hat
                        go_wp2_with fail
                        go_roundw
                        case rel => exact ⟨q + 1, ps ++ [(x, .slice a2 x.kids.length cap2)], _, rfl, hlt, by go_num, by rw [Hid, optK_next hlt HPS.out HRS.out]; simp, hpb.1, hpb.2⟩
                        case measure => simp [intOf]; omega
                    · have HKW := Lib.hid hHeld.1
                      generalize wn.alloc (.cells #[.int .i64 x.k, .int .i64 x.i, .int .i64 x.j, .int .i64 x.n, .slice a2 n2 cap2] 24) = W at HKW ⊢
                      have hdW := desk_trans HDK.out (below_from HKW.out hsz)
                      obtain ⟨-, q1, -⟩ := desk_blocks hdW
                      obtain ⟨z0, z1, z2, z3, z4⟩ := five_cells q1
                      obtain ⟨f0, f1, f2, f3, f4⟩ := five_free q1
                      go_wp2
                      (try simp only [Exit.inBlock, Exit.then])
                      refine bodyPost_ret (results_cell_tmp rfl _ _ (w.heap.size + 1) _ _ _ du rfl (five_set q1) hu1 (by cases du <;> first | rfl | exact hu2) size_term) rfl ?_
                      exact ⟨Tm.zero, none, 0, 0, false, rfl, HBP.out.trans ((below_five (desk_under hdW) (by omega) _ _ _ _ _).mono HBP.out.size), Or.inr ⟨rfl, by rw [HEQ.out, optK_stop hlt hr]; rfl⟩⟩
                  exact AllReadyH.nil
                exact AllReadyH.nil
              refine AllReadyH.cons (o := { dst := some 13, op := Go.Op.alloc 24, type := 0, pos := "ref.go:330", after := #[], guard := none }) rfl (fun K hK => ?_) ?_
              · go_simp
                refine hK.out _ _ ?_ (fun hHeld => ?_)
                · (try dsimp only)
                  (((with_reducible refine all_and ?_ HTC.out HXC.out); repeat (first | with_reducible assumption | with_reducible exact hk0 | with_reducible refine kept_drew ?_ | with_reducible refine kept_alloc ?_ _ | ((with_reducible refine kept_set ?_ ?hh _); (case hh => first | exact Nat.le_refl _ | exact hszp)))))
                clear hK K
                (try simp only [Act.put, List.setIfInBounds_toArray, List.set_cons_zero, List.set_cons_succ])
                have hZ : (wr.drew.alloc zeroObj).heap[wr.heap.size]? = some zeroObj := alloc_new _ _
                refine wpAnyH_ready (rs := [18]) (by kernel_rfl) (by simp) ?_
                refine AllReadyH.cons (o := { dst := some 71, op := Go.Op.call { callee := Go.Callee.value (Go.Operand.func 43), args := #[Go.Operand.tmp 57, Go.Operand.tmp 58, Go.Operand.tmp 64, Go.Operand.tmp 70], argTypes := #[24, 22, 3, 4] }, type := 33, pos := "ref.go:330", after := #[{ on := 4, ground := Go.Ground.data }, { on := 5, ground := Go.Ground.data }, { on := 11, ground := Go.Ground.data }, { on := 17, ground := Go.Ground.data }, { on := 16, ground := Go.Ground.chain }], guard := none }) rfl (fun K hK => ?_) ?_
                · go_simp
                  (go_at_call 43; have hS := hHeld.1; have hnc := Below.size hS; have hgc := block_lt hZ; ((with_reducible refine Calls.mono (CALL.out _ hS) ?_); rintro e wn ⟨x, a2, n2, cap2, ok, rfl, hbn, hans⟩; have HANS := Lib.hid hans; have hhn := kept_call hS hbn; have hZ := keep_block hbn (block_lt hZ) hZ; obtain ⟨⟨g0, g1, g2, g3, g4⟩, v0, v1, v2, v3, v4⟩ := And.intro (five_cells hZ) (five_free hZ); clear hans hbn hS))
                  refine hK.out _ _ ?_ (fun hHeld => ?_)
                  · (try dsimp only)
                    (((with_reducible refine all_and ?_ HTC.out HXC.out); repeat (first | with_reducible assumption | with_reducible exact hk0 | with_reducible refine kept_drew ?_ | with_reducible refine kept_alloc ?_ _ | ((with_reducible refine kept_set ?_ ?hh _); (case hh => first | exact Nat.le_refl _ | exact hszp)))))
                  clear hK K
                  (try simp only [Act.put, List.setIfInBounds_toArray, List.set_cons_zero, List.set_cons_succ])
                  refine wpAnyH_take (i := 19) (oi := { dst := some 52, op := Go.Op.move (Go.Operand.tmp 71), type := 33, pos := "ref.go:330", after := #[{ on := 18, ground := Go.Ground.data }], guard := none }) (v := ?_) rfl (by kernel_rfl) (by kernel_rfl) (by kernel_rfl) (fun _ _ _ h => h) (Or.inl ⟨by rfl, ?_⟩) (by assumption) ?_
                  rotate_left 1
                  · ((intro w hSw; (try dsimp only at hSw); go_simp) <;> with_reducible rfl)
                  (try simp only [Act.put, List.setIfInBounds_toArray, List.set_cons_zero, List.set_cons_succ])
                  refine wpAnyH_take (i := 20) (oi := { dst := some 72, op := Go.Op.extract (Go.Operand.tmp 52) 0, type := 24, pos := "ref.go:330", after := #[{ on := 19, ground := Go.Ground.data }], guard := none }) (v := ?_) rfl (by kernel_rfl) (by kernel_rfl) (by kernel_rfl) (fun _ _ _ h => h) (Or.inl ⟨by rfl, ?_⟩) (by assumption) ?_
                  rotate_left 1
                  · ((intro w hSw; (try dsimp only at hSw); go_simp) <;> with_reducible rfl)
                  (try simp only [Act.put, List.setIfInBounds_toArray, List.set_cons_zero, List.set_cons_succ])
                  refine wpAnyH_take (i := 21) (oi := { dst := some 73, op := Go.Op.extract (Go.Operand.tmp 52) 1, type := 4, pos := "ref.go:330", after := #[{ on := 19, ground := Go.Ground.data }, { on := 23, ground := Go.Ground.gcOnly Go.Departure.lateStores }], guard := none }) (v := ?_) rfl (by kernel_rfl) (by kernel_rfl) (by kernel_rfl) (fun _ _ _ h => h) (Or.inl ⟨by rfl, ?_⟩) (by assumption) ?_
                  rotate_left 1
                  · ((intro w hSw; (try dsimp only at hSw); go_simp) <;> with_reducible rfl)
                  (try simp only [Act.put, List.setIfInBounds_toArray, List.set_cons_zero, List.set_cons_succ])
                  refine wpAnyH_ready (rs := [23]) (by kernel_rfl) (by simp) ?_
                  refine AllReadyH.cons (o := { dst := none, op := Go.Op.store 24 (Go.Operand.tmp 13) (Go.Operand.tmp 72), type := 0, pos := "ref.go:330", after := #[{ on := 22, ground := Go.Ground.data }, { on := 20, ground := Go.Ground.data }, { on := 18, ground := Go.Ground.chain }, { on := 0, ground := Go.Ground.phase }, { on := 1, ground := Go.Ground.phase }, { on := 2, ground := Go.Ground.phase }, { on := 3, ground := Go.Ground.phase }, { on := 4, ground := Go.Ground.phase }, { on := 5, ground := Go.Ground.phase }, { on := 6, ground := Go.Ground.phase }, { on := 7, ground := Go.Ground.phase }, { on := 8, ground := Go.Ground.phase }, { on := 9, ground := Go.Ground.phase }, { on := 10, ground := Go.Ground.phase }, { on := 11, ground := Go.Ground.phase }, { on := 12, ground := Go.Ground.phase }, { on := 13, ground := Go.Ground.phase }, { on := 14, ground := Go.Ground.phase }, { on := 15, ground := Go.Ground.phase }, { on := 16, ground := Go.Ground.phase }, { on := 17, ground := Go.Ground.phase }, { on := 18, ground := Go.Ground.phase }, { on := 19, ground := Go.Ground.phase }, { on := 20, ground := Go.Ground.phase }, { on := 21, ground := Go.Ground.textOnly Go.Departure.lateStores }, { on := 22, ground := Go.Ground.phase }], guard := none }) rfl (fun K hK => ?_) ?_
                  · go_simp
                    refine hK.out _ _ ?_ (fun hHeld => ?_)
                    · (try dsimp only)
                      (((with_reducible refine all_and ?_ HTC.out HXC.out); repeat (first | with_reducible assumption | with_reducible exact hk0 | with_reducible refine kept_drew ?_ | with_reducible refine kept_alloc ?_ _ | ((with_reducible refine kept_set ?_ ?hh _); (case hh => first | exact Nat.le_refl _ | exact hszp)))))
                    clear hK K
                    (try simp only [Act.put, List.setIfInBounds_toArray, List.set_cons_zero, List.set_cons_succ])
                    refine wpAnyH_take (i := 24) (oi := { dst := some 14, op := Go.Op.assign (Go.Operand.tmp 73), type := 4, pos := "ref.go:330", after := #[{ on := 21, ground := Go.Ground.data }, { on := 23, ground := Go.Ground.chain }, { on := 0, ground := Go.Ground.phase }, { on := 1, ground := Go.Ground.phase }, { on := 2, ground := Go.Ground.phase }, { on := 3, ground := Go.Ground.phase }, { on := 4, ground := Go.Ground.phase }, { on := 5, ground := Go.Ground.phase }, { on := 6, ground := Go.Ground.phase }, { on := 7, ground := Go.Ground.phase }, { on := 8, ground := Go.Ground.phase }, { on := 9, ground := Go.Ground.phase }, { on := 10, ground := Go.Ground.phase }, { on := 11, ground := Go.Ground.phase }, { on := 12, ground := Go.Ground.phase }, { on := 13, ground := Go.Ground.phase }, { on := 14, ground := Go.Ground.phase }, { on := 15, ground := Go.Ground.phase }, { on := 16, ground := Go.Ground.phase }, { on := 17, ground := Go.Ground.phase }, { on := 18, ground := Go.Ground.phase }, { on := 19, ground := Go.Ground.phase }, { on := 20, ground := Go.Ground.phase }, { on := 21, ground := Go.Ground.phase }, { on := 22, ground := Go.Ground.phase }, { on := 23, ground := Go.Ground.phase }], guard := none }) (v := ?_) rfl (by kernel_rfl) (by kernel_rfl) (by kernel_rfl) (fun _ _ _ h => h) (Or.inl ⟨by rfl, ?_⟩) (by assumption) ?_
                    rotate_left 1
                    · ((intro w hSw; (try dsimp only at hSw); go_simp) <;> with_reducible rfl)
                    (try simp only [Act.put, List.setIfInBounds_toArray, List.set_cons_zero, List.set_cons_succ])
                    refine wpAnyH_done (by kernel_rfl) ?_ _
                    have hHold := True.intro
                    clear hHold
                    rcases HANS.out with ⟨rfl, hr, rfl, hl2⟩ | ⟨rfl, hr⟩
                    · have HKW := Lib.hid hHeld.1
                      have hN : (((((wn.setCell ⟨wr.heap.size, 0, none⟩ (.int .i64 x.k)).setCell ⟨wr.heap.size, 1, none⟩ (.int .i64 x.i)).setCell ⟨wr.heap.size, 2, none⟩ (.int .i64 x.j)).setCell ⟨wr.heap.size, 3, none⟩ (.int .i64 x.n)).setCell ⟨wr.heap.size, 4, none⟩ (.slice a2 x.kids.length cap2)).heap[wr.heap.size]? = some (boxOf x (.slice a2 x.kids.length cap2)) := five_set hZ
                      have hLW : LiesP (((((wn.setCell ⟨wr.heap.size, 0, none⟩ (.int .i64 x.k)).setCell ⟨wr.heap.size, 1, none⟩ (.int .i64 x.i)).setCell ⟨wr.heap.size, 2, none⟩ (.int .i64 x.j)).setCell ⟨wr.heap.size, 3, none⟩ (.int .i64 x.n)).setCell ⟨wr.heap.size, 4, none⟩ (.slice a2 x.kids.length cap2)) (Own wr.heap.size (((((wn.setCell ⟨wr.heap.size, 0, none⟩ (.int .i64 x.k)).setCell ⟨wr.heap.size, 1, none⟩ (.int .i64 x.i)).setCell ⟨wr.heap.size, 2, none⟩ (.int .i64 x.j)).setCell ⟨wr.heap.size, 3, none⟩ (.int .i64 x.n)).setCell ⟨wr.heap.size, 4, none⟩ (.slice a2 x.kids.length cap2))) x.kids (.slice a2 x.kids.length cap2) := liesP_fives hl2 hgc hnc _ _ _ _ _
                      generalize ((((wn.setCell ⟨wr.heap.size, 0, none⟩ (.int .i64 x.k)).setCell ⟨wr.heap.size, 1, none⟩ (.int .i64 x.i)).setCell ⟨wr.heap.size, 2, none⟩ (.int .i64 x.j)).setCell ⟨wr.heap.size, 3, none⟩ (.int .i64 x.n)).setCell ⟨wr.heap.size, 4, none⟩ (.slice a2 x.kids.length cap2) = W at HKW hN hLW ⊢
                      have HFX := Lib.hid (putG_fine (gAll_fine HUR.out) (HRK.out _ HM.out) (by omega) hr)
                      have HRS := Lib.hid hr
                      obtain ⟨p0, p1, p2, p3, p4⟩ := five_cells hN
                      have HLW := Lib.hid hLW
                      clear hN hLW hr
                      go_wp2_with (at_builtin; refine wpList_append_lies _ rfl _ _ 22 rfl (w.heap.size + 3) 24 i0 _ 5 56 (by kernel_rfl) HI.out.1 HI.out.2.1 HI.out.2.2.1 HI.out.2.2.2 rfl (by decide) _ ps.length (cells5 ps) rfl (made_later (made_later HMD.out HKW.out) ((Below.refl _ _).alloc (Nat.le_refl _) _)).own ⟨W.heap.size, 0, none⟩ 1 1 (cells5 [(x, .slice a2 x.kids.length cap2)]) rfl rfl ?news ?one (by decide) ?max ?bytes ?base _ rfl ?next)
                      case news => first | exact news_new _ _ _ _ | exact fun j u h => h
                      case one => exact one5 _ _
                      case max => have := HPL.out; unfold maxLen; omega
                      case bytes => have := HPL.out; omega
                      case base => have := Below.size HKW.out; simp; omega
                      case next =>
                        intro g3 cap3 w3 hown hgrow hat _
                        have hpb := push_once HDK.out HMD.out HFX.out HKW.out HLW.out _ hown hgrow (by simpa using hat)
                        clear hown hgrow hat
                        go_wp2_with fail
                        go_roundw
                        case rel => exact ⟨q + 1, ps ++ [(x, .slice a2 x.kids.length cap2)], _, rfl, hlt, by go_num, by rw [Hid, optK_next hlt HPS.out HRS.out]; simp, hpb.1, hpb.2⟩
                        case measure => simp [intOf]; omega
                    · have HKW := Lib.hid hHeld.1
                      generalize ((((wn.setCell ⟨wr.heap.size, 0, none⟩ (.int .i64 x.k)).setCell ⟨wr.heap.size, 1, none⟩ (.int .i64 x.i)).setCell ⟨wr.heap.size, 2, none⟩ (.int .i64 x.j)).setCell ⟨wr.heap.size, 3, none⟩ (.int .i64 x.n)).setCell ⟨wr.heap.size, 4, none⟩ (.slice a2 n2 cap2) = W at HKW ⊢
                      have hdW := desk_trans HDK.out (below_from HKW.out hsz)
                      obtain ⟨-, q1, -⟩ := desk_blocks hdW
                      obtain ⟨z0, z1, z2, z3, z4⟩ := five_cells q1
                      obtain ⟨f0, f1, f2, f3, f4⟩ := five_free q1
                      go_wp2
                      (try simp only [Exit.inBlock, Exit.then])
                      refine bodyPost_ret (results_cell_tmp rfl _ _ (w.heap.size + 1) _ _ _ du rfl (five_set q1) hu1 (by cases du <;> first | rfl | exact hu2) size_term) rfl ?_
                      exact ⟨Tm.zero, none, 0, 0, false, rfl, HBP.out.trans ((below_five (desk_under hdW) (by omega) _ _ _ _ _).mono HBP.out.size), Or.inr ⟨rfl, by rw [HEQ.out, optK_stop hlt hr]; rfl⟩⟩
                  exact AllReadyH.nil
                exact AllReadyH.nil
              exact AllReadyH.nil
            refine AllReadyH.cons (o := { dst := some 13, op := Go.Op.alloc 24, type := 0, pos := "ref.go:330", after := #[], guard := none }) rfl (fun K hK => ?_) ?_
            · go_simp
              refine hK.out _ _ ?_ (fun hHeld => ?_)
              · (try dsimp only)
                (((with_reducible refine all_and ?_ HTC.out HXC.out); repeat (first | with_reducible assumption | with_reducible exact hk0 | with_reducible refine kept_drew ?_ | with_reducible refine kept_alloc ?_ _ | ((with_reducible refine kept_set ?_ ?hh _); (case hh => first | exact Nat.le_refl _ | exact hszp)))))
              clear hK K
              (try simp only [Act.put, List.setIfInBounds_toArray, List.set_cons_zero, List.set_cons_succ])
              have hZ : (wr.drew.alloc zeroObj).heap[wr.heap.size]? = some zeroObj := alloc_new _ _
              refine wpAnyH_ready (rs := [10]) (by kernel_rfl) (by simp) ?_
              refine AllReadyH.cons (o := { dst := some 63, op := Go.Op.call { callee := Go.Callee.value (Go.Operand.func 48), args := #[Go.Operand.tmp 61, Go.Operand.tmp 62], argTypes := #[3, 3] }, type := 3, pos := "ref.go:330", after := #[{ on := 8, ground := Go.Ground.data }, { on := 9, ground := Go.Ground.data }], guard := none }) rfl (fun K hK => ?_) ?_
              · go_simp
                (go_at_call 48; refine (refbinds_any _ _ _).mono ?_; rintro e w' ⟨rfl, rfl⟩)
                refine hK.out _ _ ?_ (fun hHeld => ?_)
                · (try dsimp only)
                  (((with_reducible refine all_and ?_ HTC.out HXC.out); repeat (first | with_reducible assumption | with_reducible exact hk0 | with_reducible refine kept_drew ?_ | with_reducible refine kept_alloc ?_ _ | ((with_reducible refine kept_set ?_ ?hh _); (case hh => first | exact Nat.le_refl _ | exact hszp)))))
                clear hK K
                (try simp only [Act.put, List.setIfInBounds_toArray, List.set_cons_zero, List.set_cons_succ])
                refine wpAnyH_take (i := 11) (oi := { dst := some 64, op := Go.Op.binOp Go.BinOp.add 3 (Go.Operand.tmp 59) (Go.Operand.tmp 63) 3, type := 3, pos := "ref.go:330", after := #[{ on := 6, ground := Go.Ground.data }, { on := 10, ground := Go.Ground.data }], guard := none }) (v := ?_) rfl (by kernel_rfl) (by kernel_rfl) (by kernel_rfl) (fun _ _ _ h => h) (Or.inl ⟨by rfl, ?_⟩) (by assumption) ?_
                rotate_left 1
                · ((intro w hSw; (try dsimp only at hSw); go_simp) <;> with_reducible rfl)
                (try simp only [Act.put, List.setIfInBounds_toArray, List.set_cons_zero, List.set_cons_succ])
                refine wpAnyH_take (i := 13) (oi := { dst := some 66, op := Go.Op.move (Go.Operand.tmp 65), type := 4, pos := "ref.go:330", after := #[{ on := 12, ground := Go.Ground.data }, { on := 10, ground := Go.Ground.chain }], guard := none }) (v := ?_) rfl (by kernel_rfl) (by kernel_rfl) (by kernel_rfl) (fun _ _ _ h => h) (Or.inl ⟨by rfl, ?_⟩) (by assumption) ?_
                rotate_left 1
                · ((intro w hSw; (try dsimp only at hSw); go_simp) <;> with_reducible rfl)
                (try simp only [Act.put, List.setIfInBounds_toArray, List.set_cons_zero, List.set_cons_succ])
                refine wpAnyH_take (i := 14) (oi := { dst := some 67, op := Go.Op.load 24 (Go.Operand.tmp 4), type := 24, pos := "ref.go:330", after := #[{ on := 13, ground := Go.Ground.guard }], guard := some (13, false) }) (v := undef) rfl (by kernel_rfl) (by kernel_rfl) (by kernel_rfl) (fun _ _ _ h => h) (Or.inr ⟨by rfl, rfl⟩) (by assumption) ?_
                (try simp only [Act.put, List.setIfInBounds_toArray, List.set_cons_zero, List.set_cons_succ])
                refine wpAnyH_take (i := 15) (oi := { dst := some 68, op := Go.Op.move (Go.Operand.tmp 12), type := 3, pos := "ref.go:330", after := #[{ on := 13, ground := Go.Ground.guard }], guard := some (13, false) }) (v := undef) rfl (by kernel_rfl) (by kernel_rfl) (by kernel_rfl) (fun _ _ _ h => h) (Or.inr ⟨by rfl, rfl⟩) (by assumption) ?_
                (try simp only [Act.put, List.setIfInBounds_toArray, List.set_cons_zero, List.set_cons_succ])
                refine wpAnyH_take (i := 16) (oi := { dst := some 69, op := Go.Op.call { callee := Go.Callee.value (Go.Operand.func 49), args := #[Go.Operand.tmp 67, Go.Operand.tmp 68], argTypes := #[24, 3] }, type := 4, pos := "ref.go:330", after := #[{ on := 14, ground := Go.Ground.data }, { on := 15, ground := Go.Ground.data }, { on := 13, ground := Go.Ground.chain }, { on := 13, ground := Go.Ground.guard }], guard := some (13, false) }) (v := undef) rfl (by kernel_rfl) (by kernel_rfl) (by kernel_rfl) (fun _ _ _ h => h) (Or.inr ⟨by rfl, rfl⟩) (by assumption) ?_
                (try simp only [Act.put, List.setIfInBounds_toArray, List.set_cons_zero, List.set_cons_succ])
                refine wpAnyH_take (i := 17) (oi := { dst := some 70, op := Go.Op.pick (Go.Operand.tmp 66) (Go.Operand.const (Go.Value.bool true)) (Go.Operand.tmp 69), type := 4, pos := "ref.go:330", after := #[{ on := 13, ground := Go.Ground.data }, { on := 16, ground := Go.Ground.data }], guard := none }) (v := ?_) rfl (by kernel_rfl) (by kernel_rfl) (by kernel_rfl) (fun _ _ _ h => h) (Or.inl ⟨by rfl, ?_⟩) (by assumption) ?_
                rotate_left 1
                · ((intro w hSw; (try dsimp only at hSw); go_simp) <;> with_reducible rfl)
                (try simp only [Act.put, List.setIfInBounds_toArray, List.set_cons_zero, List.set_cons_succ])
                refine wpAnyH_ready (rs := [18]) (by kernel_rfl) (by simp) ?_
                refine AllReadyH.cons (o := { dst := some 71, op := Go.Op.call { callee := Go.Callee.value (Go.Operand.func 43), args := #[Go.Operand.tmp 57, Go.Operand.tmp 58, Go.Operand.tmp 64, Go.Operand.tmp 70], argTypes := #[24, 22, 3, 4] }, type := 33, pos := "ref.go:330", after := #[{ on := 4, ground := Go.Ground.data }, { on := 5, ground := Go.Ground.data }, { on := 11, ground := Go.Ground.data }, { on := 17, ground := Go.Ground.data }, { on := 16, ground := Go.Ground.chain }], guard := none }) rfl (fun K hK => ?_) ?_
                · go_simp
                  (go_at_call 43; have hS := hHeld.1; have hnc := Below.size hS; have hgc := block_lt hZ; ((with_reducible refine Calls.mono (CALL.out _ hS) ?_); rintro e wn ⟨x, a2, n2, cap2, ok, rfl, hbn, hans⟩; have HANS := Lib.hid hans; have hhn := kept_call hS hbn; have hZ := keep_block hbn (block_lt hZ) hZ; obtain ⟨⟨g0, g1, g2, g3, g4⟩, v0, v1, v2, v3, v4⟩ := And.intro (five_cells hZ) (five_free hZ); clear hans hbn hS))
                  refine hK.out _ _ ?_ (fun hHeld => ?_)
                  · (try dsimp only)
                    (((with_reducible refine all_and ?_ HTC.out HXC.out); repeat (first | with_reducible assumption | with_reducible exact hk0 | with_reducible refine kept_drew ?_ | with_reducible refine kept_alloc ?_ _ | ((with_reducible refine kept_set ?_ ?hh _); (case hh => first | exact Nat.le_refl _ | exact hszp)))))
                  clear hK K
                  (try simp only [Act.put, List.setIfInBounds_toArray, List.set_cons_zero, List.set_cons_succ])
                  refine wpAnyH_take (i := 19) (oi := { dst := some 52, op := Go.Op.move (Go.Operand.tmp 71), type := 33, pos := "ref.go:330", after := #[{ on := 18, ground := Go.Ground.data }], guard := none }) (v := ?_) rfl (by kernel_rfl) (by kernel_rfl) (by kernel_rfl) (fun _ _ _ h => h) (Or.inl ⟨by rfl, ?_⟩) (by assumption) ?_
                  rotate_left 1
                  · ((intro w hSw; (try dsimp only at hSw); go_simp) <;> with_reducible rfl)
                  (try simp only [Act.put, List.setIfInBounds_toArray, List.set_cons_zero, List.set_cons_succ])
                  refine wpAnyH_take (i := 20) (oi := { dst := some 72, op := Go.Op.extract (Go.Operand.tmp 52) 0, type := 24, pos := "ref.go:330", after := #[{ on := 19, ground := Go.Ground.data }], guard := none }) (v := ?_) rfl (by kernel_rfl) (by kernel_rfl) (by kernel_rfl) (fun _ _ _ h => h) (Or.inl ⟨by rfl, ?_⟩) (by assumption) ?_
                  rotate_left 1
                  · ((intro w hSw; (try dsimp only at hSw); go_simp) <;> with_reducible rfl)
                  (try simp only [Act.put, List.setIfInBounds_toArray, List.set_cons_zero, List.set_cons_succ])
                  refine wpAnyH_take (i := 21) (oi := { dst := some 73, op := Go.Op.extract (Go.Operand.tmp 52) 1, type := 4, pos := "ref.go:330", after := #[{ on := 19, ground := Go.Ground.data }, { on := 23, ground := Go.Ground.gcOnly Go.Departure.lateStores }], guard := none }) (v := ?_) rfl (by kernel_rfl) (by kernel_rfl) (by kernel_rfl) (fun _ _ _ h => h) (Or.inl ⟨by rfl, ?_⟩) (by assumption) ?_
                  rotate_left 1
                  · ((intro w hSw; (try dsimp only at hSw); go_simp) <;> with_reducible rfl)
                  (try simp only [Act.put, List.setIfInBounds_toArray, List.set_cons_zero, List.set_cons_succ])
                  refine wpAnyH_ready (rs := [23]) (by kernel_rfl) (by simp) ?_
                  refine AllReadyH.cons (o := { dst := none, op := Go.Op.store 24 (Go.Operand.tmp 13) (Go.Operand.tmp 72), type := 0, pos := "ref.go:330", after := #[{ on := 22, ground := Go.Ground.data }, { on := 20, ground := Go.Ground.data }, { on := 18, ground := Go.Ground.chain }, { on := 0, ground := Go.Ground.phase }, { on := 1, ground := Go.Ground.phase }, { on := 2, ground := Go.Ground.phase }, { on := 3, ground := Go.Ground.phase }, { on := 4, ground := Go.Ground.phase }, { on := 5, ground := Go.Ground.phase }, { on := 6, ground := Go.Ground.phase }, { on := 7, ground := Go.Ground.phase }, { on := 8, ground := Go.Ground.phase }, { on := 9, ground := Go.Ground.phase }, { on := 10, ground := Go.Ground.phase }, { on := 11, ground := Go.Ground.phase }, { on := 12, ground := Go.Ground.phase }, { on := 13, ground := Go.Ground.phase }, { on := 14, ground := Go.Ground.phase }, { on := 15, ground := Go.Ground.phase }, { on := 16, ground := Go.Ground.phase }, { on := 17, ground := Go.Ground.phase }, { on := 18, ground := Go.Ground.phase }, { on := 19, ground := Go.Ground.phase }, { on := 20, ground := Go.Ground.phase }, { on := 21, ground := Go.Ground.textOnly Go.Departure.lateStores }, { on := 22, ground := Go.Ground.phase }], guard := none }) rfl (fun K hK => ?_) ?_
                  · go_simp
                    refine hK.out _ _ ?_ (fun hHeld => ?_)
                    · (try dsimp only)
                      (((with_reducible refine all_and ?_ HTC.out HXC.out); repeat (first | with_reducible assumption | with_reducible exact hk0 | with_reducible refine kept_drew ?_ | with_reducible refine kept_alloc ?_ _ | ((with_reducible refine kept_set ?_ ?hh _); (case hh => first | exact Nat.le_refl _ | exact hszp)))))
                    clear hK K
                    (try simp only [Act.put, List.setIfInBounds_toArray, List.set_cons_zero, List.set_cons_succ])
                    refine wpAnyH_take (i := 24) (oi := { dst := some 14, op := Go.Op.assign (Go.Operand.tmp 73), type := 4, pos := "ref.go:330", after := #[{ on := 21, ground := Go.Ground.data }, { on := 23, ground := Go.Ground.chain }, { on := 0, ground := Go.Ground.phase }, { on := 1, ground := Go.Ground.phase }, { on := 2, ground := Go.Ground.phase }, { on := 3, ground := Go.Ground.phase }, { on := 4, ground := Go.Ground.phase }, { on := 5, ground := Go.Ground.phase }, { on := 6, ground := Go.Ground.phase }, { on := 7, ground := Go.Ground.phase }, { on := 8, ground := Go.Ground.phase }, { on := 9, ground := Go.Ground.phase }, { on := 10, ground := Go.Ground.phase }, { on := 11, ground := Go.Ground.phase }, { on := 12, ground := Go.Ground.phase }, { on := 13, ground := Go.Ground.phase }, { on := 14, ground := Go.Ground.phase }, { on := 15, ground := Go.Ground.phase }, { on := 16, ground := Go.Ground.phase }, { on := 17, ground := Go.Ground.phase }, { on := 18, ground := Go.Ground.phase }, { on := 19, ground := Go.Ground.phase }, { on := 20, ground := Go.Ground.phase }, { on := 21, ground := Go.Ground.phase }, { on := 22, ground := Go.Ground.phase }, { on := 23, ground := Go.Ground.phase }], guard := none }) (v := ?_) rfl (by kernel_rfl) (by kernel_rfl) (by kernel_rfl) (fun _ _ _ h => h) (Or.inl ⟨by rfl, ?_⟩) (by assumption) ?_
                    rotate_left 1
                    · ((intro w hSw; (try dsimp only at hSw); go_simp) <;> with_reducible rfl)
                    (try simp only [Act.put, List.setIfInBounds_toArray, List.set_cons_zero, List.set_cons_succ])
                    refine wpAnyH_done (by kernel_rfl) ?_ _
                    have hHold := True.intro
                    clear hHold
                    rcases HANS.out with ⟨rfl, hr, rfl, hl2⟩ | ⟨rfl, hr⟩
                    · have HKW := Lib.hid hHeld.1
                      have hN : (((((wn.setCell ⟨wr.heap.size, 0, none⟩ (.int .i64 x.k)).setCell ⟨wr.heap.size, 1, none⟩ (.int .i64 x.i)).setCell ⟨wr.heap.size, 2, none⟩ (.int .i64 x.j)).setCell ⟨wr.heap.size, 3, none⟩ (.int .i64 x.n)).setCell ⟨wr.heap.size, 4, none⟩ (.slice a2 x.kids.length cap2)).heap[wr.heap.size]? = some (boxOf x (.slice a2 x.kids.length cap2)) := five_set hZ
                      have hLW : LiesP (((((wn.setCell ⟨wr.heap.size, 0, none⟩ (.int .i64 x.k)).setCell ⟨wr.heap.size, 1, none⟩ (.int .i64 x.i)).setCell ⟨wr.heap.size, 2, none⟩ (.int .i64 x.j)).setCell ⟨wr.heap.size, 3, none⟩ (.int .i64 x.n)).setCell ⟨wr.heap.size, 4, none⟩ (.slice a2 x.kids.length cap2)) (Own wr.heap.size (((((wn.setCell ⟨wr.heap.size, 0, none⟩ (.int .i64 x.k)).setCell ⟨wr.heap.size, 1, none⟩ (.int .i64 x.i)).setCell ⟨wr.heap.size, 2, none⟩ (.int .i64 x.j)).setCell ⟨wr.heap.size, 3, none⟩ (.int .i64 x.n)).setCell ⟨wr.heap.size, 4, none⟩ (.slice a2 x.kids.length cap2))) x.kids (.slice a2 x.kids.length cap2) := liesP_fives hl2 hgc hnc _ _ _ _ _
                      generalize ((((wn.setCell ⟨wr.heap.size, 0, none⟩ (.int .i64 x.k)).setCell ⟨wr.heap.size, 1, none⟩ (.int .i64 x.i)).setCell ⟨wr.heap.size, 2, none⟩ (.int .i64 x.j)).setCell ⟨wr.heap.size, 3, none⟩ (.int .i64 x.n)).setCell ⟨wr.heap.size, 4, none⟩ (.slice a2 x.kids.length cap2) = W at HKW hN hLW ⊢
                      have HFX := Lib.hid (putG_fine (gAll_fine HUR.out) (HRK.out _ HM.out) (by omega) hr)
                      have HRS := Lib.hid hr
                      obtain ⟨p0, p1, p2, p3, p4⟩ := five_cells hN
                      have HLW := Lib.hid hLW
                      clear hN hLW hr
                      go_wp2_with (at_builtin; refine wpList_append_lies _ rfl _ _ 22 rfl (w.heap.size + 3) 24 i0 _ 5 56 (by kernel_rfl) HI.out.1 HI.out.2.1 HI.out.2.2.1 HI.out.2.2.2 rfl (by decide) _ ps.length (cells5 ps) rfl (made_later (made_later HMD.out HKW.out) ((Below.refl _ _).alloc (Nat.le_refl _) _)).own ⟨W.heap.size, 0, none⟩ 1 1 (cells5 [(x, .slice a2 x.kids.length cap2)]) rfl rfl ?news ?one (by decide) ?max ?bytes ?base _ rfl ?next)
                      case news => first | exact news_new _ _ _ _ | exact fun j u h => h
                      case one => exact one5 _ _
                      case max => have := HPL.out; unfold maxLen; omega
                      case bytes => have := HPL.out; omega
                      case base => have := Below.size HKW.out; simp; omega
                      case next =>
                        intro g3 cap3 w3 hown hgrow hat _
                        have hpb := push_once HDK.out HMD.out HFX.out HKW.out HLW.out _ hown hgrow (by simpa using hat)
                        clear hown hgrow hat
                        go_wp2_with fail
                        go_roundw
                        case rel => exact ⟨q + 1, ps ++ [(x, .slice a2 x.kids.length cap2)], _, rfl, hlt, by go_num, by rw [Hid, optK_next hlt HPS.out HRS.out]; simp, hpb.1, hpb.2⟩
                        case measure => simp [intOf]; omega
                    · have HKW := Lib.hid hHeld.1
                      generalize ((((wn.setCell ⟨wr.heap.size, 0, none⟩ (.int .i64 x.k)).setCell ⟨wr.heap.size, 1, none⟩ (.int .i64 x.i)).setCell ⟨wr.heap.size, 2, none⟩ (.int .i64 x.j)).setCell ⟨wr.heap.size, 3, none⟩ (.int .i64 x.n)).setCell ⟨wr.heap.size, 4, none⟩ (.slice a2 n2 cap2) = W at HKW ⊢
                      have hdW := desk_trans HDK.out (below_from HKW.out hsz)
                      obtain ⟨-, q1, -⟩ := desk_blocks hdW
                      obtain ⟨z0, z1, z2, z3, z4⟩ := five_cells q1
                      obtain ⟨f0, f1, f2, f3, f4⟩ := five_free q1
                      go_wp2
                      (try simp only [Exit.inBlock, Exit.then])
                      refine bodyPost_ret (results_cell_tmp rfl _ _ (w.heap.size + 1) _ _ _ du rfl (five_set q1) hu1 (by cases du <;> first | rfl | exact hu2) size_term) rfl ?_
                      exact ⟨Tm.zero, none, 0, 0, false, rfl, HBP.out.trans ((below_five (desk_under hdW) (by omega) _ _ _ _ _).mono HBP.out.size), Or.inr ⟨rfl, by rw [HEQ.out, optK_stop hlt hr]; rfl⟩⟩
                  exact AllReadyH.nil
                exact AllReadyH.nil
              exact AllReadyH.nil
            exact AllReadyH.nil
          | false =>
            have CALL := Lib.hid (fun w' (h : Kept wr w') => CALL0.out w' h (plainlyB t q) (by rw [Bool.false_or]))
            clear CALL0
            go_wp2_with fail
            refine wp_region_held_drew (S := fun w' => Kept wr w' ∧ w'.cell? ⟨w.heap.size, 0, none⟩ = some (.int .i64 t.k) ∧ w'.cell? ⟨w.heap.size, 1, none⟩ = some (.int .i64 t.i) ∧ w'.cell? ⟨w.heap.size, 2, none⟩ = some (.int .i64 t.j) ∧ w'.cell? ⟨w.heap.size, 3, none⟩ = some (.int .i64 t.n) ∧ w'.cell? ⟨w.heap.size, 4, none⟩ = some (.slice (some ⟨b', o, none⟩) t.kids.length cap) ∧ w'.cell? ⟨b', o + q * 5, none⟩ = some (.int .i64 t.kids[q].k) ∧ w'.cell? ⟨b', o + q * 5 + 1, none⟩ = some (.int .i64 t.kids[q].i) ∧ w'.cell? ⟨b', o + q * 5 + 2, none⟩ = some (.int .i64 t.kids[q].j) ∧ w'.cell? ⟨b', o + q * 5 + 3, none⟩ = some (.int .i64 t.kids[q].n) ∧ w'.cell? ⟨b', o + q * 5 + 4, none⟩ = some (.slice a' t.kids[q].kids.length cap')) (by kernel_rfl) ?_ (fun hHeld => ?_)
            · (try dsimp only)
              (((with_reducible refine all_and ?_ HTC.out HXC.out); repeat (first | with_reducible assumption | with_reducible exact hk0 | with_reducible refine kept_drew ?_ | with_reducible refine kept_alloc ?_ _ | ((with_reducible refine kept_set ?_ ?hh _); (case hh => first | exact Nat.le_refl _ | exact hszp)))))
            refine wpAnyH_take (i := 0) (oi := { dst := some 53, op := Go.Op.fieldAddr 24 (Go.Operand.tmp 4) 4, type := 0, pos := "ref.go:330", after := #[], guard := none }) (v := ?_) rfl (by kernel_rfl) (by kernel_rfl) (by kernel_rfl) (fun _ _ _ h => h) (Or.inl ⟨by rfl, ?_⟩) (by assumption) ?_
            rotate_left 1
            · ((intro w hSw; (try dsimp only at hSw); go_simp) <;> with_reducible rfl)
            (try simp only [Act.put, List.setIfInBounds_toArray, List.set_cons_zero, List.set_cons_succ])
            refine wpAnyH_take (i := 1) (oi := { dst := some 54, op := Go.Op.load 22 (Go.Operand.tmp 53), type := 22, pos := "ref.go:330", after := #[{ on := 0, ground := Go.Ground.data }], guard := none }) (v := ?_) rfl (by kernel_rfl) (by kernel_rfl) (by kernel_rfl) (fun _ _ _ h => h) (Or.inl ⟨by rfl, ?_⟩) (by assumption) ?_
            rotate_left 1
            · ((intro w hSw; (try dsimp only at hSw); go_simp) <;> with_reducible rfl)
            (try simp only [Act.put, List.setIfInBounds_toArray, List.set_cons_zero, List.set_cons_succ])
            refine wpAnyH_take (i := 2) (oi := { dst := some 55, op := Go.Op.move (Go.Operand.tmp 12), type := 3, pos := "ref.go:330", after := #[], guard := none }) (v := ?_) rfl (by kernel_rfl) (by kernel_rfl) (by kernel_rfl) (fun _ _ _ h => h) (Or.inl ⟨by rfl, ?_⟩) (by assumption) ?_
            rotate_left 1
            · ((intro w hSw; (try dsimp only at hSw); go_simp) <;> with_reducible rfl)
            (try simp only [Act.put, List.setIfInBounds_toArray, List.set_cons_zero, List.set_cons_succ])
            refine wpAnyH_take (i := 3) (oi := { dst := some 56, op := Go.Op.indexAddr 22 (Go.Operand.tmp 54) (Go.Operand.tmp 55), type := 0, pos := "ref.go:330", after := #[{ on := 1, ground := Go.Ground.data }, { on := 2, ground := Go.Ground.data }], guard := none }) (v := ?_) rfl (by kernel_rfl) (by kernel_rfl) (by kernel_rfl) (fun _ _ _ h => h) (Or.inl ⟨by rfl, ?_⟩) (by assumption) ?_
            rotate_left 1
            · ((intro w hSw; (try dsimp only at hSw); go_simp) <;> with_reducible rfl)
            (try simp only [Act.put, List.setIfInBounds_toArray, List.set_cons_zero, List.set_cons_succ])
            refine wpAnyH_take (i := 4) (oi := { dst := some 57, op := Go.Op.load 24 (Go.Operand.tmp 56), type := 24, pos := "ref.go:330", after := #[{ on := 3, ground := Go.Ground.data }], guard := none }) (v := ?_) rfl (by kernel_rfl) (by kernel_rfl) (by kernel_rfl) (fun _ _ _ h => h) (Or.inl ⟨by rfl, ?_⟩) (by assumption) ?_
            rotate_left 1
            · ((intro w hSw; (try dsimp only at hSw); go_simp) <;> with_reducible rfl)
            (try simp only [Act.put, List.setIfInBounds_toArray, List.set_cons_zero, List.set_cons_succ])
            refine wpAnyH_take (i := 5) (oi := { dst := some 58, op := Go.Op.move (Go.Operand.tmp 1), type := 22, pos := "ref.go:330", after := #[], guard := none }) (v := ?_) rfl (by kernel_rfl) (by kernel_rfl) (by kernel_rfl) (fun _ _ _ h => h) (Or.inl ⟨by rfl, ?_⟩) (by assumption) ?_
            rotate_left 1
            · ((intro w hSw; (try dsimp only at hSw); go_simp) <;> with_reducible rfl)
            (try simp only [Act.put, List.setIfInBounds_toArray, List.set_cons_zero, List.set_cons_succ])
            refine wpAnyH_take (i := 6) (oi := { dst := some 59, op := Go.Op.move (Go.Operand.tmp 2), type := 3, pos := "ref.go:330", after := #[], guard := none }) (v := ?_) rfl (by kernel_rfl) (by kernel_rfl) (by kernel_rfl) (fun _ _ _ h => h) (Or.inl ⟨by rfl, ?_⟩) (by assumption) ?_
            rotate_left 1
            · ((intro w hSw; (try dsimp only at hSw); go_simp) <;> with_reducible rfl)
            (try simp only [Act.put, List.setIfInBounds_toArray, List.set_cons_zero, List.set_cons_succ])
            refine wpAnyH_take (i := 7) (oi := { dst := some 60, op := Go.Op.fieldAddr 24 (Go.Operand.tmp 4) 0, type := 0, pos := "ref.go:330", after := #[], guard := none }) (v := ?_) rfl (by kernel_rfl) (by kernel_rfl) (by kernel_rfl) (fun _ _ _ h => h) (Or.inl ⟨by rfl, ?_⟩) (by assumption) ?_
            rotate_left 1
            · ((intro w hSw; (try dsimp only at hSw); go_simp) <;> with_reducible rfl)
            (try simp only [Act.put, List.setIfInBounds_toArray, List.set_cons_zero, List.set_cons_succ])
            refine wpAnyH_take (i := 8) (oi := { dst := some 61, op := Go.Op.load 3 (Go.Operand.tmp 60), type := 3, pos := "ref.go:330", after := #[{ on := 7, ground := Go.Ground.data }], guard := none }) (v := ?_) rfl (by kernel_rfl) (by kernel_rfl) (by kernel_rfl) (fun _ _ _ h => h) (Or.inl ⟨by rfl, ?_⟩) (by assumption) ?_
            rotate_left 1
            · ((intro w hSw; (try dsimp only at hSw); go_simp) <;> with_reducible rfl)
            (try simp only [Act.put, List.setIfInBounds_toArray, List.set_cons_zero, List.set_cons_succ])
            refine wpAnyH_take (i := 9) (oi := { dst := some 62, op := Go.Op.move (Go.Operand.tmp 12), type := 3, pos := "ref.go:330", after := #[], guard := none }) (v := ?_) rfl (by kernel_rfl) (by kernel_rfl) (by kernel_rfl) (fun _ _ _ h => h) (Or.inl ⟨by rfl, ?_⟩) (by assumption) ?_
            rotate_left 1
            · ((intro w hSw; (try dsimp only at hSw); go_simp) <;> with_reducible rfl)
            (try simp only [Act.put, List.setIfInBounds_toArray, List.set_cons_zero, List.set_cons_succ])
            refine wpAnyH_take (i := 12) (oi := { dst := some 65, op := Go.Op.move (Go.Operand.tmp 3), type := 4, pos := "ref.go:330", after := #[], guard := none }) (v := ?_) rfl (by kernel_rfl) (by kernel_rfl) (by kernel_rfl) (fun _ _ _ h => h) (Or.inl ⟨by rfl, ?_⟩) (by assumption) ?_
            rotate_left 1
            · ((intro w hSw; (try dsimp only at hSw); go_simp) <;> with_reducible rfl)
            (try simp only [Act.put, List.setIfInBounds_toArray, List.set_cons_zero, List.set_cons_succ])
            refine wpAnyH_ready (rs := [10, 22]) (by kernel_rfl) (by simp) ?_
            refine AllReadyH.cons (o := { dst := some 63, op := Go.Op.call { callee := Go.Callee.value (Go.Operand.func 48), args := #[Go.Operand.tmp 61, Go.Operand.tmp 62], argTypes := #[3, 3] }, type := 3, pos := "ref.go:330", after := #[{ on := 8, ground := Go.Ground.data }, { on := 9, ground := Go.Ground.data }], guard := none }) rfl (fun K hK => ?_) ?_
            · go_simp
              (go_at_call 48; refine (refbinds_any _ _ _).mono ?_; rintro e w' ⟨rfl, rfl⟩)
              refine hK.out _ _ ?_ (fun hHeld => ?_)
              · (try dsimp only)
                (((with_reducible refine all_and ?_ HTC.out HXC.out); repeat (first | with_reducible assumption | with_reducible exact hk0 | with_reducible refine kept_drew ?_ | with_reducible refine kept_alloc ?_ _ | ((with_reducible refine kept_set ?_ ?hh _); (case hh => first | exact Nat.le_refl _ | exact hszp)))))
              clear hK K
              (try simp only [Act.put, List.setIfInBounds_toArray, List.set_cons_zero, List.set_cons_succ])
              refine wpAnyH_take (i := 11) (oi := { dst := some 64, op := Go.Op.binOp Go.BinOp.add 3 (Go.Operand.tmp 59) (Go.Operand.tmp 63) 3, type := 3, pos := "ref.go:330", after := #[{ on := 6, ground := Go.Ground.data }, { on := 10, ground := Go.Ground.data }], guard := none }) (v := ?_) rfl (by kernel_rfl) (by kernel_rfl) (by kernel_rfl) (fun _ _ _ h => h) (Or.inl ⟨by rfl, ?_⟩) (by assumption) ?_
              rotate_left 1
              · ((intro w hSw; (try dsimp only at hSw); go_simp) <;> with_reducible rfl)
              (try simp only [Act.put, List.setIfInBounds_toArray, List.set_cons_zero, List.set_cons_succ])
              refine wpAnyH_take (i := 13) (oi := { dst := some 66, op := Go.Op.move (Go.Operand.tmp 65), type := 4, pos := "ref.go:330", after := #[{ on := 12, ground := Go.Ground.data }, { on := 10, ground := Go.Ground.chain }], guard := none }) (v := ?_) rfl (by kernel_rfl) (by kernel_rfl) (by kernel_rfl) (fun _ _ _ h => h) (Or.inl ⟨by rfl, ?_⟩) (by assumption) ?_
              rotate_left 1
              · ((intro w hSw; (try dsimp only at hSw); go_simp) <;> with_reducible rfl)
              (try simp only [Act.put, List.setIfInBounds_toArray, List.set_cons_zero, List.set_cons_succ])
              refine wpAnyH_take (i := 14) (oi := { dst := some 67, op := Go.Op.load 24 (Go.Operand.tmp 4), type := 24, pos := "ref.go:330", after := #[{ on := 13, ground := Go.Ground.guard }], guard := some (13, false) }) (v := ?_) rfl (by kernel_rfl) (by kernel_rfl) (by kernel_rfl) (fun _ _ _ h => h) (Or.inl ⟨by rfl, ?_⟩) (by assumption) ?_
              rotate_left 1
              · ((intro w hSw; (try dsimp only at hSw); go_simp) <;> with_reducible rfl)
              (try simp only [Act.put, List.setIfInBounds_toArray, List.set_cons_zero, List.set_cons_succ])
              refine wpAnyH_take (i := 15) (oi := { dst := some 68, op := Go.Op.move (Go.Operand.tmp 12), type := 3, pos := "ref.go:330", after := #[{ on := 13, ground := Go.Ground.guard }], guard := some (13, false) }) (v := ?_) rfl (by kernel_rfl) (by kernel_rfl) (by kernel_rfl) (fun _ _ _ h => h) (Or.inl ⟨by rfl, ?_⟩) (by assumption) ?_
              rotate_left 1
              · ((intro w hSw; (try dsimp only at hSw); go_simp) <;> with_reducible rfl)
              (try simp only [Act.put, List.setIfInBounds_toArray, List.set_cons_zero, List.set_cons_succ])
              refine wpAnyH_ready (rs := [16, 22]) (by kernel_rfl) (by simp) ?_
              refine AllReadyH.cons (o := { dst := some 69, op := Go.Op.call { callee := Go.Callee.value (Go.Operand.func 49), args := #[Go.Operand.tmp 67, Go.Operand.tmp 68], argTypes := #[24, 3] }, type := 4, pos := "ref.go:330", after := #[{ on := 14, ground := Go.Ground.data }, { on := 15, ground := Go.Ground.data }, { on := 13, ground := Go.Ground.chain }, { on := 13, ground := Go.Ground.guard }], guard := some (13, false) }) rfl (fun K hK => ?_) ?_
              · go_simp
                (go_at_call 49; have hS := hHeld.1; refine (refplainly_any t q _ _ _ _).mono ?_; rintro e wp ⟨rfl, hbn⟩; have hhp := kept_call hS hbn; have hszp : wr.heap.size ≤ wp.heap.size := Below.size hhp; clear hbn hS)
                refine hK.out _ _ ?_ (fun hHeld => ?_)
                · (try dsimp only)
                  (((with_reducible refine all_and ?_ HTC.out HXC.out); repeat (first | with_reducible assumption | with_reducible exact hk0 | with_reducible refine kept_drew ?_ | with_reducible refine kept_alloc ?_ _ | ((with_reducible refine kept_set ?_ ?hh _); (case hh => first | exact Nat.le_refl _ | exact hszp)))))
                clear hK K
                (try simp only [Act.put, List.setIfInBounds_toArray, List.set_cons_zero, List.set_cons_succ])
                refine wpAnyH_take (i := 17) (oi := { dst := some 70, op := Go.Op.pick (Go.Operand.tmp 66) (Go.Operand.const (Go.Value.bool true)) (Go.Operand.tmp 69), type := 4, pos := "ref.go:330", after := #[{ on := 13, ground := Go.Ground.data }, { on := 16, ground := Go.Ground.data }], guard := none }) (v := ?_) rfl (by kernel_rfl) (by kernel_rfl) (by kernel_rfl) (fun _ _ _ h => h) (Or.inl ⟨by rfl, ?_⟩) (by assumption) ?_
                rotate_left 1
                · ((intro w hSw; (try dsimp only at hSw); go_simp) <;> with_reducible rfl)
                (try simp only [Act.put, List.setIfInBounds_toArray, List.set_cons_zero, List.set_cons_succ])
                refine wpAnyH_ready (rs := [18, 22]) (by kernel_rfl) (by simp) ?_
                refine AllReadyH.cons (o := { dst := some 71, op := Go.Op.call { callee := Go.Callee.value (Go.Operand.func 43), args := #[Go.Operand.tmp 57, Go.Operand.tmp 58, Go.Operand.tmp 64, Go.Operand.tmp 70], argTypes := #[24, 22, 3, 4] }, type := 33, pos := "ref.go:330", after := #[{ on := 4, ground := Go.Ground.data }, { on := 5, ground := Go.Ground.data }, { on := 11, ground := Go.Ground.data }, { on := 17, ground := Go.Ground.data }, { on := 16, ground := Go.Ground.chain }], guard := none }) rfl (fun K hK => ?_) ?_
                · go_simp
                  (go_at_call 43; have hS := hHeld.1; have hnc := Below.size hS; ((with_reducible refine Calls.mono (CALL.out _ hS) ?_); rintro e wn ⟨x, a2, n2, cap2, ok, rfl, hbn, hans⟩; have HANS := Lib.hid hans; have hhn := kept_call hS hbn; clear hans hbn hS))
                  refine hK.out _ _ ?_ (fun hHeld => ?_)
                  · (try dsimp only)
                    (((with_reducible refine all_and ?_ HTC.out HXC.out); repeat (first | with_reducible assumption | with_reducible exact hk0 | with_reducible refine kept_drew ?_ | with_reducible refine kept_alloc ?_ _ | ((with_reducible refine kept_set ?_ ?hh _); (case hh => first | exact Nat.le_refl _ | exact hszp)))))
                  clear hK K
                  (try simp only [Act.put, List.setIfInBounds_toArray, List.set_cons_zero, List.set_cons_succ])
                  refine wpAnyH_take (i := 19) (oi := { dst := some 52, op := Go.Op.move (Go.Operand.tmp 71), type := 33, pos := "ref.go:330", after := #[{ on := 18, ground := Go.Ground.data }], guard := none }) (v := ?_) rfl (by kernel_rfl) (by kernel_rfl) (by kernel_rfl) (fun _ _ _ h => h) (Or.inl ⟨by rfl, ?_⟩) (by assumption) ?_
                  rotate_left 1
                  · ((intro w hSw; (try dsimp only at hSw); go_simp) <;> with_reducible rfl)
                  (try simp only [Act.put, List.setIfInBounds_toArray, List.set_cons_zero, List.set_cons_succ])
                  refine wpAnyH_take (i := 20) (oi := { dst := some 72, op := Go.Op.extract (Go.Operand.tmp 52) 0, type := 24, pos := "ref.go:330", after := #[{ on := 19, ground := Go.Ground.data }], guard := none }) (v := ?_) rfl (by kernel_rfl) (by kernel_rfl) (by kernel_rfl) (fun _ _ _ h => h) (Or.inl ⟨by rfl, ?_⟩) (by assumption) ?_
                  rotate_left 1
                  · ((intro w hSw; (try dsimp only at hSw); go_simp) <;> with_reducible rfl)
                  (try simp only [Act.put, List.setIfInBounds_toArray, List.set_cons_zero, List.set_cons_succ])
                  refine wpAnyH_take (i := 21) (oi := { dst := some 73, op := Go.Op.extract (Go.Operand.tmp 52) 1, type := 4, pos := "ref.go:330", after := #[{ on := 19, ground := Go.Ground.data }, { on := 23, ground := Go.Ground.gcOnly Go.Departure.lateStores }], guard := none }) (v := ?_) rfl (by kernel_rfl) (by kernel_rfl) (by kernel_rfl) (fun _ _ _ h => h) (Or.inl ⟨by rfl, ?_⟩) (by assumption) ?_
                  rotate_left 1
                  · ((intro w hSw; (try dsimp only at hSw); go_simp) <;> with_reducible rfl)
                  (try simp only [Act.put, List.setIfInBounds_toArray, List.set_cons_zero, List.set_cons_succ])
                  refine wpAnyH_ready (rs := [22]) (by kernel_rfl) (by simp) ?_
                  refine AllReadyH.cons (o := { dst := some 13, op := Go.Op.alloc 24, type := 0, pos := "ref.go:330", after := #[], guard := none }) rfl (fun K hK => ?_) ?_
                  · go_simp
                    refine hK.out _ _ ?_ (fun hHeld => ?_)
                    · (try dsimp only)
                      (((with_reducible refine all_and ?_ HTC.out HXC.out); repeat (first | with_reducible assumption | with_reducible exact hk0 | with_reducible refine kept_drew ?_ | with_reducible refine kept_alloc ?_ _ | ((with_reducible refine kept_set ?_ ?hh _); (case hh => first | exact Nat.le_refl _ | exact hszp)))))
                    clear hK K
                    (try simp only [Act.put, List.setIfInBounds_toArray, List.set_cons_zero, List.set_cons_succ])
                    refine wpAnyH_ready (rs := [23]) (by kernel_rfl) (by simp) ?_
                    refine AllReadyH.cons (o := { dst := none, op := Go.Op.store 24 (Go.Operand.tmp 13) (Go.Operand.tmp 72), type := 0, pos := "ref.go:330", after := #[{ on := 22, ground := Go.Ground.data }, { on := 20, ground := Go.Ground.data }, { on := 18, ground := Go.Ground.chain }, { on := 0, ground := Go.Ground.phase }, { on := 1, ground := Go.Ground.phase }, { on := 2, ground := Go.Ground.phase }, { on := 3, ground := Go.Ground.phase }, { on := 4, ground := Go.Ground.phase }, { on := 5, ground := Go.Ground.phase }, { on := 6, ground := Go.Ground.phase }, { on := 7, ground := Go.Ground.phase }, { on := 8, ground := Go.Ground.phase }, { on := 9, ground := Go.Ground.phase }, { on := 10, ground := Go.Ground.phase }, { on := 11, ground := Go.Ground.phase }, { on := 12, ground := Go.Ground.phase }, { on := 13, ground := Go.Ground.phase }, { on := 14, ground := Go.Ground.phase }, { on := 15, ground := Go.Ground.phase }, { on := 16, ground := Go.Ground.phase }, { on := 17, ground := Go.Ground.phase }, { on := 18, ground := Go.Ground.phase }, { on := 19, ground := Go.Ground.phase }, { on := 20, ground := Go.Ground.phase }, { on := 21, ground := Go.Ground.textOnly Go.Departure.lateStores }, { on := 22, ground := Go.Ground.phase }], guard := none }) rfl (fun K hK => ?_) ?_
                    · go_simp
                      refine hK.out _ _ ?_ (fun hHeld => ?_)
                      · (try dsimp only)
                        (((with_reducible refine all_and ?_ HTC.out HXC.out); repeat (first | with_reducible assumption | with_reducible exact hk0 | with_reducible refine kept_drew ?_ | with_reducible refine kept_alloc ?_ _ | ((with_reducible refine kept_set ?_ ?hh _); (case hh => first | exact Nat.le_refl _ | exact hszp)))))
                      clear hK K
                      (try simp only [Act.put, List.setIfInBounds_toArray, List.set_cons_zero, List.set_cons_succ])
                      refine wpAnyH_take (i := 24) (oi := { dst := some 14, op := Go.Op.assign (Go.Operand.tmp 73), type := 4, pos := "ref.go:330", after := #[{ on := 21, ground := Go.Ground.data }, { on := 23, ground := Go.Ground.chain }, { on := 0, ground := Go.Ground.phase }, { on := 1, ground := Go.Ground.phase }, { on := 2, ground := Go.Ground.phase }, { on := 3, ground := Go.Ground.phase }, { on := 4, ground := Go.Ground.phase }, { on := 5, ground := Go.Ground.phase }, { on := 6, ground := Go.Ground.phase }, { on := 7, ground := Go.Ground.phase }, { on := 8, ground := Go.Ground.phase }, { on := 9, ground := Go.Ground.phase }, { on := 10, ground := Go.Ground.phase }, { on := 11, ground := Go.Ground.phase }, { on := 12, ground := Go.Ground.phase }, { on := 13, ground := Go.Ground.phase }, { on := 14, ground := Go.Ground.phase }, { on := 15, ground := Go.Ground.phase }, { on := 16, ground := Go.Ground.phase }, { on := 17, ground := Go.Ground.phase }, { on := 18, ground := Go.Ground.phase }, { on := 19, ground := Go.Ground.phase }, { on := 20, ground := Go.Ground.phase }, { on := 21, ground := Go.Ground.phase }, { on := 22, ground := Go.Ground.phase }, { on := 23, ground := Go.Ground.phase }], guard := none }) (v := ?_) rfl (by kernel_rfl) (by kernel_rfl) (by kernel_rfl) (fun _ _ _ h => h) (Or.inl ⟨by rfl, ?_⟩) (by assumption) ?_
                      rotate_left 1
                      · ((intro w hSw; (try dsimp only at hSw); go_simp) <;> with_reducible rfl)
                      (try simp only [Act.put, List.setIfInBounds_toArray, List.set_cons_zero, List.set_cons_succ])
                      refine wpAnyH_done (by kernel_rfl) ?_ _
                      have hHold := True.intro
                      clear hHold
                      rcases HANS.out with ⟨rfl, hr, rfl, hl2⟩ | ⟨rfl, hr⟩
                      · have HKW := Lib.hid hHeld.1
                        have hN : (wn.alloc (.cells #[.int .i64 x.k, .int .i64 x.i, .int .i64 x.j, .int .i64 x.n, .slice a2 x.kids.length cap2] 24)).heap[wn.heap.size]? = some (boxOf x (.slice a2 x.kids.length cap2)) := alloc_new _ _
                        have hLW : LiesP (wn.alloc (.cells #[.int .i64 x.k, .int .i64 x.i, .int .i64 x.j, .int .i64 x.n, .slice a2 x.kids.length cap2] 24)) (Own wr.heap.size (wn.alloc (.cells #[.int .i64 x.k, .int .i64 x.i, .int .i64 x.j, .int .i64 x.n, .slice a2 x.kids.length cap2] 24))) x.kids (.slice a2 x.kids.length cap2) := (hl2.from hnc).later ((Below.refl _ _).alloc (Nat.le_refl _) _)
                        generalize wn.alloc (.cells #[.int .i64 x.k, .int .i64 x.i, .int .i64 x.j, .int .i64 x.n, .slice a2 x.kids.length cap2] 24) = W at HKW hN hLW ⊢
                        have HFX := Lib.hid (putG_fine (gAll_fine HUR.out) (HRK.out _ HM.out) (by omega) hr)
                        have HRS := Lib.hid hr
                        obtain ⟨p0, p1, p2, p3, p4⟩ := five_cells hN
                        have HLW := Lib.hid hLW
                        clear hN hLW hr
                        go_wp2_with (at_builtin; refine wpList_append_lies _ rfl _ _ 22 rfl (w.heap.size + 3) 24 i0 _ 5 56 (by kernel_rfl) HI.out.1 HI.out.2.1 HI.out.2.2.1 HI.out.2.2.2 rfl (by decide) _ ps.length (cells5 ps) rfl (made_later (made_later HMD.out HKW.out) ((Below.refl _ _).alloc (Nat.le_refl _) _)).own ⟨W.heap.size, 0, none⟩ 1 1 (cells5 [(x, .slice a2 x.kids.length cap2)]) rfl rfl ?news ?one (by decide) ?max ?bytes ?base _ rfl ?next)
                        case news => first | exact news_new _ _ _ _ | exact fun j u h => h
                        case one => exact one5 _ _
                        case max => have := HPL.out; unfold maxLen; omega
                        case bytes => have := HPL.out; omega
                        case base => have := Below.size HKW.out; simp; omega
                        case next =>
                          intro g3 cap3 w3 hown hgrow hat _
                          have hpb := push_once HDK.out HMD.out HFX.out HKW.out HLW.out _ hown hgrow (by simpa using hat)
                          clear hown hgrow hat
                          go_wp2_with fail
                          go_roundw
                          case rel => exact ⟨q + 1, ps ++ [(x, .slice a2 x.kids.length cap2)], _, rfl, hlt, by go_num, by rw [Hid, optK_next hlt HPS.out HRS.out]; simp, hpb.1, hpb.2⟩
                          case measure => simp [intOf]; omega
                      · have HKW := Lib.hid hHeld.1
                        generalize wn.alloc (.cells #[.int .i64 x.k, .int .i64 x.i, .int .i64 x.j, .int .i64 x.n, .slice a2 n2 cap2] 24) = W at HKW ⊢
                        have hdW := desk_trans HDK.out (below_from HKW.out hsz)
                        obtain ⟨-, q1, -⟩ := desk_blocks hdW
                        obtain ⟨z0, z1, z2, z3, z4⟩ := five_cells q1
                        obtain ⟨f0, f1, f2, f3, f4⟩ := five_free q1
                        go_wp2
                        (try simp only [Exit.inBlock, Exit.then])
                        refine bodyPost_ret (results_cell_tmp rfl _ _ (w.heap.size + 1) _ _ _ du rfl (five_set q1) hu1 (by cases du <;> first | rfl | exact hu2) size_term) rfl ?_
                        exact ⟨Tm.zero, none, 0, 0, false, rfl, HBP.out.trans ((below_five (desk_under hdW) (by omega) _ _ _ _ _).mono HBP.out.size), Or.inr ⟨rfl, by rw [HEQ.out, optK_stop hlt hr]; rfl⟩⟩
                    exact AllReadyH.nil
                  exact AllReadyH.nil
                refine AllReadyH.cons (o := { dst := some 13, op := Go.Op.alloc 24, type := 0, pos := "ref.go:330", after := #[], guard := none }) rfl (fun K hK => ?_) ?_
                · go_simp
                  refine hK.out _ _ ?_ (fun hHeld => ?_)
                  · (try dsimp only)
                    (((with_reducible refine all_and ?_ HTC.out HXC.out); repeat (first | with_reducible assumption | with_reducible exact hk0 | with_reducible refine kept_drew ?_ | with_reducible refine kept_alloc ?_ _ | ((with_reducible refine kept_set ?_ ?hh _); (case hh => first | exact Nat.le_refl _ | exact hszp)))))
                  clear hK K
                  (try simp only [Act.put, List.setIfInBounds_toArray, List.set_cons_zero, List.set_cons_succ])
                  have hZ : (wp.alloc zeroObj).heap[wp.heap.size]? = some zeroObj := alloc_new _ _
                  refine wpAnyH_ready (rs := [18]) (by kernel_rfl) (by simp) ?_
                  refine AllReadyH.cons (o := { dst := some 71, op := Go.Op.call { callee := Go.Callee.value (Go.Operand.func 43), args := #[Go.Operand.tmp 57, Go.Operand.tmp 58, Go.Operand.tmp 64, Go.Operand.tmp 70], argTypes := #[24, 22, 3, 4] }, type := 33, pos := "ref.go:330", after := #[{ on := 4, ground := Go.Ground.data }, { on := 5, ground := Go.Ground.data }, { on := 11, ground := Go.Ground.data }, { on := 17, ground := Go.Ground.data }, { on := 16, ground := Go.Ground.chain }], guard := none }) rfl (fun K hK => ?_) ?_
                  · go_simp
                    (go_at_call 43; have hS := hHeld.1; have hnc := Below.size hS; have hgc := block_lt hZ; ((with_reducible refine Calls.mono (CALL.out _ hS) ?_); rintro e wn ⟨x, a2, n2, cap2, ok, rfl, hbn, hans⟩; have HANS := Lib.hid hans; have hhn := kept_call hS hbn; have hZ := keep_block hbn (block_lt hZ) hZ; obtain ⟨⟨g0, g1, g2, g3, g4⟩, v0, v1, v2, v3, v4⟩ := And.intro (five_cells hZ) (five_free hZ); clear hans hbn hS))
                    refine hK.out _ _ ?_ (fun hHeld => ?_)
                    · (try dsimp only)
                      (((with_reducible refine all_and ?_ HTC.out HXC.out); repeat (first | with_reducible assumption | with_reducible exact hk0 | with_reducible refine kept_drew ?_ | with_reducible refine kept_alloc ?_ _ | ((with_reducible refine kept_set ?_ ?hh _); (case hh => first | exact Nat.le_refl _ | exact hszp)))))
                    clear hK K
                    (try simp only [Act.put, List.setIfInBounds_toArray, List.set_cons_zero, List.set_cons_succ])
                    refine wpAnyH_take (i := 19) (oi := { dst := some 52, op := Go.Op.move (Go.Operand.tmp 71), type := 33, pos := "ref.go:330", after := #[{ on := 18, ground := Go.Ground.data }], guard := none }) (v := ?_) rfl (by kernel_rfl) (by kernel_rfl) (by kernel_rfl) (fun _ _ _ h => h) (Or.inl ⟨by rfl, ?_⟩) (by assumption) ?_
                    rotate_left 1
                    · ((intro w hSw; (try dsimp only at hSw); go_simp) <;> with_reducible rfl)
                    (try simp only [Act.put, List.setIfInBounds_toArray, List.set_cons_zero, List.set_cons_succ])
                    refine wpAnyH_take (i := 20) (oi := { dst := some 72, op := Go.Op.extract (Go.Operand.tmp 52) 0, type := 24, pos := "ref.go:330", after := #[{ on := 19, ground := Go.Ground.data }], guard := none }) (v := ?_) rfl (by kernel_rfl) (by kernel_rfl) (by kernel_rfl) (fun _ _ _ h => h) (Or.inl ⟨by rfl, ?_⟩) (by assumption) ?_
                    rotate_left 1
                    · ((intro w hSw; (try dsimp only at hSw); go_simp) <;> with_reducible rfl)
                    (try simp only [Act.put, List.setIfInBounds_toArray, List.set_cons_zero, List.set_cons_succ])
                    refine wpAnyH_take (i := 21) (oi := { dst := some 73, op := Go.Op.extract (Go.Operand.tmp 52) 1, type := 4, pos := "ref.go:330", after := #[{ on := 19, ground := Go.Ground.data }, { on := 23, ground := Go.Ground.gcOnly Go.Departure.lateStores }], guard := none }) (v := ?_) rfl (by kernel_rfl) (by kernel_rfl) (by kernel_rfl) (fun _ _ _ h => h) (Or.inl ⟨by rfl, ?_⟩) (by assumption) ?_
                    rotate_left 1
                    · ((intro w hSw; (try dsimp only at hSw); go_simp) <;> with_reducible rfl)
                    (try simp only [Act.put, List.setIfInBounds_toArray, List.set_cons_zero, List.set_cons_succ])
                    refine wpAnyH_ready (rs := [23]) (by kernel_rfl) (by simp) ?_
                    refine AllReadyH.cons (o := { dst := none, op := Go.Op.store 24 (Go.Operand.tmp 13) (Go.Operand.tmp 72), type := 0, pos := "ref.go:330", after := #[{ on := 22, ground := Go.Ground.data }, { on := 20, ground := Go.Ground.data }, { on := 18, ground := Go.Ground.chain }, { on := 0, ground := Go.Ground.phase }, { on := 1, ground := Go.Ground.phase }, { on := 2, ground := Go.Ground.phase }, { on := 3, ground := Go.Ground.phase }, { on := 4, ground := Go.Ground.phase }, { on := 5, ground := Go.Ground.phase }, { on := 6, ground := Go.Ground.phase }, { on := 7, ground := Go.Ground.phase }, { on := 8, ground := Go.Ground.phase }, { on := 9, ground := Go.Ground.phase }, { on := 10, ground := Go.Ground.phase }, { on := 11, ground := Go.Ground.phase }, { on := 12, ground := Go.Ground.phase }, { on := 13, ground := Go.Ground.phase }, { on := 14, ground := Go.Ground.phase }, { on := 15, ground := Go.Ground.phase }, { on := 16, ground := Go.Ground.phase }, { on := 17, ground := Go.Ground.phase }, { on := 18, ground := Go.Ground.phase }, { on := 19, ground := Go.Ground.phase }, { on := 20, ground := Go.Ground.phase }, { on := 21, ground := Go.Ground.textOnly Go.Departure.lateStores }, { on := 22, ground := Go.Ground.phase }], guard := none }) rfl (fun K hK => ?_) ?_
                    · go_simp
                      refine hK.out _ _ ?_ (fun hHeld => ?_)
                      · (try dsimp only)
                        (((with_reducible refine all_and ?_ HTC.out HXC.out); repeat (first | with_reducible assumption | with_reducible exact hk0 | with_reducible refine kept_drew ?_ | with_reducible refine kept_alloc ?_ _ | ((with_reducible refine kept_set ?_ ?hh _); (case hh => first | exact Nat.le_refl _ | exact hszp)))))
                      clear hK K
                      (try simp only [Act.put, List.setIfInBounds_toArray, List.set_cons_zero, List.set_cons_succ])
                      refine wpAnyH_take (i := 24) (oi := { dst := some 14, op := Go.Op.assign (Go.Operand.tmp 73), type := 4, pos := "ref.go:330", after := #[{ on := 21, ground := Go.Ground.data }, { on := 23, ground := Go.Ground.chain }, { on := 0, ground := Go.Ground.phase }, { on := 1, ground := Go.Ground.phase }, { on := 2, ground := Go.Ground.phase }, { on := 3, ground := Go.Ground.phase }, { on := 4, ground := Go.Ground.phase }, { on := 5, ground := Go.Ground.phase }, { on := 6, ground := Go.Ground.phase }, { on := 7, ground := Go.Ground.phase }, { on := 8, ground := Go.Ground.phase }, { on := 9, ground := Go.Ground.phase }, { on := 10, ground := Go.Ground.phase }, { on := 11, ground := Go.Ground.phase }, { on := 12, ground := Go.Ground.phase }, { on := 13, ground := Go.Ground.phase }, { on := 14, ground := Go.Ground.phase }, { on := 15, ground := Go.Ground.phase }, { on := 16, ground := Go.Ground.phase }, { on := 17, ground := Go.Ground.phase }, { on := 18, ground := Go.Ground.phase }, { on := 19, ground := Go.Ground.phase }, { on := 20, ground := Go.Ground.phase }, { on := 21, ground := Go.Ground.phase }, { on := 22, ground := Go.Ground.phase }, { on := 23, ground := Go.Ground.phase }], guard := none }) (v := ?_) rfl (by kernel_rfl) (by kernel_rfl) (by kernel_rfl) (fun _ _ _ h => h) (Or.inl ⟨by rfl, ?_⟩) (by assumption) ?_
                      rotate_left 1
                      · ((intro w hSw; (try dsimp only at hSw); go_simp) <;> with_reducible rfl)
                      (try simp only [Act.put, List.setIfInBounds_toArray, List.set_cons_zero, List.set_cons_succ])
                      refine wpAnyH_done (by kernel_rfl) ?_ _
                      have hHold := True.intro
                      clear hHold
                      rcases HANS.out with ⟨rfl, hr, rfl, hl2⟩ | ⟨rfl, hr⟩
                      · have HKW := Lib.hid hHeld.1
                        have hN : (((((wn.setCell ⟨wp.heap.size, 0, none⟩ (.int .i64 x.k)).setCell ⟨wp.heap.size, 1, none⟩ (.int .i64 x.i)).setCell ⟨wp.heap.size, 2, none⟩ (.int .i64 x.j)).setCell ⟨wp.heap.size, 3, none⟩ (.int .i64 x.n)).setCell ⟨wp.heap.size, 4, none⟩ (.slice a2 x.kids.length cap2)).heap[wp.heap.size]? = some (boxOf x (.slice a2 x.kids.length cap2)) := five_set hZ
                        have hLW : LiesP (((((wn.setCell ⟨wp.heap.size, 0, none⟩ (.int .i64 x.k)).setCell ⟨wp.heap.size, 1, none⟩ (.int .i64 x.i)).setCell ⟨wp.heap.size, 2, none⟩ (.int .i64 x.j)).setCell ⟨wp.heap.size, 3, none⟩ (.int .i64 x.n)).setCell ⟨wp.heap.size, 4, none⟩ (.slice a2 x.kids.length cap2)) (Own wr.heap.size (((((wn.setCell ⟨wp.heap.size, 0, none⟩ (.int .i64 x.k)).setCell ⟨wp.heap.size, 1, none⟩ (.int .i64 x.i)).setCell ⟨wp.heap.size, 2, none⟩ (.int .i64 x.j)).setCell ⟨wp.heap.size, 3, none⟩ (.int .i64 x.n)).setCell ⟨wp.heap.size, 4, none⟩ (.slice a2 x.kids.length cap2))) x.kids (.slice a2 x.kids.length cap2) := liesP_fives hl2 hgc hnc _ _ _ _ _
                        generalize ((((wn.setCell ⟨wp.heap.size, 0, none⟩ (.int .i64 x.k)).setCell ⟨wp.heap.size, 1, none⟩ (.int .i64 x.i)).setCell ⟨wp.heap.size, 2, none⟩ (.int .i64 x.j)).setCell ⟨wp.heap.size, 3, none⟩ (.int .i64 x.n)).setCell ⟨wp.heap.size, 4, none⟩ (.slice a2 x.kids.length cap2) = W at HKW hN hLW ⊢
                        have HFX := Lib.hid (putG_fine (gAll_fine HUR.out) (HRK.out _ HM.out) (by omega) hr)
                        have HRS := Lib.hid hr
                        obtain ⟨p0, p1, p2, p3, p4⟩ := five_cells hN
                        have HLW := Lib.hid hLW
                        clear hN hLW hr
                        go_wp2_with (at_builtin; refine wpList_append_lies _ rfl _ _ 22 rfl (w.heap.size + 3) 24 i0 _ 5 56 (by kernel_rfl) HI.out.1 HI.out.2.1 HI.out.2.2.1 HI.out.2.2.2 rfl (by decide) _ ps.length (cells5 ps) rfl (made_later (made_later HMD.out HKW.out) ((Below.refl _ _).alloc (Nat.le_refl _) _)).own ⟨W.heap.size, 0, none⟩ 1 1 (cells5 [(x, .slice a2 x.kids.length cap2)]) rfl rfl ?news ?one (by decide) ?max ?bytes ?base _ rfl ?next)
                        case news => first | exact news_new _ _ _ _ | exact fun j u h => h
                        case one => exact one5 _ _
                        case max => have := HPL.out; unfold maxLen; omega
                        case bytes => have := HPL.out; omega
                        case base => have := Below.size HKW.out; simp; omega
                        case next =>
                          intro g3 cap3 w3 hown hgrow hat _
                          have hpb := push_once HDK.out HMD.out HFX.out HKW.out HLW.out _ hown hgrow (by simpa using hat)
                          clear hown hgrow hat
                          go_wp2_with fail
                          go_roundw
                          case rel => exact ⟨q + 1, ps ++ [(x, .slice a2 x.kids.length cap2)], _, rfl, hlt, by go_num, by rw [Hid, optK_next hlt HPS.out HRS.out]; simp, hpb.1, hpb.2⟩
                          case measure => simp [intOf]; omega
                      · have HKW := Lib.hid hHeld.1
                        generalize ((((wn.setCell ⟨wp.heap.size, 0, none⟩ (.int .i64 x.k)).setCell ⟨wp.heap.size, 1, none⟩ (.int .i64 x.i)).setCell ⟨wp.heap.size, 2, none⟩ (.int .i64 x.j)).setCell ⟨wp.heap.size, 3, none⟩ (.int .i64 x.n)).setCell ⟨wp.heap.size, 4, none⟩ (.slice a2 n2 cap2) = W at HKW ⊢
                        have hdW := desk_trans HDK.out (below_from HKW.out hsz)
                        obtain ⟨-, q1, -⟩ := desk_blocks hdW
                        obtain ⟨z0, z1, z2, z3, z4⟩ := five_cells q1
                        obtain ⟨f0, f1, f2, f3, f4⟩ := five_free q1
                        go_wp2
                        (try simp only [Exit.inBlock, Exit.then])
                        refine bodyPost_ret (results_cell_tmp rfl _ _ (w.heap.size + 1) _ _ _ du rfl (five_set q1) hu1 (by cases du <;> first | rfl | exact hu2) size_term) rfl ?_
                        exact ⟨Tm.zero, none, 0, 0, false, rfl, HBP.out.trans ((below_five (desk_under hdW) (by omega) _ _ _ _ _).mono HBP.out.size), Or.inr ⟨rfl, by rw [HEQ.out, optK_stop hlt hr]; rfl⟩⟩
                    exact AllReadyH.nil
                  exact AllReadyH.nil
                exact AllReadyH.nil
              refine AllReadyH.cons (o := { dst := some 13, op := Go.Op.alloc 24, type := 0, pos := "ref.go:330", after := #[], guard := none }) rfl (fun K hK => ?_) ?_
              · go_simp
                refine hK.out _ _ ?_ (fun hHeld => ?_)
                · (try dsimp only)
                  (((with_reducible refine all_and ?_ HTC.out HXC.out); repeat (first | with_reducible assumption | with_reducible exact hk0 | with_reducible refine kept_drew ?_ | with_reducible refine kept_alloc ?_ _ | ((with_reducible refine kept_set ?_ ?hh _); (case hh => first | exact Nat.le_refl _ | exact hszp)))))
                clear hK K
                (try simp only [Act.put, List.setIfInBounds_toArray, List.set_cons_zero, List.set_cons_succ])
                have hZ : (wr.drew.alloc zeroObj).heap[wr.heap.size]? = some zeroObj := alloc_new _ _
                refine wpAnyH_ready (rs := [16]) (by kernel_rfl) (by simp) ?_
                refine AllReadyH.cons (o := { dst := some 69, op := Go.Op.call { callee := Go.Callee.value (Go.Operand.func 49), args := #[Go.Operand.tmp 67, Go.Operand.tmp 68], argTypes := #[24, 3] }, type := 4, pos := "ref.go:330", after := #[{ on := 14, ground := Go.Ground.data }, { on := 15, ground := Go.Ground.data }, { on := 13, ground := Go.Ground.chain }, { on := 13, ground := Go.Ground.guard }], guard := some (13, false) }) rfl (fun K hK => ?_) ?_
                · go_simp
                  (go_at_call 49; have hS := hHeld.1; refine (refplainly_any t q _ _ _ _).mono ?_; rintro e wp ⟨rfl, hbn⟩; have hhp := kept_call hS hbn; have hszp : wr.heap.size ≤ wp.heap.size := Below.size hhp; have hZ := keep_block hbn (block_lt hZ) hZ; clear hbn hS)
                  refine hK.out _ _ ?_ (fun hHeld => ?_)
                  · (try dsimp only)
                    (((with_reducible refine all_and ?_ HTC.out HXC.out); repeat (first | with_reducible assumption | with_reducible exact hk0 | with_reducible refine kept_drew ?_ | with_reducible refine kept_alloc ?_ _ | ((with_reducible refine kept_set ?_ ?hh _); (case hh => first | exact Nat.le_refl _ | exact hszp)))))
                  clear hK K
                  (try simp only [Act.put, List.setIfInBounds_toArray, List.set_cons_zero, List.set_cons_succ])
                  refine wpAnyH_take (i := 17) (oi := { dst := some 70, op := Go.Op.pick (Go.Operand.tmp 66) (Go.Operand.const (Go.Value.bool true)) (Go.Operand.tmp 69), type := 4, pos := "ref.go:330", after := #[{ on := 13, ground := Go.Ground.data }, { on := 16, ground := Go.Ground.data }], guard := none }) (v := ?_) rfl (by kernel_rfl) (by kernel_rfl) (by kernel_rfl) (fun _ _ _ h => h) (Or.inl ⟨by rfl, ?_⟩) (by assumption) ?_
                  rotate_left 1
                  · ((intro w hSw; (try dsimp only at hSw); go_simp) <;> with_reducible rfl)
                  (try simp only [Act.put, List.setIfInBounds_toArray, List.set_cons_zero, List.set_cons_succ])
                  refine wpAnyH_ready (rs := [18]) (by kernel_rfl) (by simp) ?_
                  refine AllReadyH.cons (o := { dst := some 71, op := Go.Op.call { callee := Go.Callee.value (Go.Operand.func 43), args := #[Go.Operand.tmp 57, Go.Operand.tmp 58, Go.Operand.tmp 64, Go.Operand.tmp 70], argTypes := #[24, 22, 3, 4] }, type := 33, pos := "ref.go:330", after := #[{ on := 4, ground := Go.Ground.data }, { on := 5, ground := Go.Ground.data }, { on := 11, ground := Go.Ground.data }, { on := 17, ground := Go.Ground.data }, { on := 16, ground := Go.Ground.chain }], guard := none }) rfl (fun K hK => ?_) ?_
                  · go_simp
                    (go_at_call 43; have hS := hHeld.1; have hnc := Below.size hS; have hgc := block_lt hZ; ((with_reducible refine Calls.mono (CALL.out _ hS) ?_); rintro e wn ⟨x, a2, n2, cap2, ok, rfl, hbn, hans⟩; have HANS := Lib.hid hans; have hhn := kept_call hS hbn; have hZ := keep_block hbn (block_lt hZ) hZ; obtain ⟨⟨g0, g1, g2, g3, g4⟩, v0, v1, v2, v3, v4⟩ := And.intro (five_cells hZ) (five_free hZ); clear hans hbn hS))
                    refine hK.out _ _ ?_ (fun hHeld => ?_)
                    · (try dsimp only)
                      (((with_reducible refine all_and ?_ HTC.out HXC.out); repeat (first | with_reducible assumption | with_reducible exact hk0 | with_reducible refine kept_drew ?_ | with_reducible refine kept_alloc ?_ _ | ((with_reducible refine kept_set ?_ ?hh _); (case hh => first | exact Nat.le_refl _ | exact hszp)))))
                    clear hK K
                    (try simp only [Act.put, List.setIfInBounds_toArray, List.set_cons_zero, List.set_cons_succ])
                    refine wpAnyH_take (i := 19) (oi := { dst := some 52, op := Go.Op.move (Go.Operand.tmp 71), type := 33, pos := "ref.go:330", after := #[{ on := 18, ground := Go.Ground.data }], guard := none }) (v := ?_) rfl (by kernel_rfl) (by kernel_rfl) (by kernel_rfl) (fun _ _ _ h => h) (Or.inl ⟨by rfl, ?_⟩) (by assumption) ?_
                    rotate_left 1
                    · ((intro w hSw; (try dsimp only at hSw); go_simp) <;> with_reducible rfl)
                    (try simp only [Act.put, List.setIfInBounds_toArray, List.set_cons_zero, List.set_cons_succ])
                    refine wpAnyH_take (i := 20) (oi := { dst := some 72, op := Go.Op.extract (Go.Operand.tmp 52) 0, type := 24, pos := "ref.go:330", after := #[{ on := 19, ground := Go.Ground.data }], guard := none }) (v := ?_) rfl (by kernel_rfl) (by kernel_rfl) (by kernel_rfl) (fun _ _ _ h => h) (Or.inl ⟨by rfl, ?_⟩) (by assumption) ?_
                    rotate_left 1
                    · ((intro w hSw; (try dsimp only at hSw); go_simp) <;> with_reducible rfl)
                    (try simp only [Act.put, List.setIfInBounds_toArray, List.set_cons_zero, List.set_cons_succ])
                    refine wpAnyH_take (i := 21) (oi := { dst := some 73, op := Go.Op.extract (Go.Operand.tmp 52) 1, type := 4, pos := "ref.go:330", after := #[{ on := 19, ground := Go.Ground.data }, { on := 23, ground := Go.Ground.gcOnly Go.Departure.lateStores }], guard := none }) (v := ?_) rfl (by kernel_rfl) (by kernel_rfl) (by kernel_rfl) (fun _ _ _ h => h) (Or.inl ⟨by rfl, ?_⟩) (by assumption) ?_
                    rotate_left 1
                    · ((intro w hSw; (try dsimp only at hSw); go_simp) <;> with_reducible rfl)
                    (try simp only [Act.put, List.setIfInBounds_toArray, List.set_cons_zero, List.set_cons_succ])
                    refine wpAnyH_ready (rs := [23]) (by kernel_rfl) (by simp) ?_
                    refine AllReadyH.cons (o := { dst := none, op := Go.Op.store 24 (Go.Operand.tmp 13) (Go.Operand.tmp 72), type := 0, pos := "ref.go:330", after := #[{ on := 22, ground := Go.Ground.data }, { on := 20, ground := Go.Ground.data }, { on := 18, ground := Go.Ground.chain }, { on := 0, ground := Go.Ground.phase }, { on := 1, ground := Go.Ground.phase }, { on := 2, ground := Go.Ground.phase }, { on := 3, ground := Go.Ground.phase }, { on := 4, ground := Go.Ground.phase }, { on := 5, ground := Go.Ground.phase }, { on := 6, ground := Go.Ground.phase }, { on := 7, ground := Go.Ground.phase }, { on := 8, ground := Go.Ground.phase }, { on := 9, ground := Go.Ground.phase }, { on := 10, ground := Go.Ground.phase }, { on := 11, ground := Go.Ground.phase }, { on := 12, ground := Go.Ground.phase }, { on := 13, ground := Go.Ground.phase }, { on := 14, ground := Go.Ground.phase }, { on := 15, ground := Go.Ground.phase }, { on := 16, ground := Go.Ground.phase }, { on := 17, ground := Go.Ground.phase }, { on := 18, ground := Go.Ground.phase }, { on := 19, ground := Go.Ground.phase }, { on := 20, ground := Go.Ground.phase }, { on := 21, ground := Go.Ground.textOnly Go.Departure.lateStores }, { on := 22, ground := Go.Ground.phase }], guard := none }) rfl (fun K hK => ?_) ?_
                    · go_simp
                      refine hK.out _ _ ?_ (fun hHeld => ?_)
                      · (try dsimp only)
                        (((with_reducible refine all_and ?_ HTC.out HXC.out); repeat (first | with_reducible assumption | with_reducible exact hk0 | with_reducible refine kept_drew ?_ | with_reducible refine kept_alloc ?_ _ | ((with_reducible refine kept_set ?_ ?hh _); (case hh => first | exact Nat.le_refl _ | exact hszp)))))
                      clear hK K
                      (try simp only [Act.put, List.setIfInBounds_toArray, List.set_cons_zero, List.set_cons_succ])
                      refine wpAnyH_take (i := 24) (oi := { dst := some 14, op := Go.Op.assign (Go.Operand.tmp 73), type := 4, pos := "ref.go:330", after := #[{ on := 21, ground := Go.Ground.data }, { on := 23, ground := Go.Ground.chain }, { on := 0, ground := Go.Ground.phase }, { on := 1, ground := Go.Ground.phase }, { on := 2, ground := Go.Ground.phase }, { on := 3, ground := Go.Ground.phase }, { on := 4, ground := Go.Ground.phase }, { on := 5, ground := Go.Ground.phase }, { on := 6, ground := Go.Ground.phase }, { on := 7, ground := Go.Ground.phase }, { on := 8, ground := Go.Ground.phase }, { on := 9, ground := Go.Ground.phase }, { on := 10, ground := Go.Ground.phase }, { on := 11, ground := Go.Ground.phase }, { on := 12, ground := Go.Ground.phase }, { on := 13, ground := Go.Ground.phase }, { on := 14, ground := Go.Ground.phase }, { on := 15, ground := Go.Ground.phase }, { on := 16, ground := Go.Ground.phase }, { on := 17, ground := Go.Ground.phase }, { on := 18, ground := Go.Ground.phase }, { on := 19, ground := Go.Ground.phase }, { on := 20, ground := Go.Ground.phase }, { on := 21, ground := Go.Ground.phase }, { on := 22, ground := Go.Ground.phase }, { on := 23, ground := Go.Ground.phase }], guard := none }) (v := ?_) rfl (by kernel_rfl) (by kernel_rfl) (by kernel_rfl) (fun _ _ _ h => h) (Or.inl ⟨by rfl, ?_⟩) (by assumption) ?_
                      rotate_left 1
                      · ((intro w hSw; (try dsimp only at hSw); go_simp) <;> with_reducible rfl)
                      (try simp only [Act.put, List.setIfInBounds_toArray, List.set_cons_zero, List.set_cons_succ])
                      refine wpAnyH_done (by kernel_rfl) ?_ _
                      have hHold := True.intro
                      clear hHold
                      rcases HANS.out with ⟨rfl, hr, rfl, hl2⟩ | ⟨rfl, hr⟩
                      · have HKW := Lib.hid hHeld.1
                        have hN : (((((wn.setCell ⟨wr.heap.size, 0, none⟩ (.int .i64 x.k)).setCell ⟨wr.heap.size, 1, none⟩ (.int .i64 x.i)).setCell ⟨wr.heap.size, 2, none⟩ (.int .i64 x.j)).setCell ⟨wr.heap.size, 3, none⟩ (.int .i64 x.n)).setCell ⟨wr.heap.size, 4, none⟩ (.slice a2 x.kids.length cap2)).heap[wr.heap.size]? = some (boxOf x (.slice a2 x.kids.length cap2)) := five_set hZ
                        have hLW : LiesP (((((wn.setCell ⟨wr.heap.size, 0, none⟩ (.int .i64 x.k)).setCell ⟨wr.heap.size, 1, none⟩ (.int .i64 x.i)).setCell ⟨wr.heap.size, 2, none⟩ (.int .i64 x.j)).setCell ⟨wr.heap.size, 3, none⟩ (.int .i64 x.n)).setCell ⟨wr.heap.size, 4, none⟩ (.slice a2 x.kids.length cap2)) (Own wr.heap.size (((((wn.setCell ⟨wr.heap.size, 0, none⟩ (.int .i64 x.k)).setCell ⟨wr.heap.size, 1, none⟩ (.int .i64 x.i)).setCell ⟨wr.heap.size, 2, none⟩ (.int .i64 x.j)).setCell ⟨wr.heap.size, 3, none⟩ (.int .i64 x.n)).setCell ⟨wr.heap.size, 4, none⟩ (.slice a2 x.kids.length cap2))) x.kids (.slice a2 x.kids.length cap2) := liesP_fives hl2 hgc hnc _ _ _ _ _
                        generalize ((((wn.setCell ⟨wr.heap.size, 0, none⟩ (.int .i64 x.k)).setCell ⟨wr.heap.size, 1, none⟩ (.int .i64 x.i)).setCell ⟨wr.heap.size, 2, none⟩ (.int .i64 x.j)).setCell ⟨wr.heap.size, 3, none⟩ (.int .i64 x.n)).setCell ⟨wr.heap.size, 4, none⟩ (.slice a2 x.kids.length cap2) = W at HKW hN hLW ⊢
                        have HFX := Lib.hid (putG_fine (gAll_fine HUR.out) (HRK.out _ HM.out) (by omega) hr)
                        have HRS := Lib.hid hr
                        obtain ⟨p0, p1, p2, p3, p4⟩ := five_cells hN
                        have HLW := Lib.hid hLW
                        clear hN hLW hr
                        go_wp2_with (at_builtin; refine wpList_append_lies _ rfl _ _ 22 rfl (w.heap.size + 3) 24 i0 _ 5 56 (by kernel_rfl) HI.out.1 HI.out.2.1 HI.out.2.2.1 HI.out.2.2.2 rfl (by decide) _ ps.length (cells5 ps) rfl (made_later (made_later HMD.out HKW.out) ((Below.refl _ _).alloc (Nat.le_refl _) _)).own ⟨W.heap.size, 0, none⟩ 1 1 (cells5 [(x, .slice a2 x.kids.length cap2)]) rfl rfl ?news ?one (by decide) ?max ?bytes ?base _ rfl ?next)
                        case news => first | exact news_new _ _ _ _ | exact fun j u h => h
                        case one => exact one5 _ _
                        case max => have := HPL.out; unfold maxLen; omega
                        case bytes => have := HPL.out; omega
                        case base => have := Below.size HKW.out; simp; omega
                        case next =>
                          intro g3 cap3 w3 hown hgrow hat _
                          have hpb := push_once HDK.out HMD.out HFX.out HKW.out HLW.out _ hown hgrow (by simpa using hat)
                          clear hown hgrow hat
                          go_wp2_with fail
                          go_roundw
                          case rel => exact ⟨q + 1, ps ++ [(x, .slice a2 x.kids.length cap2)], _, rfl, hlt, by go_num, by rw [Hid, optK_next hlt HPS.out HRS.out]; simp, hpb.1, hpb.2⟩
                          case measure => simp [intOf]; omega
                      · have HKW := Lib.hid hHeld.1
                        generalize ((((wn.setCell ⟨wr.heap.size, 0, none⟩ (.int .i64 x.k)).setCell ⟨wr.heap.size, 1, none⟩ (.int .i64 x.i)).setCell ⟨wr.heap.size, 2, none⟩ (.int .i64 x.j)).setCell ⟨wr.heap.size, 3, none⟩ (.int .i64 x.n)).setCell ⟨wr.heap.size, 4, none⟩ (.slice a2 n2 cap2) = W at HKW ⊢
                        have hdW := desk_trans HDK.out (below_from HKW.out hsz)
                        obtain ⟨-, q1, -⟩ := desk_blocks hdW
                        obtain ⟨z0, z1, z2, z3, z4⟩ := five_cells q1
                        obtain ⟨f0, f1, f2, f3, f4⟩ := five_free q1
                        go_wp2
                        (try simp only [Exit.inBlock, Exit.then])
                        refine bodyPost_ret (results_cell_tmp rfl _ _ (w.heap.size + 1) _ _ _ du rfl (five_set q1) hu1 (by cases du <;> first | rfl | exact hu2) size_term) rfl ?_
                        exact ⟨Tm.zero, none, 0, 0, false, rfl, HBP.out.trans ((below_five (desk_under hdW) (by omega) _ _ _ _ _).mono HBP.out.size), Or.inr ⟨rfl, by rw [HEQ.out, optK_stop hlt hr]; rfl⟩⟩
                    exact AllReadyH.nil
                  exact AllReadyH.nil
                exact AllReadyH.nil
              exact AllReadyH.nil
            refine AllReadyH.cons (o := { dst := some 13, op := Go.Op.alloc 24, type := 0, pos := "ref.go:330", after := #[], guard := none }) rfl (fun K hK => ?_) ?_
            · go_simp
              refine hK.out _ _ ?_ (fun hHeld => ?_)
              · (try dsimp only)
                (((with_reducible refine all_and ?_ HTC.out HXC.out); repeat (first | with_reducible assumption | with_reducible exact hk0 | with_reducible refine kept_drew ?_ | with_reducible refine kept_alloc ?_ _ | ((with_reducible refine kept_set ?_ ?hh _); (case hh => first | exact Nat.le_refl _ | exact hszp)))))
              clear hK K
              (try simp only [Act.put, List.setIfInBounds_toArray, List.set_cons_zero, List.set_cons_succ])
              have hZ : (wr.drew.alloc zeroObj).heap[wr.heap.size]? = some zeroObj := alloc_new _ _
              refine wpAnyH_ready (rs := [10]) (by kernel_rfl) (by simp) ?_
              refine AllReadyH.cons (o := { dst := some 63, op := Go.Op.call { callee := Go.Callee.value (Go.Operand.func 48), args := #[Go.Operand.tmp 61, Go.Operand.tmp 62], argTypes := #[3, 3] }, type := 3, pos := "ref.go:330", after := #[{ on := 8, ground := Go.Ground.data }, { on := 9, ground := Go.Ground.data }], guard := none }) rfl (fun K hK => ?_) ?_
              · go_simp
                (go_at_call 48; refine (refbinds_any _ _ _).mono ?_; rintro e w' ⟨rfl, rfl⟩)
                refine hK.out _ _ ?_ (fun hHeld => ?_)
                · (try dsimp only)
                  (((with_reducible refine all_and ?_ HTC.out HXC.out); repeat (first | with_reducible assumption | with_reducible exact hk0 | with_reducible refine kept_drew ?_ | with_reducible refine kept_alloc ?_ _ | ((with_reducible refine kept_set ?_ ?hh _); (case hh => first | exact Nat.le_refl _ | exact hszp)))))
                clear hK K
                (try simp only [Act.put, List.setIfInBounds_toArray, List.set_cons_zero, List.set_cons_succ])
                refine wpAnyH_take (i := 11) (oi := { dst := some 64, op := Go.Op.binOp Go.BinOp.add 3 (Go.Operand.tmp 59) (Go.Operand.tmp 63) 3, type := 3, pos := "ref.go:330", after := #[{ on := 6, ground := Go.Ground.data }, { on := 10, ground := Go.Ground.data }], guard := none }) (v := ?_) rfl (by kernel_rfl) (by kernel_rfl) (by kernel_rfl) (fun _ _ _ h => h) (Or.inl ⟨by rfl, ?_⟩) (by assumption) ?_
                rotate_left 1
                · ((intro w hSw; (try dsimp only at hSw); go_simp) <;> with_reducible rfl)
                (try simp only [Act.put, List.setIfInBounds_toArray, List.set_cons_zero, List.set_cons_succ])
                refine wpAnyH_take (i := 13) (oi := { dst := some 66, op := Go.Op.move (Go.Operand.tmp 65), type := 4, pos := "ref.go:330", after := #[{ on := 12, ground := Go.Ground.data }, { on := 10, ground := Go.Ground.chain }], guard := none }) (v := ?_) rfl (by kernel_rfl) (by kernel_rfl) (by kernel_rfl) (fun _ _ _ h => h) (Or.inl ⟨by rfl, ?_⟩) (by assumption) ?_
                rotate_left 1
                · ((intro w hSw; (try dsimp only at hSw); go_simp) <;> with_reducible rfl)
                (try simp only [Act.put, List.setIfInBounds_toArray, List.set_cons_zero, List.set_cons_succ])
                refine wpAnyH_take (i := 14) (oi := { dst := some 67, op := Go.Op.load 24 (Go.Operand.tmp 4), type := 24, pos := "ref.go:330", after := #[{ on := 13, ground := Go.Ground.guard }], guard := some (13, false) }) (v := ?_) rfl (by kernel_rfl) (by kernel_rfl) (by kernel_rfl) (fun _ _ _ h => h) (Or.inl ⟨by rfl, ?_⟩) (by assumption) ?_
                rotate_left 1
                · ((intro w hSw; (try dsimp only at hSw); go_simp) <;> with_reducible rfl)
                (try simp only [Act.put, List.setIfInBounds_toArray, List.set_cons_zero, List.set_cons_succ])
                refine wpAnyH_take (i := 15) (oi := { dst := some 68, op := Go.Op.move (Go.Operand.tmp 12), type := 3, pos := "ref.go:330", after := #[{ on := 13, ground := Go.Ground.guard }], guard := some (13, false) }) (v := ?_) rfl (by kernel_rfl) (by kernel_rfl) (by kernel_rfl) (fun _ _ _ h => h) (Or.inl ⟨by rfl, ?_⟩) (by assumption) ?_
                rotate_left 1
                · ((intro w hSw; (try dsimp only at hSw); go_simp) <;> with_reducible rfl)
                (try simp only [Act.put, List.setIfInBounds_toArray, List.set_cons_zero, List.set_cons_succ])
                refine wpAnyH_ready (rs := [16]) (by kernel_rfl) (by simp) ?_
                refine AllReadyH.cons (o := { dst := some 69, op := Go.Op.call { callee := Go.Callee.value (Go.Operand.func 49), args := #[Go.Operand.tmp 67, Go.Operand.tmp 68], argTypes := #[24, 3] }, type := 4, pos := "ref.go:330", after := #[{ on := 14, ground := Go.Ground.data }, { on := 15, ground := Go.Ground.data }, { on := 13, ground := Go.Ground.chain }, { on := 13, ground := Go.Ground.guard }], guard := some (13, false) }) rfl (fun K hK => ?_) ?_
                · go_simp
                  (go_at_call 49; have hS := hHeld.1; refine (refplainly_any t q _ _ _ _).mono ?_; rintro e wp ⟨rfl, hbn⟩; have hhp := kept_call hS hbn; have hszp : wr.heap.size ≤ wp.heap.size := Below.size hhp; have hZ := keep_block hbn (block_lt hZ) hZ; clear hbn hS)
                  refine hK.out _ _ ?_ (fun hHeld => ?_)
                  · (try dsimp only)
                    (((with_reducible refine all_and ?_ HTC.out HXC.out); repeat (first | with_reducible assumption | with_reducible exact hk0 | with_reducible refine kept_drew ?_ | with_reducible refine kept_alloc ?_ _ | ((with_reducible refine kept_set ?_ ?hh _); (case hh => first | exact Nat.le_refl _ | exact hszp)))))
                  clear hK K
                  (try simp only [Act.put, List.setIfInBounds_toArray, List.set_cons_zero, List.set_cons_succ])
                  refine wpAnyH_take (i := 17) (oi := { dst := some 70, op := Go.Op.pick (Go.Operand.tmp 66) (Go.Operand.const (Go.Value.bool true)) (Go.Operand.tmp 69), type := 4, pos := "ref.go:330", after := #[{ on := 13, ground := Go.Ground.data }, { on := 16, ground := Go.Ground.data }], guard := none }) (v := ?_) rfl (by kernel_rfl) (by kernel_rfl) (by kernel_rfl) (fun _ _ _ h => h) (Or.inl ⟨by rfl, ?_⟩) (by assumption) ?_
                  rotate_left 1
                  · ((intro w hSw; (try dsimp only at hSw); go_simp) <;> with_reducible rfl)
                  (try simp only [Act.put, List.setIfInBounds_toArray, List.set_cons_zero, List.set_cons_succ])
                  refine wpAnyH_ready (rs := [18]) (by kernel_rfl) (by simp) ?_
                  refine AllReadyH.cons (o := { dst := some 71, op := Go.Op.call { callee := Go.Callee.value (Go.Operand.func 43), args := #[Go.Operand.tmp 57, Go.Operand.tmp 58, Go.Operand.tmp 64, Go.Operand.tmp 70], argTypes := #[24, 22, 3, 4] }, type := 33, pos := "ref.go:330", after := #[{ on := 4, ground := Go.Ground.data }, { on := 5, ground := Go.Ground.data }, { on := 11, ground := Go.Ground.data }, { on := 17, ground := Go.Ground.data }, { on := 16, ground := Go.Ground.chain }], guard := none }) rfl (fun K hK => ?_) ?_
                  · go_simp
                    (go_at_call 43; have hS := hHeld.1; have hnc := Below.size hS; have hgc := block_lt hZ; ((with_reducible refine Calls.mono (CALL.out _ hS) ?_); rintro e wn ⟨x, a2, n2, cap2, ok, rfl, hbn, hans⟩; have HANS := Lib.hid hans; have hhn := kept_call hS hbn; have hZ := keep_block hbn (block_lt hZ) hZ; obtain ⟨⟨g0, g1, g2, g3, g4⟩, v0, v1, v2, v3, v4⟩ := And.intro (five_cells hZ) (five_free hZ); clear hans hbn hS))
                    refine hK.out _ _ ?_ (fun hHeld => ?_)
                    · (try dsimp only)
                      (((with_reducible refine all_and ?_ HTC.out HXC.out); repeat (first | with_reducible assumption | with_reducible exact hk0 | with_reducible refine kept_drew ?_ | with_reducible refine kept_alloc ?_ _ | ((with_reducible refine kept_set ?_ ?hh _); (case hh => first | exact Nat.le_refl _ | exact hszp)))))
                    clear hK K
                    (try simp only [Act.put, List.setIfInBounds_toArray, List.set_cons_zero, List.set_cons_succ])
                    refine wpAnyH_take (i := 19) (oi := { dst := some 52, op := Go.Op.move (Go.Operand.tmp 71), type := 33, pos := "ref.go:330", after := #[{ on := 18, ground := Go.Ground.data }], guard := none }) (v := ?_) rfl (by kernel_rfl) (by kernel_rfl) (by kernel_rfl) (fun _ _ _ h => h) (Or.inl ⟨by rfl, ?_⟩) (by assumption) ?_
                    rotate_left 1
                    · ((intro w hSw; (try dsimp only at hSw); go_simp) <;> with_reducible rfl)
                    (try simp only [Act.put, List.setIfInBounds_toArray, List.set_cons_zero, List.set_cons_succ])
                    refine wpAnyH_take (i := 20) (oi := { dst := some 72, op := Go.Op.extract (Go.Operand.tmp 52) 0, type := 24, pos := "ref.go:330", after := #[{ on := 19, ground := Go.Ground.data }], guard := none }) (v := ?_) rfl (by kernel_rfl) (by kernel_rfl) (by kernel_rfl) (fun _ _ _ h => h) (Or.inl ⟨by rfl, ?_⟩) (by assumption) ?_
                    rotate_left 1
                    · ((intro w hSw; (try dsimp only at hSw); go_simp) <;> with_reducible rfl)
                    (try simp only [Act.put, List.setIfInBounds_toArray, List.set_cons_zero, List.set_cons_succ])
                    refine wpAnyH_take (i := 21) (oi := { dst := some 73, op := Go.Op.extract (Go.Operand.tmp 52) 1, type := 4, pos := "ref.go:330", after := #[{ on := 19, ground := Go.Ground.data }, { on := 23, ground := Go.Ground.gcOnly Go.Departure.lateStores }], guard := none }) (v := ?_) rfl (by kernel_rfl) (by kernel_rfl) (by kernel_rfl) (fun _ _ _ h => h) (Or.inl ⟨by rfl, ?_⟩) (by assumption) ?_
                    rotate_left 1
                    · ((intro w hSw; (try dsimp only at hSw); go_simp) <;> with_reducible rfl)
                    (try simp only [Act.put, List.setIfInBounds_toArray, List.set_cons_zero, List.set_cons_succ])
                    refine wpAnyH_ready (rs := [23]) (by kernel_rfl) (by simp) ?_
                    refine AllReadyH.cons (o := { dst := none, op := Go.Op.store 24 (Go.Operand.tmp 13) (Go.Operand.tmp 72), type := 0, pos := "ref.go:330", after := #[{ on := 22, ground := Go.Ground.data }, { on := 20, ground := Go.Ground.data }, { on := 18, ground := Go.Ground.chain }, { on := 0, ground := Go.Ground.phase }, { on := 1, ground := Go.Ground.phase }, { on := 2, ground := Go.Ground.phase }, { on := 3, ground := Go.Ground.phase }, { on := 4, ground := Go.Ground.phase }, { on := 5, ground := Go.Ground.phase }, { on := 6, ground := Go.Ground.phase }, { on := 7, ground := Go.Ground.phase }, { on := 8, ground := Go.Ground.phase }, { on := 9, ground := Go.Ground.phase }, { on := 10, ground := Go.Ground.phase }, { on := 11, ground := Go.Ground.phase }, { on := 12, ground := Go.Ground.phase }, { on := 13, ground := Go.Ground.phase }, { on := 14, ground := Go.Ground.phase }, { on := 15, ground := Go.Ground.phase }, { on := 16, ground := Go.Ground.phase }, { on := 17, ground := Go.Ground.phase }, { on := 18, ground := Go.Ground.phase }, { on := 19, ground := Go.Ground.phase }, { on := 20, ground := Go.Ground.phase }, { on := 21, ground := Go.Ground.textOnly Go.Departure.lateStores }, { on := 22, ground := Go.Ground.phase }], guard := none }) rfl (fun K hK => ?_) ?_
                    · go_simp
                      refine hK.out _ _ ?_ (fun hHeld => ?_)
                      · (try dsimp only)
                        (((with_reducible refine all_and ?_ HTC.out HXC.out); repeat (first | with_reducible assumption | with_reducible exact hk0 | with_reducible refine kept_drew ?_ | with_reducible refine kept_alloc ?_ _ | ((with_reducible refine kept_set ?_ ?hh _); (case hh => first | exact Nat.le_refl _ | exact hszp)))))
                      clear hK K
                      (try simp only [Act.put, List.setIfInBounds_toArray, List.set_cons_zero, List.set_cons_succ])
                      refine wpAnyH_take (i := 24) (oi := { dst := some 14, op := Go.Op.assign (Go.Operand.tmp 73), type := 4, pos := "ref.go:330", after := #[{ on := 21, ground := Go.Ground.data }, { on := 23, ground := Go.Ground.chain }, { on := 0, ground := Go.Ground.phase }, { on := 1, ground := Go.Ground.phase }, { on := 2, ground := Go.Ground.phase }, { on := 3, ground := Go.Ground.phase }, { on := 4, ground := Go.Ground.phase }, { on := 5, ground := Go.Ground.phase }, { on := 6, ground := Go.Ground.phase }, { on := 7, ground := Go.Ground.phase }, { on := 8, ground := Go.Ground.phase }, { on := 9, ground := Go.Ground.phase }, { on := 10, ground := Go.Ground.phase }, { on := 11, ground := Go.Ground.phase }, { on := 12, ground := Go.Ground.phase }, { on := 13, ground := Go.Ground.phase }, { on := 14, ground := Go.Ground.phase }, { on := 15, ground := Go.Ground.phase }, { on := 16, ground := Go.Ground.phase }, { on := 17, ground := Go.Ground.phase }, { on := 18, ground := Go.Ground.phase }, { on := 19, ground := Go.Ground.phase }, { on := 20, ground := Go.Ground.phase }, { on := 21, ground := Go.Ground.phase }, { on := 22, ground := Go.Ground.phase }, { on := 23, ground := Go.Ground.phase }], guard := none }) (v := ?_) rfl (by kernel_rfl) (by kernel_rfl) (by kernel_rfl) (fun _ _ _ h => h) (Or.inl ⟨by rfl, ?_⟩) (by assumption) ?_
                      rotate_left 1
                      · ((intro w hSw; (try dsimp only at hSw); go_simp) <;> with_reducible rfl)
                      (try simp only [Act.put, List.setIfInBounds_toArray, List.set_cons_zero, List.set_cons_succ])
                      refine wpAnyH_done (by kernel_rfl) ?_ _
                      have hHold := True.intro
                      clear hHold
                      rcases HANS.out with ⟨rfl, hr, rfl, hl2⟩ | ⟨rfl, hr⟩
                      · have HKW := Lib.hid hHeld.1
                        have hN : (((((wn.setCell ⟨wr.heap.size, 0, none⟩ (.int .i64 x.k)).setCell ⟨wr.heap.size, 1, none⟩ (.int .i64 x.i)).setCell ⟨wr.heap.size, 2, none⟩ (.int .i64 x.j)).setCell ⟨wr.heap.size, 3, none⟩ (.int .i64 x.n)).setCell ⟨wr.heap.size, 4, none⟩ (.slice a2 x.kids.length cap2)).heap[wr.heap.size]? = some (boxOf x (.slice a2 x.kids.length cap2)) := five_set hZ
                        have hLW : LiesP (((((wn.setCell ⟨wr.heap.size, 0, none⟩ (.int .i64 x.k)).setCell ⟨wr.heap.size, 1, none⟩ (.int .i64 x.i)).setCell ⟨wr.heap.size, 2, none⟩ (.int .i64 x.j)).setCell ⟨wr.heap.size, 3, none⟩ (.int .i64 x.n)).setCell ⟨wr.heap.size, 4, none⟩ (.slice a2 x.kids.length cap2)) (Own wr.heap.size (((((wn.setCell ⟨wr.heap.size, 0, none⟩ (.int .i64 x.k)).setCell ⟨wr.heap.size, 1, none⟩ (.int .i64 x.i)).setCell ⟨wr.heap.size, 2, none⟩ (.int .i64 x.j)).setCell ⟨wr.heap.size, 3, none⟩ (.int .i64 x.n)).setCell ⟨wr.heap.size, 4, none⟩ (.slice a2 x.kids.length cap2))) x.kids (.slice a2 x.kids.length cap2) := liesP_fives hl2 hgc hnc _ _ _ _ _
                        generalize ((((wn.setCell ⟨wr.heap.size, 0, none⟩ (.int .i64 x.k)).setCell ⟨wr.heap.size, 1, none⟩ (.int .i64 x.i)).setCell ⟨wr.heap.size, 2, none⟩ (.int .i64 x.j)).setCell ⟨wr.heap.size, 3, none⟩ (.int .i64 x.n)).setCell ⟨wr.heap.size, 4, none⟩ (.slice a2 x.kids.length cap2) = W at HKW hN hLW ⊢
                        have HFX := Lib.hid (putG_fine (gAll_fine HUR.out) (HRK.out _ HM.out) (by omega) hr)
                        have HRS := Lib.hid hr
                        obtain ⟨p0, p1, p2, p3, p4⟩ := five_cells hN
                        have HLW := Lib.hid hLW
                        clear hN hLW hr
                        go_wp2_with (at_builtin; refine wpList_append_lies _ rfl _ _ 22 rfl (w.heap.size + 3) 24 i0 _ 5 56 (by kernel_rfl) HI.out.1 HI.out.2.1 HI.out.2.2.1 HI.out.2.2.2 rfl (by decide) _ ps.length (cells5 ps) rfl (made_later (made_later HMD.out HKW.out) ((Below.refl _ _).alloc (Nat.le_refl _) _)).own ⟨W.heap.size, 0, none⟩ 1 1 (cells5 [(x, .slice a2 x.kids.length cap2)]) rfl rfl ?news ?one (by decide) ?max ?bytes ?base _ rfl ?next)
                        case news => first | exact news_new _ _ _ _ | exact fun j u h => h
                        case one => exact one5 _ _
                        case max => have := HPL.out; unfold maxLen; omega
                        case bytes => have := HPL.out; omega
                        case base => have := Below.size HKW.out; simp; omega
                        case next =>
                          intro g3 cap3 w3 hown hgrow hat _
                          have hpb := push_once HDK.out HMD.out HFX.out HKW.out HLW.out _ hown hgrow (by simpa using hat)
                          clear hown hgrow hat
                          go_wp2_with fail
                          go_roundw
                          case rel => exact ⟨q + 1, ps ++ [(x, .slice a2 x.kids.length cap2)], _, rfl, hlt, by go_num, by rw [Hid, optK_next hlt HPS.out HRS.out]; simp, hpb.1, hpb.2⟩
                          case measure => simp [intOf]; omega
                      · have HKW := Lib.hid hHeld.1
                        generalize ((((wn.setCell ⟨wr.heap.size, 0, none⟩ (.int .i64 x.k)).setCell ⟨wr.heap.size, 1, none⟩ (.int .i64 x.i)).setCell ⟨wr.heap.size, 2, none⟩ (.int .i64 x.j)).setCell ⟨wr.heap.size, 3, none⟩ (.int .i64 x.n)).setCell ⟨wr.heap.size, 4, none⟩ (.slice a2 n2 cap2) = W at HKW ⊢
                        have hdW := desk_trans HDK.out (below_from HKW.out hsz)
                        obtain ⟨-, q1, -⟩ := desk_blocks hdW
                        obtain ⟨z0, z1, z2, z3, z4⟩ := five_cells q1
                        obtain ⟨f0, f1, f2, f3, f4⟩ := five_free q1
                        go_wp2
                        (try simp only [Exit.inBlock, Exit.then])
                        refine bodyPost_ret (results_cell_tmp rfl _ _ (w.heap.size + 1) _ _ _ du rfl (five_set q1) hu1 (by cases du <;> first | rfl | exact hu2) size_term) rfl ?_
                        exact ⟨Tm.zero, none, 0, 0, false, rfl, HBP.out.trans ((below_five (desk_under hdW) (by omega) _ _ _ _ _).mono HBP.out.size), Or.inr ⟨rfl, by rw [HEQ.out, optK_stop hlt hr]; rfl⟩⟩
                    exact AllReadyH.nil
                  exact AllReadyH.nil
                exact AllReadyH.nil
              exact AllReadyH.nil
            exact AllReadyH.nil
        · have : q = t.kids.length := by omega
          subst this
          have hd2 := desk_set (v' := vv) hdk
          have hres : t.putG (gAll l) b F = some (.mk t.k t.i t.j t.n (ps.map (·.1))) := by
            have := HPS.out
            rw [List.take_length] at this
            rw [HEQ.out, this]; rfl
          obtain ⟨-, q1', -⟩ := desk_blocks hd2
          have hll := made_lies hmade
          obtain ⟨a2, cap2, rfl, -, -⟩ := hll.out
          simp only [List.length_map] at hd2 q1' hll
          obtain ⟨y0, y1, y2, y3, y4⟩ := five_cells q2
          obtain ⟨f0, f1, f2, f3, f4⟩ := five_free q2
          obtain ⟨z0, z1, z2, z3, z4⟩ := five_cells q1
          obtain ⟨g0, g1, g2, g3, g4⟩ := five_free q1
          go_wp2
          (try simp only [Exit.inBlock, Exit.then])
          refine bodyPost_ret (results_cell_tmp rfl _ _ (w.heap.size + 1) _ _ _ du rfl (five_set q1') hu1 (by cases du <;> first | rfl | exact hu2) size_term) rfl ?_
          exact ⟨.mk t.k t.i t.j t.n (ps.map (·.1)), a2, ps.length, cap2, true, rfl, HBP.out.trans ((below_five (desk_under hd2) (by omega) _ _ _ _ _).mono HBP.out.size), Or.inl ⟨rfl, hres, by simp [Tm.kids], by show LiesP _ _ (ps.map (·.1)) _; exact liesP_fives (liesP_set hll (by omega) (Nat.le_refl _) _) (by omega) (by omega) _ _ _ _ _⟩⟩
end Go.Proofs.Ytmhmengbhdaodaa

/-! subst.All. -/
namespace Go.Proofs.Ytmhmengbhdaodaa
open Go.RowKit

/-- What All hands back. -/
def GivesA (r : Option Tm) (w : World) (e : Ending) (w' : World) : Prop := Below w.heap.size w w' ∧
  ((∃ u s', r = some u ∧ e = .returned (.tuple #[tv u s', .bool true]) ∧ LiesP w' (Own w.heap.size w') u.kids s') ∨ (r = none ∧ e = .returned (.tuple #[tv .zero (.slice none 0 0), .bool false])))
theorem kept_setA {w w1 : World} (h : Kept w w1) {p : Addr} (hp : w.heap.size ≤ p.block) (v : Value) : Kept w (w1.setCell p v) := Below.setCell h hp v
theorem below_2 (w : World) (a b : Obj) : Below w.heap.size w ((w.alloc a).alloc b) := ((Below.refl _ _).alloc (Nat.le_refl _) _).alloc (by simp) _
theorem heap_2 (w : World) (a b : Obj) : ((w.alloc a).alloc b).heap[w.heap.size]? = some a ∧ ((w.alloc a).alloc b).heap[w.heap.size + 1]? = some b :=
  ⟨by rw [Below.heap_alloc _ _ _ (by simp), alloc_new], heap_alloc2_new _ _ _⟩
theorem six_and {v w' : World} {bs g : Nat} {s v0 v1 v2 v3 v4 : Value} (h : Kept v w') (hc : v.cell? ⟨bs, 0, none⟩ = some s) (hk : v.cell? ⟨g, 0, none⟩ = some v0 ∧ v.cell? ⟨g, 1, none⟩ = some v1 ∧ v.cell? ⟨g, 2, none⟩ = some v2 ∧ v.cell? ⟨g, 3, none⟩ = some v3 ∧ v.cell? ⟨g, 4, none⟩ = some v4) :
    w'.cell? ⟨bs, 0, none⟩ = some s ∧ w'.cell? ⟨g, 0, none⟩ = some v0 ∧ w'.cell? ⟨g, 1, none⟩ = some v1 ∧ w'.cell? ⟨g, 2, none⟩ = some v2 ∧ w'.cell? ⟨g, 3, none⟩ = some v3 ∧ w'.cell? ⟨g, 4, none⟩ = some v4 :=
  ⟨cell_lat h hc, cell_lat h hk.1, cell_lat h hk.2.1, cell_lat h hk.2.2.1, cell_lat h hk.2.2.2.1, cell_lat h hk.2.2.2.2⟩
theorem keep6 {W : World} {bs g b o : Nat} {s v0 v1 v2 v3 v4 : Value} {u x : Tm} {s1 s2 : Value} (h : W.cell? ⟨bs, 0, none⟩ = some s ∧ W.cell? ⟨g, 0, none⟩ = some v0 ∧ W.cell? ⟨g, 1, none⟩ = some v1 ∧ W.cell? ⟨g, 2, none⟩ = some v2 ∧ W.cell? ⟨g, 3, none⟩ = some v3 ∧ W.cell? ⟨g, 4, none⟩ = some v4) (h1 : bs ≠ b) (h2 : g ≠ b) :
    (put10 W b o u x s1 s2).cell? ⟨bs, 0, none⟩ = some s ∧ (put10 W b o u x s1 s2).cell? ⟨g, 0, none⟩ = some v0 ∧ (put10 W b o u x s1 s2).cell? ⟨g, 1, none⟩ = some v1 ∧ (put10 W b o u x s1 s2).cell? ⟨g, 2, none⟩ = some v2 ∧ (put10 W b o u x s1 s2).cell? ⟨g, 3, none⟩ = some v3 ∧ (put10 W b o u x s1 s2).cell? ⟨g, 4, none⟩ = some v4 := by
  have e : ∀ {c q : Nat}, c ≠ b → (put10 W b o u x s1 s2).cell? ⟨c, q, none⟩ = W.cell? ⟨c, q, none⟩ := fun hc => World.cell?_of_block (put10_other _ _ _ _ _ _ _ hc)
  rw [e h1, e h2, e h2, e h2, e h2, e h2]
  exact h
theorem vals_start {w1 : World} {B bv n : Nat} {l : List Tm} (h : w1.ownsRow B 44 10 (.slice (some ⟨bv, 0, none⟩) n n) n (madeCells #[.int .i64 0, .int .i64 0, .int .i64 0, .int .i64 0, .slice none 0 0, .int .i64 0, .int .i64 0, .int .i64 0, .int .i64 0, .slice none 0 0] (n * 10)).toList) : Vals w1 bv n 0 l := by
  refine ⟨?_, fun k _ hq => by omega⟩
  obtain ⟨-, ⟨h1, -⟩ | ⟨g', cap, cur, h1, h2, h3, h4, h5, h6, -⟩⟩ := h
  · cases h1
  · simp only [Value.slice.injEq, Option.some.injEq, Addr.mk.injEq] at h1
    obtain ⟨⟨rfl, -, -⟩, -, rfl⟩ := h1
    exact ⟨cur, h3, by omega⟩

set_option maxRecDepth 20000 in
set_option maxHeartbeats 4000000 in
theorem all_any (t : Tm) (l : List Tm) (w : World) (s ls : Value) (hl : Lies w t.kids s) (hls : Lies w l ls) (hdt : t.deep ≤ 100000) (hdl : ∀ u ∈ l, u.deep ≤ 100000) (hN : l.length ≤ 100000) : Calls Try.prog 19 #[tv t s, ls] w (GivesA (t.allB l) w) := by
  obtain ⟨a, cap, S, rfl, -⟩ := hl.out
  obtain ⟨la, lcap, LS, rfl, lc, lm, -, ln, lk⟩ := hls.out
  obtain ⟨du, hu1, hu2⟩ := under_term
  have hB := below_2 w (.cells #[.int .i64 t.k, .int .i64 t.i, .int .i64 t.j, .int .i64 t.n, .slice a t.kids.length cap] 24) (.cells #[.int .i64 0, .int .i64 0, .int .i64 0, .int .i64 0, .slice none 0 0] 24)
  obtain ⟨q0, q1⟩ := heap_2 w (.cells #[.int .i64 t.k, .int .i64 t.i, .int .i64 t.j, .int .i64 t.n, .slice a t.kids.length cap] 24) (.cells #[.int .i64 0, .int .i64 0, .int .i64 0, .int .i64 0, .slice none 0 0] 24)
  have HLT := Lib.hid hl
  have HLS := Lib.hid hls
  have LN := Lib.hid ln
  have LK := Lib.hid lk
  have HDL := Lib.hid hdl
  clear hl hls ln lk hdl
  unfold maxLen at lm
  unfold tv
  cases hr : t.rightB with
  | false =>
    have HA := Lib.hid (show t.allB l = none by unfold Tm.allB; rw [if_neg (by rw [hr]; simp)])
    go_enter Try.func19, Try.ntmps19
    go_wp2_with fail
    refine (right_any t _ _ (HLT.out.keep hB)).mono ?_
    rw [hr]
    rintro e w3 ⟨rfl, hb3⟩
    have q3 := keep_block hb3 (block_lt q1) q1
    obtain ⟨z0, z1, z2, z3, z4⟩ := five_cells q3
    obtain ⟨f0, f1, f2, f3, f4⟩ := five_free q3
    have hb := hB.trans (hb3.mono hB.size)
    clear hb3 q0 q1 hB
    go_wp2
    (try simp only [Exit.inBlock, Exit.then])
    refine bodyPost_ret (results_cell_tmp rfl _ _ (w.heap.size + 1) _ _ _ du rfl (five_set q3) hu1 (by cases du <;> first | rfl | exact hu2) size_term) rfl ?_
    exact ⟨below_five hb (by omega) _ _ _ _ _, Or.inr ⟨HA.out, rfl⟩⟩
  | true =>
    have HR := Lib.hid hr
    obtain ⟨i0, hi, hz0, hz1, hz2⟩ := info_parts info_value
    have HI := Lib.hid (And.intro hi (And.intro hz0 (And.intro hz1 hz2)))
    clear hi hz0 hz1 hz2
    go_enter Try.func19, Try.ntmps19
    go_wp2_with fail
    refine (right_any t _ _ (HLT.out.keep hB)).mono ?_
    rw [hr]
    clear hr
    rintro e w3 ⟨rfl, hb3⟩
    have HB3 := Lib.hid (hB.trans (hb3.mono hB.size))
    have HQ0 := Lib.hid (keep_block hb3 (block_lt q0) q0)
    have HQ1 := Lib.hid (keep_block hb3 (block_lt q1) q1)
    have hs3 : w.heap.size + 1 < w3.heap.size := block_lt HQ1.out
    clear hb3 q0 q1 hB
    go_wp2_with (at_make; refine wpList_make_full _ rfl _ _ 49 rfl w3.heap.size 44 i0 _ 10 (by kernel_rfl) HI.out.1 HI.out.2.1 HI.out.2.2.1 _ _ _ _ l.length rfl rfl rfl rfl ?bytes ?max ?base ?next)
    case bytes => rw [HI.out.2.2.2]; omega
    case max => unfold maxLen; omega
    case base => simp
    case next =>
    intro w4 hown hgrow
    obtain ⟨bv, hbv⟩ : ∃ bv, w3.heap.size = bv := ⟨_, rfl⟩
    have hvals : Vals w4 bv l.length 0 l := by rw [hbv] at hown; exact vals_start hown
    have hb4 : Below w3.heap.size w3 w4 := (Below.refl _ _).grown hgrow (by simp) (by simp)
    have hb5 : Below w4.heap.size w4 (w4.alloc (.cells #[.slice (some ⟨bv, 0, none⟩) l.length l.length] 49)) := (Below.refl _ _).alloc (Nat.le_refl _) _
    have hcs : (w4.alloc (.cells #[.slice (some ⟨bv, 0, none⟩) l.length l.length] 49)).cell? ⟨w4.heap.size, 0, none⟩ = some (.slice (some ⟨bv, 0, none⟩) l.length l.length) := by rw [World.cell?_alloc_at _ _ _ _ rfl]; rfl
    have hv5 := hvals.later hb5
    have hk5 : Kept w3 (w4.alloc (.cells #[.slice (some ⟨bv, 0, none⟩) l.length l.length] 49)) := hb4.trans (hb5.mono hb4.size)
    have hbsv : bv < w4.heap.size := hvals.lt
    clear hown hgrow hvals hb4 hb5
    rw [hbv]
    go_upto_region 5 with fail
    generalize w4.alloc (.cells #[.slice (some ⟨bv, 0, none⟩) l.length l.length] 49) = w5 at hcs hv5 hk5 ⊢
    obtain ⟨bs, hbs⟩ : ∃ bs, w4.heap.size = bs := ⟨_, rfl⟩
    rw [hbs] at hcs hbsv ⊢
    have hbvk : w3.heap.size ≤ bv := by omega
    clear hbs hbv
    go_loopw [21] (fun iv wr => ∃ q : Nat, q ≤ l.length ∧ iv = .int .i64 q ∧ Hid (∀ k (h : k < l.length), k < q → mayB t l[k] = true) ∧ Vals wr bv l.length q l ∧ wr.cell? ⟨bs, 0, none⟩ = some (.slice (some ⟨bv, 0, none⟩) l.length l.length) ∧ Kept w3 wr) (fun iv _ => l.length - (intOf iv).toNat)
    case atStart => exact ⟨0, Nat.zero_le _, rfl, fun k _ h => by omega, hv5, hcs, hk5⟩
    case round =>
      clear hv5 hcs hk5
      obtain ⟨q, hq0, rfl, hmay, hvals, hcs, hkr⟩ := hrel
      have HMAY := Lib.hid hmay.out
      have HV := Lib.hid hvals
      have HCS := Lib.hid hcs
      have t0 := keep_block hkr (block_lt HQ0.out) HQ0.out
      have t1 := keep_block hkr (block_lt HQ1.out) HQ1.out
      have hb0 : Below w.heap.size w wr := HB3.out.trans (Below.mono hkr HB3.out.size)
      have hsr : w3.heap.size ≤ wr.heap.size := Below.size hkr
      have hvl := hvals.lt
      have hswr : w.heap.size < wr.heap.size := by omega
      have hswr1 : w.heap.size + 1 < wr.heap.size := by omega
      have hbl : bs < wr.heap.size := World.block_lt_of_cell? _ _ hcs
      obtain ⟨d0, d1, d2, d3, d4⟩ := five_cells t0
      clear hmay hvals
      by_cases hlt : q < l.length
      · obtain ⟨b, o, rfl, hx⟩ := LN.out q hlt
        obtain ⟨c0, c1, c2, c3, c4⟩ := hx.below hb0 hx.lt
        have hq := LK.out q hlt
        obtain ⟨a', cap', S', hS, -⟩ := hq.out
        rw [hS] at c4 hq
        obtain ⟨u, hu⟩ : ∃ u, l[q] = u := ⟨_, rfl⟩
        have hdu : u.deep ≤ 100000 := by rw [← hu]; exact HDL.out _ (List.getElem_mem hlt)
        rw [hu] at c0 c1 c2 c3 c4 hq
        have HU := Lib.hid hu
        have HQ := Lib.hid hq
        have hj1 : (q : Int) < (l.length : Int) := by omega
        have hkb : Kept wr (wr.alloc (.cells #[.int .i64 u.k, .int .i64 u.i, .int .i64 u.j, .int .i64 u.n, .slice a' u.kids.length cap'] 24)) := kept_alloc (kept_start wr) _
        have hqk := alloc_new wr (.cells #[.int .i64 u.k, .int .i64 u.i, .int .i64 u.j, .int .i64 u.n, .slice a' u.kids.length cap'] 24)
        have HTA := Lib.hid (HLT.out.keep (hb0.trans (Below.mono hkb hb0.size)))
        have HUA := Lib.hid (hq.keep (hb0.trans (Below.mono hkb hb0.size)))
        clear hS hx hq hu t0
        go_wp2_with fail
        refine (fits_any t u _ _ _ HTA.out HUA.out).mono ?_
        have hfm := fits_may u HR.out
        rw [hfm]
        cases hmy : mayB t u with
        | false =>
          have HA := Lib.hid (show t.allB l = none by
            unfold Tm.allB
            rw [if_neg (fun h => by have := List.all_eq_true.1 h.2 u (by rw [← HU.out]; exact List.getElem_mem hlt); rw [hmy] at this; cases this)])
          rintro e w6 ⟨rfl, hb6⟩
          have hk6 := kept_call hkb hb6
          have hkk : Kept w3 w6 := hkr.trans (Below.mono hk6 hsr)
          have t6 := keep_block hkk (block_lt HQ1.out) HQ1.out
          obtain ⟨z0, z1, z2, z3, z4⟩ := five_cells t6
          obtain ⟨f0, f1, f2, f3, f4⟩ := five_free t6
          have hb := HB3.out.trans (Below.mono hkk HB3.out.size)
          clear hb6 hk6 hkb hkr hqk t1 d0 d1 d2 d3 d4 c0 c1 c2 c3 c4 hcs
          go_wp2
          (try simp only [Exit.inBlock, Exit.then])
          refine bodyPost_ret (results_cell_tmp rfl _ _ (w.heap.size + 1) _ _ _ du rfl (five_set t6) hu1 (by cases du <;> first | rfl | exact hu2) size_term) rfl ?_
          exact ⟨below_five hb (by omega) _ _ _ _ _, Or.inr ⟨HA.out, rfl⟩⟩
        | true =>
          rintro e w6 ⟨rfl, hb6⟩
          have hk6 := kept_call hkb hb6
          have hqk6 := keep_block hb6 (block_lt hqk) hqk
          have HV6 := Lib.hid (HV.out.later hk6)
          have hcs6 := cell_lat hk6 HCS.out
          have HCS6 := Lib.hid hcs6
          have hkk : Kept w3 w6 := hkr.trans (Below.mono hk6 hsr)
          have HKK := Lib.hid hkk
          have HK6 := Lib.hid (five_cells hqk6)
          obtain ⟨g0, g1, g2, g3, g4⟩ := HK6.out
          have hur := may_right hmy
          have hst := stripB_good hur
          have HMY := Lib.hid hmy
          have hq6 : LiesQ w6 (· ≠ bv) u.kids (.slice a' u.kids.length cap') := ((HQ.out.q.later (hb0.trans (Below.mono hk6 hb0.size)))).wide (fun b hb => by omega)
          have HQ6 := Lib.hid hq6
          have CALL : Hid (∀ w', Kept w6 w' → Calls Try.prog 11 #[tv u (.slice a' u.kids.length cap')] w' (Makes u.bare w')) := fun w' h => by have := strip_any u w' _ (kept_lies h hq6.lies); rw [hst] at this; exact this
          have hk0 := kept_start w6
          have hne1 : bs ≠ bv := by omega
          have hne2 : wr.heap.size ≠ bv := by omega
          have hlv6 := HV6.out.lt
          have hso : q * 10 + 10 ≤ l.length * 10 := by omega
          obtain ⟨gk, hgk⟩ : ∃ g, wr.heap.size = g := ⟨_, rfl⟩
          rw [hgk] at hne2 g0 g1 g2 g3 g4 HK6 ⊢
          clear hb6 hk6 hkb hqk hqk6 t1 d0 d1 d2 d3 d4 c0 c1 c2 c3 c4 hcs hq6 hmy hur hst hfm
          go_wp2_with fail
          go_region_held3 (fun w' => w'.cell? ⟨bs, 0, none⟩ = some (.slice (some ⟨bv, 0, none⟩) l.length l.length) ∧ w'.cell? ⟨gk, 0, none⟩ = some (.int .i64 u.k) ∧ w'.cell? ⟨gk, 1, none⟩ = some (.int .i64 u.i) ∧ w'.cell? ⟨gk, 2, none⟩ = some (.int .i64 u.j) ∧ w'.cell? ⟨gk, 3, none⟩ = some (.int .i64 u.n) ∧ w'.cell? ⟨gk, 4, none⟩ = some (.slice a' u.kids.length cap'))
            (first | ((with_reducible refine keep6 (o := q * 10) (u := u) (x := u.bare) (s1 := .slice a' u.kids.length cap') (s2 := _) ?_ hne1 hne2); with_reducible assumption) | ((with_reducible refine six_and ?_ HCS6.out HK6.out); repeat (first | with_reducible assumption | with_reducible exact hk0 | with_reducible refine kept_drew ?_ | with_reducible refine kept_alloc ?_ _)))
            (first | (go_at_call 11; ((with_reducible refine Calls.mono (CALL.out _ (kept_drew hk0)) ?_); rintro e wn ⟨s8, rfl, hl8, hbn⟩; obtain ⟨a8, cap8, rfl, -, -⟩ := hl8.out; have hhn := kept_call (kept_drew hk0) hbn; have HVN := Lib.hid (HV6.out.later hhn); have HL8 := Lib.hid hl8; obtain ⟨y0, hy0⟩ := vals_cell HVN.out (q * 10) (by omega); obtain ⟨y1, hy1⟩ := vals_cell HVN.out (q * 10 + 1) (by omega); obtain ⟨y2, hy2⟩ := vals_cell HVN.out (q * 10 + 2) (by omega); obtain ⟨y3, hy3⟩ := vals_cell HVN.out (q * 10 + 3) (by omega); obtain ⟨y4, hy4⟩ := vals_cell HVN.out (q * 10 + 4) (by omega); obtain ⟨y5, hy5⟩ := vals_cell HVN.out (q * 10 + 5) (by omega); obtain ⟨y6, hy6⟩ := vals_cell HVN.out (q * 10 + 6) (by omega); obtain ⟨y7, hy7⟩ := vals_cell HVN.out (q * 10 + 7) (by omega); obtain ⟨y8, hy8⟩ := vals_cell HVN.out (q * 10 + 8) (by omega); obtain ⟨y9, hy9⟩ := vals_cell HVN.out (q * 10 + 9) (by omega); have fz0 := vals_open HVN.out (q * 10); have fz1 := vals_open HVN.out (q * 10 + 1); have fz2 := vals_open HVN.out (q * 10 + 2); have fz3 := vals_open HVN.out (q * 10 + 3); have fz4 := vals_open HVN.out (q * 10 + 4); have fz5 := vals_open HVN.out (q * 10 + 5); have fz6 := vals_open HVN.out (q * 10 + 6); have fz7 := vals_open HVN.out (q * 10 + 7); have fz8 := vals_open HVN.out (q * 10 + 8); have fz9 := vals_open HVN.out (q * 10 + 9); clear hl8 hbn)))
          have hfil := HVN.out.fill (q := q) hlt hlt (a1 := a') (p1 := cap') (a2 := a8) (p2 := cap8) (by rw [HU.out]; exact HQ6.out.later hhn) (by rw [HU.out]; exact HL8.out.q.wide (fun b hb => by have := hb.1; simp at this; omega))
          rw [HU.out] at hfil
          have hcsn : (put10 wn bv (q * 10) u u.bare (.slice a' u.kids.length cap') (.slice a8 u.bare.kids.length cap8)).cell? ⟨bs, 0, none⟩ = some (.slice (some ⟨bv, 0, none⟩) l.length l.length) := (World.cell?_of_block (put10_other _ _ _ _ _ _ _ hne1)).trans (cell_lat hhn HCS6.out)
          have hkn : Kept w3 (put10 wn bv (q * 10) u u.bare (.slice a' u.kids.length cap') (.slice a8 u.bare.kids.length cap8)) := put10_below (HKK.out.trans (Below.mono hhn HKK.out.size)) hbvk _ _ _ _ _
          go_wp2
          go_roundw
          case rel => exact ⟨q + 1, hlt, by go_num, fun k hk hkq => by
            by_cases e : k = q
            · subst e; rw [HU.out]; exact HMY.out
            · exact HMAY.out k hk (by omega), hfil, hcsn, hkn⟩
          case measure => simp [intOf]; omega
      · have : q = l.length := by omega
        subst this
        have hall : l.all (mayB t) = true := by
          rw [List.all_eq_true]
          intro x hx
          obtain ⟨k, hk, rfl⟩ := List.getElem_of_mem hx
          exact HMAY.out k hk hk
        have HALL := Lib.hid (show t.allB l = t.putG (gAll l) 0 (decide (12 < t.k)) by unfold Tm.allB; rw [if_pos ⟨HR.out, hall⟩])
        have HUR := Lib.hid (show ∀ x ∈ l, x.rightB = true from fun x hx => may_right (List.all_eq_true.1 hall x hx))
        have hI := vals_all HV.out HCS.out
        have hb1 : Below wr.heap.size wr (wr.alloc (.cells #[.func (.func 41) #[] #[.pointer (some ⟨bs, 0, none⟩)]] 47)) := (Below.refl _ _).alloc (Nat.le_refl _) _
        have hI1 := allI_later l bs bv _ _ hI hb1
        have hpc : (wr.alloc (.cells #[.func (.func 41) #[] #[.pointer (some ⟨bs, 0, none⟩)]] 47)).cell? ⟨wr.heap.size, 0, none⟩ = some (.func (.func 41) #[] #[.pointer (some ⟨bs, 0, none⟩)]) := by rw [World.cell?_alloc_at _ _ _ _ rfl]; rfl
        have t0' := keep_block hb1 (block_lt t0) t0
        have t1' := keep_block hb1 (block_lt t1) t1
        have hbV := hb0.trans (Below.mono hb1 hb0.size)
        have hlV := HLT.out.keep hbV
        have hszV : w.heap.size + 1 < (wr.alloc (.cells #[.func (.func 41) #[] #[.pointer (some ⟨bs, 0, none⟩)]] 47)).heap.size := by simp; omega
        clear hI hall t0 t1 hcs hkr hb1
        go_upto_region 12 with fail
        clear d0 d1 d2 d3 d4
        generalize wr.alloc (.cells #[.func (.func 41) #[] #[.pointer (some ⟨bs, 0, none⟩)]] 47) = V0 at hI1 hpc t0' t1' hbV hlV hszV ⊢
        obtain ⟨pv, hpv⟩ : ∃ pv, wr.heap.size = pv := ⟨_, rfl⟩
        rw [hpv] at hpc ⊢
        have HCT := Lib.hid (five_cells t0')
        have HPC := Lib.hid hpc
        have HBV := Lib.hid hbV
        have HQ1 := Lib.hid t1'
        have HI1 := Lib.hid hI1
        have HLV := Lib.hid hlV
        obtain ⟨d0, d1, d2, d3, d4⟩ := HCT.out
        have hk0 := kept_start V0
        have CIN : Hid (∀ w', Kept V0 w' → Calls Try.prog 39 #[.agg #[.func (.func 41) #[] #[.pointer (some ⟨bs, 0, none⟩)]], tv t (.slice a t.kids.length cap), .int .i64 0, .bool (decide (12 < t.k))] w' (GivesY (t.putG (gAll l) 0 (decide (12 < t.k))) w')) := fun w' h => all_in HUR.out HDL.out bs bv t _ w' _ (kept_lies h HLV.out) HR.out hdt (allI_later l bs bv _ _ HI1.out h)
        clear hI1 hpc t0' t1' hbV hlV hpv
        go_wp2_with fail
        refine wp_region_held_drew (S := fun w' => Kept V0 w' ∧ w'.cell? ⟨w.heap.size, 0, none⟩ = some (.int .i64 t.k) ∧ w'.cell? ⟨w.heap.size, 1, none⟩ = some (.int .i64 t.i) ∧ w'.cell? ⟨w.heap.size, 2, none⟩ = some (.int .i64 t.j) ∧ w'.cell? ⟨w.heap.size, 3, none⟩ = some (.int .i64 t.n) ∧ w'.cell? ⟨w.heap.size, 4, none⟩ = some (.slice a t.kids.length cap) ∧ w'.cell? ⟨pv, 0, none⟩ = some (.func (.func 41) #[] #[.pointer (some ⟨bs, 0, none⟩)])) (by kernel_rfl) ?_ (fun hHeld => ?_)
        · (try dsimp only)
          (((with_reducible refine kept_tp ?_ HCT.out HPC.out); repeat (first | with_reducible assumption | with_reducible exact hk0 | with_reducible refine kept_drew ?_ | with_reducible refine kept_alloc ?_ _ | ((with_reducible refine kept_setA ?_ ?hh _); (case hh => first | exact Nat.le_refl _ | (simp only; omega))))))
        refine wpAnyH_take (i := 0) (oi := { dst := some 42, op := Go.Op.load 47 (Go.Operand.tmp 9), type := 47, pos := "subst.go:60", after := #[], guard := none }) (v := ?_) rfl (by kernel_rfl) (by kernel_rfl) (by kernel_rfl) (fun _ _ _ h => h) (Or.inl ⟨by rfl, ?_⟩) (by assumption) ?_
        rotate_left 1
        · ((intro w hSw; (try dsimp only at hSw); go_simp) <;> with_reducible rfl)
        (try simp only [Act.put, List.setIfInBounds_toArray, List.set_cons_zero, List.set_cons_succ])
        refine wpAnyH_take (i := 1) (oi := { dst := some 43, op := Go.Op.load 24 (Go.Operand.tmp 2), type := 24, pos := "subst.go:60", after := #[], guard := none }) (v := ?_) rfl (by kernel_rfl) (by kernel_rfl) (by kernel_rfl) (fun _ _ _ h => h) (Or.inl ⟨by rfl, ?_⟩) (by assumption) ?_
        rotate_left 1
        · ((intro w hSw; (try dsimp only at hSw); go_simp) <;> with_reducible rfl)
        (try simp only [Act.put, List.setIfInBounds_toArray, List.set_cons_zero, List.set_cons_succ])
        refine wpAnyH_take (i := 2) (oi := { dst := some 44, op := Go.Op.load 24 (Go.Operand.tmp 2), type := 24, pos := "subst.go:60", after := #[], guard := none }) (v := ?_) rfl (by kernel_rfl) (by kernel_rfl) (by kernel_rfl) (fun _ _ _ h => h) (Or.inl ⟨by rfl, ?_⟩) (by assumption) ?_
        rotate_left 1
        · ((intro w hSw; (try dsimp only at hSw); go_simp) <;> with_reducible rfl)
        (try simp only [Act.put, List.setIfInBounds_toArray, List.set_cons_zero, List.set_cons_succ])
        refine wpAnyH_ready (rs := [3, 8]) (by kernel_rfl) (by simp) ?_
        refine AllReadyH.cons (o := { dst := some 45, op := Go.Op.call { callee := Go.Callee.value (Go.Operand.func 40), args := #[Go.Operand.tmp 44], argTypes := #[24] }, type := 4, pos := "subst.go:60", after := #[{ on := 2, ground := Go.Ground.data }], guard := none }) rfl (fun K hK => ?_) ?_
        · go_simp
          (go_at_call 40; have hS := hHeld.1; refine (plainPlace_any t _ _).mono ?_; rintro e wp ⟨rfl, hbn⟩; have hhp := kept_call hS hbn; have hszp : V0.heap.size ≤ wp.heap.size := Below.size hhp; clear hbn hS)
          refine hK.out _ _ ?_ (fun hHeld => ?_)
          · (try dsimp only)
            (((with_reducible refine kept_tp ?_ HCT.out HPC.out); repeat (first | with_reducible assumption | with_reducible exact hk0 | with_reducible refine kept_drew ?_ | with_reducible refine kept_alloc ?_ _ | ((with_reducible refine kept_setA ?_ ?hh _); (case hh => first | exact Nat.le_refl _ | (simp only; omega))))))
          clear hK K
          (try simp only [Act.put, List.setIfInBounds_toArray, List.set_cons_zero, List.set_cons_succ])
          refine wpAnyH_ready (rs := [4, 8]) (by kernel_rfl) (by simp) ?_
          refine AllReadyH.cons (o := { dst := some 46, op := Go.Op.call { callee := Go.Callee.value (Go.Operand.func 39), args := #[Go.Operand.tmp 42, Go.Operand.tmp 43, Go.Operand.const (Go.Value.int Go.IntKind.i64 0), Go.Operand.tmp 45], argTypes := #[47, 24, 3, 4] }, type := 33, pos := "subst.go:60", after := #[{ on := 0, ground := Go.Ground.data }, { on := 1, ground := Go.Ground.data }, { on := 3, ground := Go.Ground.data }, { on := 3, ground := Go.Ground.chain }], guard := none }) rfl (fun K hK => ?_) ?_
          · go_simp
            (go_at_call 39; have hS := hHeld.1; have hnc := Below.size hS; ((with_reducible refine Calls.mono (CIN.out _ hS) ?_); rintro e wm ⟨y, ay, ny, cy, ok, rfl, hbn, hans⟩; have HANS := Lib.hid hans; have hhm := kept_call hS hbn; clear hans hbn hS))
            refine hK.out _ _ ?_ (fun hHeld => ?_)
            · (try dsimp only)
              (((with_reducible refine kept_tp ?_ HCT.out HPC.out); repeat (first | with_reducible assumption | with_reducible exact hk0 | with_reducible refine kept_drew ?_ | with_reducible refine kept_alloc ?_ _ | ((with_reducible refine kept_setA ?_ ?hh _); (case hh => first | exact Nat.le_refl _ | (simp only; omega))))))
            clear hK K
            (try simp only [Act.put, List.setIfInBounds_toArray, List.set_cons_zero, List.set_cons_succ])
            refine wpAnyH_take (i := 5) (oi := { dst := some 41, op := Go.Op.move (Go.Operand.tmp 46), type := 33, pos := "subst.go:60", after := #[{ on := 4, ground := Go.Ground.data }], guard := none }) (v := ?_) rfl (by kernel_rfl) (by kernel_rfl) (by kernel_rfl) (fun _ _ _ h => h) (Or.inl ⟨by rfl, ?_⟩) (by assumption) ?_
            rotate_left 1
            · ((intro w hSw; (try dsimp only at hSw); go_simp) <;> with_reducible rfl)
            (try simp only [Act.put, List.setIfInBounds_toArray, List.set_cons_zero, List.set_cons_succ])
            refine wpAnyH_take (i := 6) (oi := { dst := some 47, op := Go.Op.extract (Go.Operand.tmp 41) 0, type := 24, pos := "subst.go:60", after := #[{ on := 5, ground := Go.Ground.data }], guard := none }) (v := ?_) rfl (by kernel_rfl) (by kernel_rfl) (by kernel_rfl) (fun _ _ _ h => h) (Or.inl ⟨by rfl, ?_⟩) (by assumption) ?_
            rotate_left 1
            · ((intro w hSw; (try dsimp only at hSw); go_simp) <;> with_reducible rfl)
            (try simp only [Act.put, List.setIfInBounds_toArray, List.set_cons_zero, List.set_cons_succ])
            refine wpAnyH_take (i := 7) (oi := { dst := some 48, op := Go.Op.extract (Go.Operand.tmp 41) 1, type := 4, pos := "subst.go:60", after := #[{ on := 5, ground := Go.Ground.data }, { on := 9, ground := Go.Ground.gcOnly Go.Departure.lateStores }], guard := none }) (v := ?_) rfl (by kernel_rfl) (by kernel_rfl) (by kernel_rfl) (fun _ _ _ h => h) (Or.inl ⟨by rfl, ?_⟩) (by assumption) ?_
            rotate_left 1
            · ((intro w hSw; (try dsimp only at hSw); go_simp) <;> with_reducible rfl)
            (try simp only [Act.put, List.setIfInBounds_toArray, List.set_cons_zero, List.set_cons_succ])
            refine wpAnyH_ready (rs := [8]) (by kernel_rfl) (by simp) ?_
            refine AllReadyH.cons (o := { dst := some 10, op := Go.Op.alloc 24, type := 0, pos := "subst.go:60", after := #[], guard := none }) rfl (fun K hK => ?_) ?_
            · go_simp
              refine hK.out _ _ ?_ (fun hHeld => ?_)
              · (try dsimp only)
                (((with_reducible refine kept_tp ?_ HCT.out HPC.out); repeat (first | with_reducible assumption | with_reducible exact hk0 | with_reducible refine kept_drew ?_ | with_reducible refine kept_alloc ?_ _ | ((with_reducible refine kept_setA ?_ ?hh _); (case hh => first | exact Nat.le_refl _ | (simp only; omega))))))
              clear hK K
              (try simp only [Act.put, List.setIfInBounds_toArray, List.set_cons_zero, List.set_cons_succ])
              refine wpAnyH_ready (rs := [9]) (by kernel_rfl) (by simp) ?_
              refine AllReadyH.cons (o := { dst := none, op := Go.Op.store 24 (Go.Operand.tmp 10) (Go.Operand.tmp 47), type := 0, pos := "subst.go:60", after := #[{ on := 8, ground := Go.Ground.data }, { on := 6, ground := Go.Ground.data }, { on := 4, ground := Go.Ground.chain }, { on := 0, ground := Go.Ground.phase }, { on := 1, ground := Go.Ground.phase }, { on := 2, ground := Go.Ground.phase }, { on := 3, ground := Go.Ground.phase }, { on := 4, ground := Go.Ground.phase }, { on := 5, ground := Go.Ground.phase }, { on := 6, ground := Go.Ground.phase }, { on := 7, ground := Go.Ground.textOnly Go.Departure.lateStores }, { on := 8, ground := Go.Ground.phase }], guard := none }) rfl (fun K hK => ?_) ?_
              · go_simp
                refine hK.out _ _ ?_ (fun hHeld => ?_)
                · (try dsimp only)
                  (((with_reducible refine kept_tp ?_ HCT.out HPC.out); repeat (first | with_reducible assumption | with_reducible exact hk0 | with_reducible refine kept_drew ?_ | with_reducible refine kept_alloc ?_ _ | ((with_reducible refine kept_setA ?_ ?hh _); (case hh => first | exact Nat.le_refl _ | (simp only; omega))))))
                clear hK K
                (try simp only [Act.put, List.setIfInBounds_toArray, List.set_cons_zero, List.set_cons_succ])
                refine wpAnyH_take (i := 10) (oi := { dst := some 11, op := Go.Op.assign (Go.Operand.tmp 48), type := 4, pos := "subst.go:60", after := #[{ on := 7, ground := Go.Ground.data }, { on := 9, ground := Go.Ground.chain }, { on := 0, ground := Go.Ground.phase }, { on := 1, ground := Go.Ground.phase }, { on := 2, ground := Go.Ground.phase }, { on := 3, ground := Go.Ground.phase }, { on := 4, ground := Go.Ground.phase }, { on := 5, ground := Go.Ground.phase }, { on := 6, ground := Go.Ground.phase }, { on := 7, ground := Go.Ground.phase }, { on := 8, ground := Go.Ground.phase }, { on := 9, ground := Go.Ground.phase }], guard := none }) (v := ?_) rfl (by kernel_rfl) (by kernel_rfl) (by kernel_rfl) (fun _ _ _ h => h) (Or.inl ⟨by rfl, ?_⟩) (by assumption) ?_
                rotate_left 1
                · ((intro w hSw; (try dsimp only at hSw); go_simp) <;> with_reducible rfl)
                (try simp only [Act.put, List.setIfInBounds_toArray, List.set_cons_zero, List.set_cons_succ])
                refine wpAnyH_done (by kernel_rfl) ?_ _
                rcases HANS.out with ⟨rfl, hr, rfl, hly⟩ | ⟨rfl, hr⟩
                · have hKW := hHeld.1
                  have hl5 : LiesP (wm.alloc (.cells #[.int .i64 y.k, .int .i64 y.i, .int .i64 y.j, .int .i64 y.n, .slice ay y.kids.length cy] 24)) (Own V0.heap.size (wm.alloc (.cells #[.int .i64 y.k, .int .i64 y.i, .int .i64 y.j, .int .i64 y.n, .slice ay y.kids.length cy] 24))) y.kids (.slice ay y.kids.length cy) := (hly.from hnc).later ((Below.refl _ _).alloc (Nat.le_refl _) _)
                  have q5 : (wm.alloc (.cells #[.int .i64 y.k, .int .i64 y.i, .int .i64 y.j, .int .i64 y.n, .slice ay y.kids.length cy] 24)).heap[wm.heap.size]? = some (boxOf y (.slice ay y.kids.length cy)) := alloc_new _ _
                  generalize (wm.alloc (.cells #[.int .i64 y.k, .int .i64 y.i, .int .i64 y.j, .int .i64 y.n, .slice ay y.kids.length cy] 24)) = W5 at hKW hl5 q5 ⊢
                  have z5 := keep_block hKW (block_lt HQ1.out) HQ1.out
                  obtain ⟨x0, x1, x2, x3, x4⟩ := five_cells q5
                  obtain ⟨z0, z1, z2, z3, z4⟩ := five_cells z5
                  obtain ⟨f0, f1, f2, f3, f4⟩ := five_free z5
                  have hB5 := HBV.out.trans (Below.mono hKW HBV.out.size)
                  go_wp2
                  (try simp only [Exit.inBlock, Exit.then])
                  refine bodyPost_ret (results_cell_tmp rfl _ _ (w.heap.size + 1) _ _ _ du rfl (five_set z5) hu1 (by cases du <;> first | rfl | exact hu2) size_term) rfl ?_
                  exact ⟨below_five hB5 (by omega) _ _ _ _ _, Or.inl ⟨y, _, HALL.out.trans hr, rfl, liesP_fives hl5 (by have := HBV.out.size; omega) (by have := HBV.out.size; omega) _ _ _ _ _⟩⟩
                · have hKW := hHeld.1
                  have q5 : (wm.alloc (.cells #[.int .i64 y.k, .int .i64 y.i, .int .i64 y.j, .int .i64 y.n, .slice ay ny cy] 24)).heap[wm.heap.size]? = some (boxOf y (.slice ay ny cy)) := alloc_new _ _
                  generalize (wm.alloc (.cells #[.int .i64 y.k, .int .i64 y.i, .int .i64 y.j, .int .i64 y.n, .slice ay ny cy] 24)) = W5 at hKW q5 ⊢
                  have z5 := keep_block hKW (block_lt HQ1.out) HQ1.out
                  obtain ⟨x0, x1, x2, x3, x4⟩ := five_cells q5
                  obtain ⟨z0, z1, z2, z3, z4⟩ := five_cells z5
                  obtain ⟨f0, f1, f2, f3, f4⟩ := five_free z5
                  have hB5 := HBV.out.trans (Below.mono hKW HBV.out.size)
                  go_wp2
                  (try simp only [Exit.inBlock, Exit.then])
                  refine bodyPost_ret (results_cell_tmp rfl _ _ (w.heap.size + 1) _ _ _ du rfl (five_set z5) hu1 (by cases du <;> first | rfl | exact hu2) size_term) rfl ?_
                  exact ⟨below_five hB5 (by omega) _ _ _ _ _, Or.inr ⟨HALL.out.trans hr, rfl⟩⟩
              exact AllReadyH.nil
            exact AllReadyH.nil
          refine AllReadyH.cons (o := { dst := some 10, op := Go.Op.alloc 24, type := 0, pos := "subst.go:60", after := #[], guard := none }) rfl (fun K hK => ?_) ?_
          · go_simp
            refine hK.out _ _ ?_ (fun hHeld => ?_)
            · (try dsimp only)
              (((with_reducible refine kept_tp ?_ HCT.out HPC.out); repeat (first | with_reducible assumption | with_reducible exact hk0 | with_reducible refine kept_drew ?_ | with_reducible refine kept_alloc ?_ _ | ((with_reducible refine kept_setA ?_ ?hh _); (case hh => first | exact Nat.le_refl _ | (simp only; omega))))))
            clear hK K
            (try simp only [Act.put, List.setIfInBounds_toArray, List.set_cons_zero, List.set_cons_succ])
            have hZ : (wp.alloc zeroObj).heap[wp.heap.size]? = some zeroObj := alloc_new _ _
            refine wpAnyH_ready (rs := [4]) (by kernel_rfl) (by simp) ?_
            refine AllReadyH.cons (o := { dst := some 46, op := Go.Op.call { callee := Go.Callee.value (Go.Operand.func 39), args := #[Go.Operand.tmp 42, Go.Operand.tmp 43, Go.Operand.const (Go.Value.int Go.IntKind.i64 0), Go.Operand.tmp 45], argTypes := #[47, 24, 3, 4] }, type := 33, pos := "subst.go:60", after := #[{ on := 0, ground := Go.Ground.data }, { on := 1, ground := Go.Ground.data }, { on := 3, ground := Go.Ground.data }, { on := 3, ground := Go.Ground.chain }], guard := none }) rfl (fun K hK => ?_) ?_
            · go_simp
              (go_at_call 39; have hS := hHeld.1; have hnc := Below.size hS; have hgc := block_lt hZ; ((with_reducible refine Calls.mono (CIN.out _ hS) ?_); rintro e wm ⟨y, ay, ny, cy, ok, rfl, hbn, hans⟩; have HANS := Lib.hid hans; have hhm := kept_call hS hbn; have hZ := keep_block hbn (block_lt hZ) hZ; obtain ⟨⟨g0, g1, g2, g3, g4⟩, v0, v1, v2, v3, v4⟩ := And.intro (five_cells hZ) (five_free hZ); clear hans hbn hS))
              refine hK.out _ _ ?_ (fun hHeld => ?_)
              · (try dsimp only)
                (((with_reducible refine kept_tp ?_ HCT.out HPC.out); repeat (first | with_reducible assumption | with_reducible exact hk0 | with_reducible refine kept_drew ?_ | with_reducible refine kept_alloc ?_ _ | ((with_reducible refine kept_setA ?_ ?hh _); (case hh => first | exact Nat.le_refl _ | (simp only; omega))))))
              clear hK K
              (try simp only [Act.put, List.setIfInBounds_toArray, List.set_cons_zero, List.set_cons_succ])
              refine wpAnyH_take (i := 5) (oi := { dst := some 41, op := Go.Op.move (Go.Operand.tmp 46), type := 33, pos := "subst.go:60", after := #[{ on := 4, ground := Go.Ground.data }], guard := none }) (v := ?_) rfl (by kernel_rfl) (by kernel_rfl) (by kernel_rfl) (fun _ _ _ h => h) (Or.inl ⟨by rfl, ?_⟩) (by assumption) ?_
              rotate_left 1
              · ((intro w hSw; (try dsimp only at hSw); go_simp) <;> with_reducible rfl)
              (try simp only [Act.put, List.setIfInBounds_toArray, List.set_cons_zero, List.set_cons_succ])
              refine wpAnyH_take (i := 6) (oi := { dst := some 47, op := Go.Op.extract (Go.Operand.tmp 41) 0, type := 24, pos := "subst.go:60", after := #[{ on := 5, ground := Go.Ground.data }], guard := none }) (v := ?_) rfl (by kernel_rfl) (by kernel_rfl) (by kernel_rfl) (fun _ _ _ h => h) (Or.inl ⟨by rfl, ?_⟩) (by assumption) ?_
              rotate_left 1
              · ((intro w hSw; (try dsimp only at hSw); go_simp) <;> with_reducible rfl)
              (try simp only [Act.put, List.setIfInBounds_toArray, List.set_cons_zero, List.set_cons_succ])
              refine wpAnyH_take (i := 7) (oi := { dst := some 48, op := Go.Op.extract (Go.Operand.tmp 41) 1, type := 4, pos := "subst.go:60", after := #[{ on := 5, ground := Go.Ground.data }, { on := 9, ground := Go.Ground.gcOnly Go.Departure.lateStores }], guard := none }) (v := ?_) rfl (by kernel_rfl) (by kernel_rfl) (by kernel_rfl) (fun _ _ _ h => h) (Or.inl ⟨by rfl, ?_⟩) (by assumption) ?_
              rotate_left 1
              · ((intro w hSw; (try dsimp only at hSw); go_simp) <;> with_reducible rfl)
              (try simp only [Act.put, List.setIfInBounds_toArray, List.set_cons_zero, List.set_cons_succ])
              refine wpAnyH_ready (rs := [9]) (by kernel_rfl) (by simp) ?_
              refine AllReadyH.cons (o := { dst := none, op := Go.Op.store 24 (Go.Operand.tmp 10) (Go.Operand.tmp 47), type := 0, pos := "subst.go:60", after := #[{ on := 8, ground := Go.Ground.data }, { on := 6, ground := Go.Ground.data }, { on := 4, ground := Go.Ground.chain }, { on := 0, ground := Go.Ground.phase }, { on := 1, ground := Go.Ground.phase }, { on := 2, ground := Go.Ground.phase }, { on := 3, ground := Go.Ground.phase }, { on := 4, ground := Go.Ground.phase }, { on := 5, ground := Go.Ground.phase }, { on := 6, ground := Go.Ground.phase }, { on := 7, ground := Go.Ground.textOnly Go.Departure.lateStores }, { on := 8, ground := Go.Ground.phase }], guard := none }) rfl (fun K hK => ?_) ?_
              · go_simp
                refine hK.out _ _ ?_ (fun hHeld => ?_)
                · (try dsimp only)
                  (((with_reducible refine kept_tp ?_ HCT.out HPC.out); repeat (first | with_reducible assumption | with_reducible exact hk0 | with_reducible refine kept_drew ?_ | with_reducible refine kept_alloc ?_ _ | ((with_reducible refine kept_setA ?_ ?hh _); (case hh => first | exact Nat.le_refl _ | (simp only; omega))))))
                clear hK K
                (try simp only [Act.put, List.setIfInBounds_toArray, List.set_cons_zero, List.set_cons_succ])
                refine wpAnyH_take (i := 10) (oi := { dst := some 11, op := Go.Op.assign (Go.Operand.tmp 48), type := 4, pos := "subst.go:60", after := #[{ on := 7, ground := Go.Ground.data }, { on := 9, ground := Go.Ground.chain }, { on := 0, ground := Go.Ground.phase }, { on := 1, ground := Go.Ground.phase }, { on := 2, ground := Go.Ground.phase }, { on := 3, ground := Go.Ground.phase }, { on := 4, ground := Go.Ground.phase }, { on := 5, ground := Go.Ground.phase }, { on := 6, ground := Go.Ground.phase }, { on := 7, ground := Go.Ground.phase }, { on := 8, ground := Go.Ground.phase }, { on := 9, ground := Go.Ground.phase }], guard := none }) (v := ?_) rfl (by kernel_rfl) (by kernel_rfl) (by kernel_rfl) (fun _ _ _ h => h) (Or.inl ⟨by rfl, ?_⟩) (by assumption) ?_
                rotate_left 1
                · ((intro w hSw; (try dsimp only at hSw); go_simp) <;> with_reducible rfl)
                (try simp only [Act.put, List.setIfInBounds_toArray, List.set_cons_zero, List.set_cons_succ])
                refine wpAnyH_done (by kernel_rfl) ?_ _
                rcases HANS.out with ⟨rfl, hr, rfl, hly⟩ | ⟨rfl, hr⟩
                · have hKW := hHeld.1
                  have hl5 : LiesP (((((wm.setCell ⟨wp.heap.size, 0, none⟩ (.int .i64 y.k)).setCell ⟨wp.heap.size, 1, none⟩ (.int .i64 y.i)).setCell ⟨wp.heap.size, 2, none⟩ (.int .i64 y.j)).setCell ⟨wp.heap.size, 3, none⟩ (.int .i64 y.n)).setCell ⟨wp.heap.size, 4, none⟩ (.slice ay y.kids.length cy)) (Own V0.heap.size (((((wm.setCell ⟨wp.heap.size, 0, none⟩ (.int .i64 y.k)).setCell ⟨wp.heap.size, 1, none⟩ (.int .i64 y.i)).setCell ⟨wp.heap.size, 2, none⟩ (.int .i64 y.j)).setCell ⟨wp.heap.size, 3, none⟩ (.int .i64 y.n)).setCell ⟨wp.heap.size, 4, none⟩ (.slice ay y.kids.length cy))) y.kids (.slice ay y.kids.length cy) := liesP_fives hly hgc hnc _ _ _ _ _
                  have q5 : (((((wm.setCell ⟨wp.heap.size, 0, none⟩ (.int .i64 y.k)).setCell ⟨wp.heap.size, 1, none⟩ (.int .i64 y.i)).setCell ⟨wp.heap.size, 2, none⟩ (.int .i64 y.j)).setCell ⟨wp.heap.size, 3, none⟩ (.int .i64 y.n)).setCell ⟨wp.heap.size, 4, none⟩ (.slice ay y.kids.length cy)).heap[wp.heap.size]? = some (boxOf y (.slice ay y.kids.length cy)) := five_set hZ
                  generalize (((((wm.setCell ⟨wp.heap.size, 0, none⟩ (.int .i64 y.k)).setCell ⟨wp.heap.size, 1, none⟩ (.int .i64 y.i)).setCell ⟨wp.heap.size, 2, none⟩ (.int .i64 y.j)).setCell ⟨wp.heap.size, 3, none⟩ (.int .i64 y.n)).setCell ⟨wp.heap.size, 4, none⟩ (.slice ay y.kids.length cy)) = W5 at hKW hl5 q5 ⊢
                  have z5 := keep_block hKW (block_lt HQ1.out) HQ1.out
                  obtain ⟨x0, x1, x2, x3, x4⟩ := five_cells q5
                  obtain ⟨z0, z1, z2, z3, z4⟩ := five_cells z5
                  obtain ⟨f0, f1, f2, f3, f4⟩ := five_free z5
                  have hB5 := HBV.out.trans (Below.mono hKW HBV.out.size)
                  go_wp2
                  (try simp only [Exit.inBlock, Exit.then])
                  refine bodyPost_ret (results_cell_tmp rfl _ _ (w.heap.size + 1) _ _ _ du rfl (five_set z5) hu1 (by cases du <;> first | rfl | exact hu2) size_term) rfl ?_
                  exact ⟨below_five hB5 (by omega) _ _ _ _ _, Or.inl ⟨y, _, HALL.out.trans hr, rfl, liesP_fives hl5 (by have := HBV.out.size; omega) (by have := HBV.out.size; omega) _ _ _ _ _⟩⟩
                · have hKW := hHeld.1
                  have q5 : (((((wm.setCell ⟨wp.heap.size, 0, none⟩ (.int .i64 y.k)).setCell ⟨wp.heap.size, 1, none⟩ (.int .i64 y.i)).setCell ⟨wp.heap.size, 2, none⟩ (.int .i64 y.j)).setCell ⟨wp.heap.size, 3, none⟩ (.int .i64 y.n)).setCell ⟨wp.heap.size, 4, none⟩ (.slice ay ny cy)).heap[wp.heap.size]? = some (boxOf y (.slice ay ny cy)) := five_set hZ
                  generalize (((((wm.setCell ⟨wp.heap.size, 0, none⟩ (.int .i64 y.k)).setCell ⟨wp.heap.size, 1, none⟩ (.int .i64 y.i)).setCell ⟨wp.heap.size, 2, none⟩ (.int .i64 y.j)).setCell ⟨wp.heap.size, 3, none⟩ (.int .i64 y.n)).setCell ⟨wp.heap.size, 4, none⟩ (.slice ay ny cy)) = W5 at hKW q5 ⊢
                  have z5 := keep_block hKW (block_lt HQ1.out) HQ1.out
                  obtain ⟨x0, x1, x2, x3, x4⟩ := five_cells q5
                  obtain ⟨z0, z1, z2, z3, z4⟩ := five_cells z5
                  obtain ⟨f0, f1, f2, f3, f4⟩ := five_free z5
                  have hB5 := HBV.out.trans (Below.mono hKW HBV.out.size)
                  go_wp2
                  (try simp only [Exit.inBlock, Exit.then])
                  refine bodyPost_ret (results_cell_tmp rfl _ _ (w.heap.size + 1) _ _ _ du rfl (five_set z5) hu1 (by cases du <;> first | rfl | exact hu2) size_term) rfl ?_
                  exact ⟨below_five hB5 (by omega) _ _ _ _ _, Or.inr ⟨HALL.out.trans hr, rfl⟩⟩
              exact AllReadyH.nil
            exact AllReadyH.nil
          exact AllReadyH.nil
        refine AllReadyH.cons (o := { dst := some 10, op := Go.Op.alloc 24, type := 0, pos := "subst.go:60", after := #[], guard := none }) rfl (fun K hK => ?_) ?_
        · go_simp
          refine hK.out _ _ ?_ (fun hHeld => ?_)
          · (try dsimp only)
            (((with_reducible refine kept_tp ?_ HCT.out HPC.out); repeat (first | with_reducible assumption | with_reducible exact hk0 | with_reducible refine kept_drew ?_ | with_reducible refine kept_alloc ?_ _ | ((with_reducible refine kept_setA ?_ ?hh _); (case hh => first | exact Nat.le_refl _ | (simp only; omega))))))
          clear hK K
          (try simp only [Act.put, List.setIfInBounds_toArray, List.set_cons_zero, List.set_cons_succ])
          have hZ : (V0.drew.alloc zeroObj).heap[V0.heap.size]? = some zeroObj := alloc_new _ _
          refine wpAnyH_ready (rs := [3]) (by kernel_rfl) (by simp) ?_
          refine AllReadyH.cons (o := { dst := some 45, op := Go.Op.call { callee := Go.Callee.value (Go.Operand.func 40), args := #[Go.Operand.tmp 44], argTypes := #[24] }, type := 4, pos := "subst.go:60", after := #[{ on := 2, ground := Go.Ground.data }], guard := none }) rfl (fun K hK => ?_) ?_
          · go_simp
            (go_at_call 40; have hS := hHeld.1; refine (plainPlace_any t _ _).mono ?_; rintro e wp ⟨rfl, hbn⟩; have hhp := kept_call hS hbn; have hszp : V0.heap.size ≤ wp.heap.size := Below.size hhp; have hZ := keep_block hbn (block_lt hZ) hZ; clear hbn hS)
            refine hK.out _ _ ?_ (fun hHeld => ?_)
            · (try dsimp only)
              (((with_reducible refine kept_tp ?_ HCT.out HPC.out); repeat (first | with_reducible assumption | with_reducible exact hk0 | with_reducible refine kept_drew ?_ | with_reducible refine kept_alloc ?_ _ | ((with_reducible refine kept_setA ?_ ?hh _); (case hh => first | exact Nat.le_refl _ | (simp only; omega))))))
            clear hK K
            (try simp only [Act.put, List.setIfInBounds_toArray, List.set_cons_zero, List.set_cons_succ])
            refine wpAnyH_ready (rs := [4]) (by kernel_rfl) (by simp) ?_
            refine AllReadyH.cons (o := { dst := some 46, op := Go.Op.call { callee := Go.Callee.value (Go.Operand.func 39), args := #[Go.Operand.tmp 42, Go.Operand.tmp 43, Go.Operand.const (Go.Value.int Go.IntKind.i64 0), Go.Operand.tmp 45], argTypes := #[47, 24, 3, 4] }, type := 33, pos := "subst.go:60", after := #[{ on := 0, ground := Go.Ground.data }, { on := 1, ground := Go.Ground.data }, { on := 3, ground := Go.Ground.data }, { on := 3, ground := Go.Ground.chain }], guard := none }) rfl (fun K hK => ?_) ?_
            · go_simp
              (go_at_call 39; have hS := hHeld.1; have hnc := Below.size hS; have hgc := block_lt hZ; ((with_reducible refine Calls.mono (CIN.out _ hS) ?_); rintro e wm ⟨y, ay, ny, cy, ok, rfl, hbn, hans⟩; have HANS := Lib.hid hans; have hhm := kept_call hS hbn; have hZ := keep_block hbn (block_lt hZ) hZ; obtain ⟨⟨g0, g1, g2, g3, g4⟩, v0, v1, v2, v3, v4⟩ := And.intro (five_cells hZ) (five_free hZ); clear hans hbn hS))
              refine hK.out _ _ ?_ (fun hHeld => ?_)
              · (try dsimp only)
                (((with_reducible refine kept_tp ?_ HCT.out HPC.out); repeat (first | with_reducible assumption | with_reducible exact hk0 | with_reducible refine kept_drew ?_ | with_reducible refine kept_alloc ?_ _ | ((with_reducible refine kept_setA ?_ ?hh _); (case hh => first | exact Nat.le_refl _ | (simp only; omega))))))
              clear hK K
              (try simp only [Act.put, List.setIfInBounds_toArray, List.set_cons_zero, List.set_cons_succ])
              refine wpAnyH_take (i := 5) (oi := { dst := some 41, op := Go.Op.move (Go.Operand.tmp 46), type := 33, pos := "subst.go:60", after := #[{ on := 4, ground := Go.Ground.data }], guard := none }) (v := ?_) rfl (by kernel_rfl) (by kernel_rfl) (by kernel_rfl) (fun _ _ _ h => h) (Or.inl ⟨by rfl, ?_⟩) (by assumption) ?_
              rotate_left 1
              · ((intro w hSw; (try dsimp only at hSw); go_simp) <;> with_reducible rfl)
              (try simp only [Act.put, List.setIfInBounds_toArray, List.set_cons_zero, List.set_cons_succ])
              refine wpAnyH_take (i := 6) (oi := { dst := some 47, op := Go.Op.extract (Go.Operand.tmp 41) 0, type := 24, pos := "subst.go:60", after := #[{ on := 5, ground := Go.Ground.data }], guard := none }) (v := ?_) rfl (by kernel_rfl) (by kernel_rfl) (by kernel_rfl) (fun _ _ _ h => h) (Or.inl ⟨by rfl, ?_⟩) (by assumption) ?_
              rotate_left 1
              · ((intro w hSw; (try dsimp only at hSw); go_simp) <;> with_reducible rfl)
              (try simp only [Act.put, List.setIfInBounds_toArray, List.set_cons_zero, List.set_cons_succ])
              refine wpAnyH_take (i := 7) (oi := { dst := some 48, op := Go.Op.extract (Go.Operand.tmp 41) 1, type := 4, pos := "subst.go:60", after := #[{ on := 5, ground := Go.Ground.data }, { on := 9, ground := Go.Ground.gcOnly Go.Departure.lateStores }], guard := none }) (v := ?_) rfl (by kernel_rfl) (by kernel_rfl) (by kernel_rfl) (fun _ _ _ h => h) (Or.inl ⟨by rfl, ?_⟩) (by assumption) ?_
              rotate_left 1
              · ((intro w hSw; (try dsimp only at hSw); go_simp) <;> with_reducible rfl)
              (try simp only [Act.put, List.setIfInBounds_toArray, List.set_cons_zero, List.set_cons_succ])
              refine wpAnyH_ready (rs := [9]) (by kernel_rfl) (by simp) ?_
              refine AllReadyH.cons (o := { dst := none, op := Go.Op.store 24 (Go.Operand.tmp 10) (Go.Operand.tmp 47), type := 0, pos := "subst.go:60", after := #[{ on := 8, ground := Go.Ground.data }, { on := 6, ground := Go.Ground.data }, { on := 4, ground := Go.Ground.chain }, { on := 0, ground := Go.Ground.phase }, { on := 1, ground := Go.Ground.phase }, { on := 2, ground := Go.Ground.phase }, { on := 3, ground := Go.Ground.phase }, { on := 4, ground := Go.Ground.phase }, { on := 5, ground := Go.Ground.phase }, { on := 6, ground := Go.Ground.phase }, { on := 7, ground := Go.Ground.textOnly Go.Departure.lateStores }, { on := 8, ground := Go.Ground.phase }], guard := none }) rfl (fun K hK => ?_) ?_
              · go_simp
                refine hK.out _ _ ?_ (fun hHeld => ?_)
                · (try dsimp only)
                  (((with_reducible refine kept_tp ?_ HCT.out HPC.out); repeat (first | with_reducible assumption | with_reducible exact hk0 | with_reducible refine kept_drew ?_ | with_reducible refine kept_alloc ?_ _ | ((with_reducible refine kept_setA ?_ ?hh _); (case hh => first | exact Nat.le_refl _ | (simp only; omega))))))
                clear hK K
                (try simp only [Act.put, List.setIfInBounds_toArray, List.set_cons_zero, List.set_cons_succ])
                refine wpAnyH_take (i := 10) (oi := { dst := some 11, op := Go.Op.assign (Go.Operand.tmp 48), type := 4, pos := "subst.go:60", after := #[{ on := 7, ground := Go.Ground.data }, { on := 9, ground := Go.Ground.chain }, { on := 0, ground := Go.Ground.phase }, { on := 1, ground := Go.Ground.phase }, { on := 2, ground := Go.Ground.phase }, { on := 3, ground := Go.Ground.phase }, { on := 4, ground := Go.Ground.phase }, { on := 5, ground := Go.Ground.phase }, { on := 6, ground := Go.Ground.phase }, { on := 7, ground := Go.Ground.phase }, { on := 8, ground := Go.Ground.phase }, { on := 9, ground := Go.Ground.phase }], guard := none }) (v := ?_) rfl (by kernel_rfl) (by kernel_rfl) (by kernel_rfl) (fun _ _ _ h => h) (Or.inl ⟨by rfl, ?_⟩) (by assumption) ?_
                rotate_left 1
                · ((intro w hSw; (try dsimp only at hSw); go_simp) <;> with_reducible rfl)
                (try simp only [Act.put, List.setIfInBounds_toArray, List.set_cons_zero, List.set_cons_succ])
                refine wpAnyH_done (by kernel_rfl) ?_ _
                rcases HANS.out with ⟨rfl, hr, rfl, hly⟩ | ⟨rfl, hr⟩
                · have hKW := hHeld.1
                  have hl5 : LiesP (((((wm.setCell ⟨V0.heap.size, 0, none⟩ (.int .i64 y.k)).setCell ⟨V0.heap.size, 1, none⟩ (.int .i64 y.i)).setCell ⟨V0.heap.size, 2, none⟩ (.int .i64 y.j)).setCell ⟨V0.heap.size, 3, none⟩ (.int .i64 y.n)).setCell ⟨V0.heap.size, 4, none⟩ (.slice ay y.kids.length cy)) (Own V0.heap.size (((((wm.setCell ⟨V0.heap.size, 0, none⟩ (.int .i64 y.k)).setCell ⟨V0.heap.size, 1, none⟩ (.int .i64 y.i)).setCell ⟨V0.heap.size, 2, none⟩ (.int .i64 y.j)).setCell ⟨V0.heap.size, 3, none⟩ (.int .i64 y.n)).setCell ⟨V0.heap.size, 4, none⟩ (.slice ay y.kids.length cy))) y.kids (.slice ay y.kids.length cy) := liesP_fives hly hgc hnc _ _ _ _ _
                  have q5 : (((((wm.setCell ⟨V0.heap.size, 0, none⟩ (.int .i64 y.k)).setCell ⟨V0.heap.size, 1, none⟩ (.int .i64 y.i)).setCell ⟨V0.heap.size, 2, none⟩ (.int .i64 y.j)).setCell ⟨V0.heap.size, 3, none⟩ (.int .i64 y.n)).setCell ⟨V0.heap.size, 4, none⟩ (.slice ay y.kids.length cy)).heap[V0.heap.size]? = some (boxOf y (.slice ay y.kids.length cy)) := five_set hZ
                  generalize (((((wm.setCell ⟨V0.heap.size, 0, none⟩ (.int .i64 y.k)).setCell ⟨V0.heap.size, 1, none⟩ (.int .i64 y.i)).setCell ⟨V0.heap.size, 2, none⟩ (.int .i64 y.j)).setCell ⟨V0.heap.size, 3, none⟩ (.int .i64 y.n)).setCell ⟨V0.heap.size, 4, none⟩ (.slice ay y.kids.length cy)) = W5 at hKW hl5 q5 ⊢
                  have z5 := keep_block hKW (block_lt HQ1.out) HQ1.out
                  obtain ⟨x0, x1, x2, x3, x4⟩ := five_cells q5
                  obtain ⟨z0, z1, z2, z3, z4⟩ := five_cells z5
                  obtain ⟨f0, f1, f2, f3, f4⟩ := five_free z5
                  have hB5 := HBV.out.trans (Below.mono hKW HBV.out.size)
                  go_wp2
                  (try simp only [Exit.inBlock, Exit.then])
                  refine bodyPost_ret (results_cell_tmp rfl _ _ (w.heap.size + 1) _ _ _ du rfl (five_set z5) hu1 (by cases du <;> first | rfl | exact hu2) size_term) rfl ?_
                  exact ⟨below_five hB5 (by omega) _ _ _ _ _, Or.inl ⟨y, _, HALL.out.trans hr, rfl, liesP_fives hl5 (by have := HBV.out.size; omega) (by have := HBV.out.size; omega) _ _ _ _ _⟩⟩
                · have hKW := hHeld.1
                  have q5 : (((((wm.setCell ⟨V0.heap.size, 0, none⟩ (.int .i64 y.k)).setCell ⟨V0.heap.size, 1, none⟩ (.int .i64 y.i)).setCell ⟨V0.heap.size, 2, none⟩ (.int .i64 y.j)).setCell ⟨V0.heap.size, 3, none⟩ (.int .i64 y.n)).setCell ⟨V0.heap.size, 4, none⟩ (.slice ay ny cy)).heap[V0.heap.size]? = some (boxOf y (.slice ay ny cy)) := five_set hZ
                  generalize (((((wm.setCell ⟨V0.heap.size, 0, none⟩ (.int .i64 y.k)).setCell ⟨V0.heap.size, 1, none⟩ (.int .i64 y.i)).setCell ⟨V0.heap.size, 2, none⟩ (.int .i64 y.j)).setCell ⟨V0.heap.size, 3, none⟩ (.int .i64 y.n)).setCell ⟨V0.heap.size, 4, none⟩ (.slice ay ny cy)) = W5 at hKW q5 ⊢
                  have z5 := keep_block hKW (block_lt HQ1.out) HQ1.out
                  obtain ⟨x0, x1, x2, x3, x4⟩ := five_cells q5
                  obtain ⟨z0, z1, z2, z3, z4⟩ := five_cells z5
                  obtain ⟨f0, f1, f2, f3, f4⟩ := five_free z5
                  have hB5 := HBV.out.trans (Below.mono hKW HBV.out.size)
                  go_wp2
                  (try simp only [Exit.inBlock, Exit.then])
                  refine bodyPost_ret (results_cell_tmp rfl _ _ (w.heap.size + 1) _ _ _ du rfl (five_set z5) hu1 (by cases du <;> first | rfl | exact hu2) size_term) rfl ?_
                  exact ⟨below_five hB5 (by omega) _ _ _ _ _, Or.inr ⟨HALL.out.trans hr, rfl⟩⟩
              exact AllReadyH.nil
            exact AllReadyH.nil
          exact AllReadyH.nil
        exact AllReadyH.nil
end Go.Proofs.Ytmhmengbhdaodaa
