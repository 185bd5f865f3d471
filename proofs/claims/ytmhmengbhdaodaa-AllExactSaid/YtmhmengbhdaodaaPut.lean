/-
  subst.Put.
-/
import Derived.Test.YtmhmengbhdaodaaIn
import Derived.Laws.EntriesVeiled
import Derived.Test.YtmhmengbhdaodaaPutLaws
namespace Go.Proofs.Ytmhmengbhdaodaa
open Go.RowKit

theorem kept_set_ {v w : World} {p : Addr} (h : Kept v w) (hp : v.heap.size ≤ p.block) (x : Value) : Kept v (w.setCell p x) := Below.setCell h hp x
theorem gPut_fine {u : Tm} (hu : u.rightB = true) : ∀ v b pl x, 0 ≤ v → v ≤ 2147483647 → 0 ≤ b → gPut u v b pl = some x → x.fine := by
  intro v b pl x h0 h1 hb hx
  unfold gPut at hx
  split at hx
  · cases hx; exact right_fine (var_right h0 h1).2.2
  · split at hx
    · exact right_fine (right_each _ (liftF_range b 0 hb) _ 0 x (bareIf_right hu pl) hx)
    · cases hx; exact right_fine (var_right (by omega) (by omega)).2.2

theorem kept_tp {w w' : World} {b0 : Nat} {v00 v01 v02 v03 v04 v : Value} {p : Addr} (h : Kept w w') (H : w.cell? ⟨b0, 0, none⟩ = some v00 ∧ w.cell? ⟨b0, 1, none⟩ = some v01 ∧ w.cell? ⟨b0, 2, none⟩ = some v02 ∧ w.cell? ⟨b0, 3, none⟩ = some v03 ∧ w.cell? ⟨b0, 4, none⟩ = some v04) (hp : w.cell? p = some v) : Kept w w' ∧ w'.cell? ⟨b0, 0, none⟩ = some v00 ∧ w'.cell? ⟨b0, 1, none⟩ = some v01 ∧ w'.cell? ⟨b0, 2, none⟩ = some v02 ∧ w'.cell? ⟨b0, 3, none⟩ = some v03 ∧ w'.cell? ⟨b0, 4, none⟩ = some v04 ∧ w'.cell? p = some v := by
  obtain ⟨c00, c01, c02, c03, c04⟩ := H
  exact ⟨h, cell_lat h c00, cell_lat h c01, cell_lat h c02, cell_lat h c03, cell_lat h c04, cell_lat h hp⟩
/-- What Put's own function reads. -/
def PutI (u : Tm) (bv : Nat) (a1 a2 : Option Addr) (p1 p2 : Nat) (w : World) : Prop := (∃ fr, w.heap[bv]? = some (.cells #[.int .i64 u.k, .int .i64 u.i, .int .i64 u.j, .int .i64 u.n, .slice a1 u.kids.length p1, .int .i64 u.bare.k, .int .i64 u.bare.i, .int .i64 u.bare.j, .int .i64 u.bare.n, .slice a2 u.bare.kids.length p2] 44 fr)) ∧
  Lies w u.kids (.slice a1 u.kids.length p1) ∧ Lies w u.bare.kids (.slice a2 u.bare.kids.length p2)
theorem putI_later (u : Tm) (bv : Nat) (a1 a2 : Option Addr) (p1 p2 : Nat) : ∀ w w' : World, PutI u bv a1 a2 p1 p2 w → Below w.heap.size w w' → PutI u bv a1 a2 p1 p2 w' := by
  rintro w w' ⟨⟨fr, h⟩, h1, h2⟩ hb
  exact ⟨⟨fr, keep_block hb (block_lt h) h⟩, h1.keep hb, h2.keep hb⟩
theorem put_in {u : Tm} (hu : u.rightB = true) (hd : u.deep ≤ 100000) (bv : Nat) (a1 a2 : Option Addr) (p1 p2 : Nat) (t : Tm) (pl : Bool) (w : World) (s : Value) (hl : Lies w t.kids s) (hr : t.rightB = true) (hdt : t.deep ≤ 100000) (hI : PutI u bv a1 a2 p1 p2 w) :
    Calls Try.prog 39 #[.agg #[.func (.func 38) #[] #[.pointer (some ⟨bv, 0, none⟩)]], tv t s, .int .i64 0, .bool pl] w (GivesY (t.putG (gPut u) 0 pl) w) :=
  (in_any (gPut u) 38 bv (PutI u bv a1 a2 p1 p2) (putI_later u bv a1 a2 p1 p2) (fun v b pl w hI h0 h1 hb0 hb1 => by obtain ⟨⟨fr, h⟩, h3, h4⟩ := hI; exact variable_put u hu hd bv a1 a2 p1 p2 fr v b pl w h0 h1 hb0 hb1 h h3 h4) (gPut_fine hu) t 0 pl w s hl hr (Int.le_refl _) (by omega) hI).mono fun e w' h => h.ans

set_option maxRecDepth 20000 in
set_option maxHeartbeats 4000000 in
theorem put_any (t u : Tm) (w : World) (s r : Value) (hl : Lies w t.kids s) (hm : Lies w u.kids r) (hdt : t.deep ≤ 100000) (hdu : u.deep ≤ 100000) : Calls Try.prog 16 #[tv t s, tv u r] w (Makes (t.putB u) w) := by
  obtain ⟨a, cap, S, rfl, -⟩ := hl.out
  obtain ⟨a2, cap2, S2, rfl, -⟩ := hm.out
  obtain ⟨du, hu1, hu2⟩ := under_term
  have hb3 := below_three w (.cells #[.int .i64 t.k, .int .i64 t.i, .int .i64 t.j, .int .i64 t.n, .slice a t.kids.length cap] 24) (.cells #[.int .i64 u.k, .int .i64 u.i, .int .i64 u.j, .int .i64 u.n, .slice a2 u.kids.length cap2] 24) (.cells #[.int .i64 0, .int .i64 0, .int .i64 0, .int .i64 0, .slice none 0 0] 24)
  obtain ⟨q0, q1, q2, -⟩ := heap_three w (.cells #[.int .i64 t.k, .int .i64 t.i, .int .i64 t.j, .int .i64 t.n, .slice a t.kids.length cap] 24) (.cells #[.int .i64 u.k, .int .i64 u.i, .int .i64 u.j, .int .i64 u.n, .slice a2 u.kids.length cap2] 24) (.cells #[.int .i64 0, .int .i64 0, .int .i64 0, .int .i64 0, .slice none 0 0] 24)
  have HL := Lib.hid (hl.keep hb3)
  have HM := Lib.hid (hm.keep hb3)
  clear hl hm
  unfold tv
  cases h1 : t.rightB with
  | false =>
    have HR := Lib.hid (show t.putB u = .zero by unfold Tm.putB; rw [if_neg (by rw [h1]; simp)])
    go_enter Try.func16, Try.ntmps16
    go_wp2_with fail
    refine (right_any t _ _ HL.out).mono ?_
    rw [h1]
    rintro e w1 ⟨rfl, hb1⟩
    have t2 := keep_block hb1 (block_lt q2) q2
    obtain ⟨z0, z1, z2, z3, z4⟩ := five_cells t2
    obtain ⟨f0, f1, f2, f3, f4⟩ := five_free t2
    have HB := Lib.hid (hb3.trans (hb1.mono hb3.size))
    clear hb1 q0 q1 q2 hb3
    go_wp2
    (try simp only [Exit.inBlock, Exit.then])
    refine bodyPost_ret (results_cell_row rfl _ _ (w.heap.size + 1 + 1) _ _ _ du rfl (five_set t2) hu1 (by cases du <;> first | rfl | exact hu2) size_term) rfl ?_
    rw [HR.out]
    exact ⟨.slice none 0 0, rfl, liesP_nil _ _, below_five HB.out (by omega) _ _ _ _ _⟩
  | true =>
  have hfm := fits_may u h1
  cases h2 : fitsB t u with
  | false =>
    have HR := Lib.hid (show t.putB u = .zero by unfold Tm.putB; rw [if_neg (by rw [← hfm, h2]; simp)])
    clear hfm
    go_enter Try.func16, Try.ntmps16
    go_wp2_with fail
    refine (right_any t _ _ HL.out).mono ?_
    rw [h1]
    rintro e w1 ⟨rfl, hb1⟩
    have t0 := keep_block hb1 (block_lt q0) q0
    have t1 := keep_block hb1 (block_lt q1) q1
    have t2 := keep_block hb1 (block_lt q2) q2
    obtain ⟨d0, d1, d2, d3, d4⟩ := five_cells t0
    obtain ⟨c0, c1, c2, c3, c4⟩ := five_cells t1
    have HB := hb3.trans (hb1.mono hb3.size)
    go_wp2_with fail
    refine (fits_any t u _ _ _ (HL.out.keep hb1) (HM.out.keep hb1)).mono ?_
    rw [h2]
    rintro e w2 ⟨rfl, hb2⟩
    have t3 := keep_block hb2 (block_lt t2) t2
    obtain ⟨z0, z1, z2, z3, z4⟩ := five_cells t3
    obtain ⟨f0, f1, f2, f3, f4⟩ := five_free t3
    have HB2 := Lib.hid (HB.trans (hb2.mono HB.size))
    clear hb1 hb2 q0 q1 q2 hb3 HB t0 t1 t2 d0 d1 d2 d3 d4 c0 c1 c2 c3 c4
    go_wp2
    (try simp only [Exit.inBlock, Exit.then])
    refine bodyPost_ret (results_cell_row rfl _ _ (w.heap.size + 1 + 1) _ _ _ du rfl (five_set t3) hu1 (by cases du <;> first | rfl | exact hu2) size_term) rfl ?_
    rw [HR.out]
    exact ⟨.slice none 0 0, rfl, liesP_nil _ _, below_five HB2.out (by omega) _ _ _ _ _⟩
  | true =>
  have hmy : mayB t u = true := hfm.symm.trans h2
  have hur := may_right hmy
  have HR := Lib.hid (show t.putB u = (t.putG (gPut u) 0 (decide (12 < t.k))).getD .zero by unfold Tm.putB; rw [if_pos ⟨h1, hmy⟩])
  have HUR := Lib.hid hur
  have HSB := Lib.hid (stripB_good hur)
  clear hfm hmy hur
  go_enter Try.func16, Try.ntmps16
  go_wp2_with fail
  refine (right_any t _ _ HL.out).mono ?_
  rw [h1]
  rintro e w1 ⟨rfl, hb1⟩
  have t0 := keep_block hb1 (block_lt q0) q0
  have t1 := keep_block hb1 (block_lt q1) q1
  have t2 := keep_block hb1 (block_lt q2) q2
  obtain ⟨d0, d1, d2, d3, d4⟩ := five_cells t0
  obtain ⟨c0, c1, c2, c3, c4⟩ := five_cells t1
  have HB := hb3.trans (hb1.mono hb3.size)
  go_wp2_with fail
  refine (fits_any t u _ _ _ (HL.out.keep hb1) (HM.out.keep hb1)).mono ?_
  rw [h2]
  rintro e v0 ⟨rfl, hb2⟩
  have r0 := keep_block hb2 (block_lt t0) t0
  have r1 := keep_block hb2 (block_lt t1) t1
  have r2 := keep_block hb2 (block_lt t2) t2
  have HB0 := Lib.hid (HB.trans (hb2.mono HB.size))
  have HLT := Lib.hid ((HL.out.keep hb1).keep hb2)
  have HLU := Lib.hid ((HM.out.keep hb1).keep hb2)
  have HCT := Lib.hid (five_cells r0)
  have HCU := Lib.hid (five_cells r1)
  have HQ2 := Lib.hid r2
  have hN2 : w.heap.size + 1 + 1 < v0.heap.size := block_lt r2
  have hN1 : w.heap.size + 1 < v0.heap.size := by omega
  have hN0 : w.heap.size < v0.heap.size := by omega
  have hK0 := kept_start v0
  clear hb1 hb2 q0 q1 q2 hb3 HB t0 t1 t2 d0 d1 d2 d3 d4 c0 c1 c2 c3 c4 r0 r2
  obtain ⟨c0, c1, c2, c3, c4⟩ := five_cells r1
  clear r1
  have hcall : ∀ w', Kept v0 w' → Calls Try.prog 11 #[tv u (.slice a2 u.kids.length cap2)] w' (Makes u.bare w') := fun w' h => by
    have := strip_any u w' _ (kept_lies h HLU.out)
    rw [HSB.out] at this; exact this
  have CALLB := Lib.hid (hcall v0.drew (kept_drew hK0))
  have CALLA := Lib.hid ((hcall (v0.alloc (.cells #[.int .i64 0, .int .i64 0, .int .i64 0, .int .i64 0, .slice none 0 0, .int .i64 0, .int .i64 0, .int .i64 0, .int .i64 0, .slice none 0 0] 44)).drew (kept_drew (kept_alloc hK0 _))).mono fun e w'' h => And.intro h (show w''.heap[v0.heap.size]? = some (.cells #[.int .i64 0, .int .i64 0, .int .i64 0, .int .i64 0, .slice none 0 0, .int .i64 0, .int .i64 0, .int .i64 0, .int .i64 0, .slice none 0 0] 44) by
    obtain ⟨s', -, -, hb⟩ := h
    exact keep_block hb (by show v0.heap.size < (v0.alloc (.cells #[.int .i64 0, .int .i64 0, .int .i64 0, .int .i64 0, .slice none 0 0, .int .i64 0, .int .i64 0, .int .i64 0, .int .i64 0, .slice none 0 0] 44)).heap.size; simp) (alloc_new v0 (.cells #[.int .i64 0, .int .i64 0, .int .i64 0, .int .i64 0, .slice none 0 0, .int .i64 0, .int .i64 0, .int .i64 0, .int .i64 0, .slice none 0 0] 44))))
  clear hcall
  go_wp2_with fail
  go_region_held3 (fun w' => Kept v0 w' ∧ w'.cell? ⟨w.heap.size + 1, 0, none⟩ = some (.int .i64 u.k) ∧ w'.cell? ⟨w.heap.size + 1, 1, none⟩ = some (.int .i64 u.i) ∧ w'.cell? ⟨w.heap.size + 1, 2, none⟩ = some (.int .i64 u.j) ∧ w'.cell? ⟨w.heap.size + 1, 3, none⟩ = some (.int .i64 u.n) ∧ w'.cell? ⟨w.heap.size + 1, 4, none⟩ = some (.slice a2 u.kids.length cap2))
    (((with_reducible refine kept_boxes1 ?_ HCU.out); repeat (first | with_reducible assumption | with_reducible exact hK0 | with_reducible refine kept_drew ?_ | with_reducible refine kept_alloc ?_ _ | ((with_reducible refine kept_set_ ?_ ?hh _); (case hh => simp)))))
    (first | (go_at_call 11; ((with_reducible refine Calls.mono CALLB.out ?_); rintro e wn ⟨s8, rfl, hl8, hbn⟩; obtain ⟨a8, cap8, rfl, -, -⟩ := hl8.out; have HL8 := Lib.hid hl8; clear hl8; have hh := kept_call (kept_drew hK0) hbn; obtain ⟨-, m0, m1, m2, m3, m4⟩ := kept_boxes1 hh HCU.out)) | (go_at_call 11; ((with_reducible refine Calls.mono CALLA.out ?_); rintro e wn ⟨⟨s8, rfl, hl8, hbn⟩, hZ⟩; obtain ⟨a8, cap8, rfl, -, -⟩ := hl8.out; have HL8 := Lib.hid hl8; clear hl8; obtain ⟨g0, g1, g2, g3, g4, g5, g6, g7, g8, g9⟩ := ten_cells hZ; have k0 := ten_free hZ 0; have k1 := ten_free hZ 1; have k2 := ten_free hZ 2; have k3 := ten_free hZ 3; have k4 := ten_free hZ 4; have k5 := ten_free hZ 5; have k6 := ten_free hZ 6; have k7 := ten_free hZ 7; have k8 := ten_free hZ 8; have k9 := ten_free hZ 9; have hh := kept_call (kept_drew (kept_alloc hK0 _)) hbn; obtain ⟨-, m0, m1, m2, m3, m4⟩ := kept_boxes1 hh HCU.out)))
  · have hKW : Kept v0 (wn.alloc (.cells #[.int .i64 u.k, .int .i64 u.i, .int .i64 u.j, .int .i64 u.n, .slice a2 u.kids.length cap2, .int .i64 u.bare.k, .int .i64 u.bare.i, .int .i64 u.bare.j, .int .i64 u.bare.n, .slice a8 u.bare.kids.length cap8] 44)) := kept_alloc hh _
    have hV : (wn.alloc (.cells #[.int .i64 u.k, .int .i64 u.i, .int .i64 u.j, .int .i64 u.n, .slice a2 u.kids.length cap2, .int .i64 u.bare.k, .int .i64 u.bare.i, .int .i64 u.bare.j, .int .i64 u.bare.n, .slice a8 u.bare.kids.length cap8] 44)).heap[wn.heap.size]? = some (.cells #[.int .i64 u.k, .int .i64 u.i, .int .i64 u.j, .int .i64 u.n, .slice a2 u.kids.length cap2, .int .i64 u.bare.k, .int .i64 u.bare.i, .int .i64 u.bare.j, .int .i64 u.bare.n, .slice a8 u.bare.kids.length cap8] 44) := alloc_new _ _
    have hLB : Lies (wn.alloc (.cells #[.int .i64 u.k, .int .i64 u.i, .int .i64 u.j, .int .i64 u.n, .slice a2 u.kids.length cap2, .int .i64 u.bare.k, .int .i64 u.bare.i, .int .i64 u.bare.j, .int .i64 u.bare.n, .slice a8 u.bare.kids.length cap8] 44)) u.bare.kids (.slice a8 u.bare.kids.length cap8) := HL8.out.lies.keep ((Below.refl _ _).alloc (Nat.le_refl _) _)
    have hbv : v0.heap.size ≤ wn.heap.size := Below.size hh
    clear hh hbn HL8
    generalize (wn.alloc (.cells #[.int .i64 u.k, .int .i64 u.i, .int .i64 u.j, .int .i64 u.n, .slice a2 u.kids.length cap2, .int .i64 u.bare.k, .int .i64 u.bare.i, .int .i64 u.bare.j, .int .i64 u.bare.n, .slice a8 u.bare.kids.length cap8] 44)) = W at hKW hV hLB ⊢
    generalize wn.heap.size = bv at hV hbv ⊢
    have hI : PutI u bv a2 a8 cap2 cap8 W := ⟨⟨_, hV⟩, kept_lies hKW HLU.out, hLB⟩
    have hb1 : Below W.heap.size W (W.alloc (.cells #[.func (.func 38) #[] #[.pointer (some ⟨bv, 0, none⟩)]] 47)) := (Below.refl _ _).alloc (Nat.le_refl _) _
    have hI1 := putI_later u bv a2 a8 cap2 cap8 _ _ hI hb1
    have hKV : Kept v0 (W.alloc (.cells #[.func (.func 38) #[] #[.pointer (some ⟨bv, 0, none⟩)]] 47)) := kept_alloc hKW _
    have hpc : (W.alloc (.cells #[.func (.func 38) #[] #[.pointer (some ⟨bv, 0, none⟩)]] 47)).cell? ⟨W.heap.size, 0, none⟩ = some (.func (.func 38) #[] #[.pointer (some ⟨bv, 0, none⟩)]) := by rw [World.cell?_alloc_at _ _ _ _ rfl]; rfl
    have hpl : W.heap.size < (W.alloc (.cells #[.func (.func 38) #[] #[.pointer (some ⟨bv, 0, none⟩)]] 47)).heap.size := by simp
    obtain ⟨-, m0, m1, m2, m3, m4⟩ := kept_boxes1 hKW HCT.out
    clear hI hV hLB hb1
    go_wp2_with fail
    clear m0 m1 m2 m3 m4
    generalize W.alloc (.cells #[.func (.func 38) #[] #[.pointer (some ⟨bv, 0, none⟩)]] 47) = v1 at hI1 hKV hpc hpl ⊢
    generalize W.heap.size = pv at hpc hpl ⊢
    have HCT1 := Lib.hid (kept_boxes1 hKV HCT.out).2
    have HPC := Lib.hid hpc
    obtain ⟨d0, d1, d2, d3, d4⟩ := HCT1.out
    have hK1 := kept_start v1
    have HQ3 := Lib.hid (keep_block hKV (block_lt HQ2.out) HQ2.out)
    have hv01 : v0.heap.size ≤ v1.heap.size := Below.size hKV
    have HB1 := Lib.hid (HB0.out.trans (Below.mono hKV HB0.out.size))
    have HI1 := Lib.hid hI1
    have HLT1 := Lib.hid (kept_lies hKV HLT.out)
    have CIN : Hid (∀ w', Kept v1 w' → Calls Try.prog 39 #[.agg #[.func (.func 38) #[] #[.pointer (some ⟨bv, 0, none⟩)]], tv t (.slice a t.kids.length cap), .int .i64 0, .bool (decide (12 < t.k))] w' (GivesY (t.putG (gPut u) 0 (decide (12 < t.k))) w')) := fun w' h => put_in HUR.out hdu bv a2 a8 cap2 cap8 t _ w' _ (kept_lies h HLT1.out) h1 hdt (putI_later u bv a2 a8 cap2 cap8 _ _ HI1.out h)
    have hN2' : w.heap.size + 1 + 1 < v1.heap.size := by omega
    clear hI1 hKV hpc hKW
    go_region_held3 (fun w' => Kept v1 w' ∧ w'.cell? ⟨w.heap.size, 0, none⟩ = some (.int .i64 t.k) ∧ w'.cell? ⟨w.heap.size, 1, none⟩ = some (.int .i64 t.i) ∧ w'.cell? ⟨w.heap.size, 2, none⟩ = some (.int .i64 t.j) ∧ w'.cell? ⟨w.heap.size, 3, none⟩ = some (.int .i64 t.n) ∧ w'.cell? ⟨w.heap.size, 4, none⟩ = some (.slice a t.kids.length cap) ∧ w'.cell? ⟨pv, 0, none⟩ = some (.func (.func 38) #[] #[.pointer (some ⟨bv, 0, none⟩)]))
      (((with_reducible refine kept_tp ?_ HCT1.out HPC.out); repeat (first | with_reducible assumption | with_reducible exact hK1 | with_reducible refine kept_drew ?_ | with_reducible refine kept_alloc ?_ _ | ((with_reducible refine kept_set_ ?_ ?hh _); (case hh => simp [*])))))
      (first | (go_at_call 39; have mk0 := HZA.out; have hS := (‹Kept v1 _ ∧ _›).1; ((with_reducible refine Calls.mono (CIN.out _ hS) ?_); rintro e wm ⟨y, ay, ny, cy, ok, rfl, hbn, hans⟩; have HANS := Lib.hid hans; have hzm := keep_block hbn (block_lt mk0) mk0; obtain ⟨e0, e1, e2, e3, e4⟩ := five_cells hzm; obtain ⟨b0, b1, b2, b3, b4⟩ := five_free hzm; have hsm : v1.heap.size ≤ wm.heap.size := Nat.le_of_lt (block_lt hzm); have hbe : v1.heap.size + 1 ≤ _ := block_lt mk0; have HBE := Lib.hid hbe; clear hans hbe; have hh := kept_call hS hbn)) | (go_at_call 39; have mk0 := HPB.out; ((with_reducible refine Calls.mono (CIN.out (wp.alloc zeroObj) (kept_alloc mk0 _)) ?_); rintro e wm ⟨y, ay, ny, cy, ok, rfl, hbn, hans⟩; have HANS := Lib.hid hans; have hzm := keep_block hbn (block_lt (alloc_new wp zeroObj)) (alloc_new wp zeroObj); obtain ⟨e0, e1, e2, e3, e4⟩ := five_cells hzm; obtain ⟨b0, b1, b2, b3, b4⟩ := five_free hzm; have hvp : v1.heap.size ≤ wp.heap.size := Below.size mk0; clear hans; have hh := kept_call (kept_alloc mk0 _) hbn)) | (go_at_call 39; have mk0 := HPB.out; have hS := (‹Kept v1 _ ∧ _›).1; ((with_reducible refine Calls.mono (CIN.out wp hS) ?_); rintro e wm ⟨y, ay, ny, cy, ok, rfl, hbn, hans⟩; have HANS := Lib.hid hans; have hvp : v1.heap.size ≤ wp.heap.size := Below.size mk0; clear hans; have hh := kept_call hS hbn)) | (go_at_call 40; ((with_reducible refine Calls.mono (plainPlace_any t (v1.alloc zeroObj).drew _) ?_); rintro e wp ⟨rfl, hbp⟩; have HZA := Lib.hid (keep_block hbp (block_lt (alloc_new v1 zeroObj)) (alloc_new v1 zeroObj)); have hh := kept_call (kept_drew (kept_alloc hK1 zeroObj)) hbp)) | (go_at_call 40; ((with_reducible refine Calls.mono (plainPlace_any t v1.drew _) ?_); rintro e wp ⟨rfl, hbp⟩; have hh := kept_call (kept_drew hK1) hbp; have HPB := Lib.hid hh)))
    · rcases HANS.out with ⟨rfl, hr, rfl, hly⟩ | ⟨rfl, hr⟩
      · have q5 : (wm.alloc (.cells #[.int .i64 y.k, .int .i64 y.i, .int .i64 y.j, .int .i64 y.n, .slice ay y.kids.length cy] 24)).heap[wm.heap.size]? = some (.cells #[.int .i64 y.k, .int .i64 y.i, .int .i64 y.j, .int .i64 y.n, .slice ay y.kids.length cy] 24) := alloc_new _ _
        have hK5 : Kept v1 (wm.alloc (.cells #[.int .i64 y.k, .int .i64 y.i, .int .i64 y.j, .int .i64 y.n, .slice ay y.kids.length cy] 24)) := kept_alloc hh _
        have hl5 : LiesP (wm.alloc (.cells #[.int .i64 y.k, .int .i64 y.i, .int .i64 y.j, .int .i64 y.n, .slice ay y.kids.length cy] 24)) (Own v0.heap.size (wm.alloc (.cells #[.int .i64 y.k, .int .i64 y.i, .int .i64 y.j, .int .i64 y.n, .slice ay y.kids.length cy] 24))) y.kids (.slice ay y.kids.length cy) := (hly.from (by omega)).later ((Below.refl _ _).alloc (Nat.le_refl _) _)
        have z5 := keep_block hK5 (block_lt HQ3.out) HQ3.out
        have hB5 := HB1.out.trans (Below.mono hK5 HB1.out.size)
        generalize (wm.alloc (.cells #[.int .i64 y.k, .int .i64 y.i, .int .i64 y.j, .int .i64 y.n, .slice ay y.kids.length cy] 24)) = W5 at q5 hl5 z5 hB5 ⊢
        clear hK5
        obtain ⟨x0, x1, x2, x3, x4⟩ := five_cells q5
        obtain ⟨z0, z1, z2, z3, z4⟩ := five_cells z5
        obtain ⟨f0, f1, f2, f3, f4⟩ := five_free z5
        have HB5 := Lib.hid hB5
        have HL5 := Lib.hid hl5
        clear hl5 hly
        have HR5 := Lib.hid (HR.out.trans (congrArg (fun o => Option.getD o .zero) hr))
        clear hB5 q5 hr hh hbn
        go_wp2
        (try simp only [Exit.inBlock, Exit.then])
        refine bodyPost_ret (results_cell_row rfl _ _ (w.heap.size + 1 + 1) _ _ _ du rfl (five_set z5) hu1 (by cases du <;> first | rfl | exact hu2) size_term) rfl ?_
        rw [HR5.out]
        exact ⟨_, rfl, liesP_fives HL5.out (by omega) (by omega) _ _ _ _ _, below_five HB5.out (by omega) _ _ _ _ _⟩
      · have q5 : (wm.alloc (.cells #[.int .i64 y.k, .int .i64 y.i, .int .i64 y.j, .int .i64 y.n, .slice ay ny cy] 24)).heap[wm.heap.size]? = some (.cells #[.int .i64 y.k, .int .i64 y.i, .int .i64 y.j, .int .i64 y.n, .slice ay ny cy] 24) := alloc_new _ _
        have hK5 : Kept v1 (wm.alloc (.cells #[.int .i64 y.k, .int .i64 y.i, .int .i64 y.j, .int .i64 y.n, .slice ay ny cy] 24)) := kept_alloc hh _
        have z5 := keep_block hK5 (block_lt HQ3.out) HQ3.out
        have hB5 := HB1.out.trans (Below.mono hK5 HB1.out.size)
        generalize (wm.alloc (.cells #[.int .i64 y.k, .int .i64 y.i, .int .i64 y.j, .int .i64 y.n, .slice ay ny cy] 24)) = W5 at q5 z5 hB5 ⊢
        clear hK5
        obtain ⟨x0, x1, x2, x3, x4⟩ := five_cells q5
        obtain ⟨z0, z1, z2, z3, z4⟩ := five_cells z5
        obtain ⟨f0, f1, f2, f3, f4⟩ := five_free z5
        have HB5 := Lib.hid hB5
        have HR5 := Lib.hid (HR.out.trans (congrArg (fun o => Option.getD o .zero) hr))
        clear hB5 q5 hr hh hbn
        go_wp2
        (try simp only [Exit.inBlock, Exit.then])
        refine bodyPost_ret (results_cell_row rfl _ _ (w.heap.size + 1 + 1) _ _ _ du rfl (five_set z5) hu1 (by cases du <;> first | rfl | exact hu2) size_term) rfl ?_
        rw [HR5.out]
        exact ⟨.slice none 0 0, rfl, liesP_nil _ _, below_five HB5.out (by omega) _ _ _ _ _⟩
    · rcases HANS.out with ⟨rfl, hr, rfl, hly⟩ | ⟨rfl, hr⟩
      · have q5 : (((((wm.setCell ⟨wp.heap.size, 0, none⟩ (.int .i64 y.k)).setCell ⟨wp.heap.size, 1, none⟩ (.int .i64 y.i)).setCell ⟨wp.heap.size, 2, none⟩ (.int .i64 y.j)).setCell ⟨wp.heap.size, 3, none⟩ (.int .i64 y.n)).setCell ⟨wp.heap.size, 4, none⟩ (.slice ay y.kids.length cy)).heap[wp.heap.size]? = some (.cells #[.int .i64 y.k, .int .i64 y.i, .int .i64 y.j, .int .i64 y.n, .slice ay y.kids.length cy] 24) := five_set hzm
        have hK5 : Kept v1 (((((wm.setCell ⟨wp.heap.size, 0, none⟩ (.int .i64 y.k)).setCell ⟨wp.heap.size, 1, none⟩ (.int .i64 y.i)).setCell ⟨wp.heap.size, 2, none⟩ (.int .i64 y.j)).setCell ⟨wp.heap.size, 3, none⟩ (.int .i64 y.n)).setCell ⟨wp.heap.size, 4, none⟩ (.slice ay y.kids.length cy)) := (kept_set_ (kept_set_ (kept_set_ (kept_set_ (kept_set_ hh hvp _) hvp _) hvp _) hvp _) hvp _)
        have hl5 : LiesP (((((wm.setCell ⟨wp.heap.size, 0, none⟩ (.int .i64 y.k)).setCell ⟨wp.heap.size, 1, none⟩ (.int .i64 y.i)).setCell ⟨wp.heap.size, 2, none⟩ (.int .i64 y.j)).setCell ⟨wp.heap.size, 3, none⟩ (.int .i64 y.n)).setCell ⟨wp.heap.size, 4, none⟩ (.slice ay y.kids.length cy)) (Own v0.heap.size (((((wm.setCell ⟨wp.heap.size, 0, none⟩ (.int .i64 y.k)).setCell ⟨wp.heap.size, 1, none⟩ (.int .i64 y.i)).setCell ⟨wp.heap.size, 2, none⟩ (.int .i64 y.j)).setCell ⟨wp.heap.size, 3, none⟩ (.int .i64 y.n)).setCell ⟨wp.heap.size, 4, none⟩ (.slice ay y.kids.length cy))) y.kids (.slice ay y.kids.length cy) := liesP_fives hly (g := wp.heap.size) (N := v0.heap.size) (by simp) (by simp <;> omega) _ _ _ _ _
        have z5 := keep_block hK5 (block_lt HQ3.out) HQ3.out
        have hB5 := HB1.out.trans (Below.mono hK5 HB1.out.size)
        generalize (((((wm.setCell ⟨wp.heap.size, 0, none⟩ (.int .i64 y.k)).setCell ⟨wp.heap.size, 1, none⟩ (.int .i64 y.i)).setCell ⟨wp.heap.size, 2, none⟩ (.int .i64 y.j)).setCell ⟨wp.heap.size, 3, none⟩ (.int .i64 y.n)).setCell ⟨wp.heap.size, 4, none⟩ (.slice ay y.kids.length cy)) = W5 at q5 hl5 z5 hB5 ⊢
        clear hK5
        obtain ⟨x0, x1, x2, x3, x4⟩ := five_cells q5
        obtain ⟨z0, z1, z2, z3, z4⟩ := five_cells z5
        obtain ⟨f0, f1, f2, f3, f4⟩ := five_free z5
        have HB5 := Lib.hid hB5
        have HL5 := Lib.hid hl5
        clear hl5 hly
        have HR5 := Lib.hid (HR.out.trans (congrArg (fun o => Option.getD o .zero) hr))
        clear hB5 q5 hr hh hbn
        go_wp2
        (try simp only [Exit.inBlock, Exit.then])
        refine bodyPost_ret (results_cell_row rfl _ _ (w.heap.size + 1 + 1) _ _ _ du rfl (five_set z5) hu1 (by cases du <;> first | rfl | exact hu2) size_term) rfl ?_
        rw [HR5.out]
        exact ⟨_, rfl, liesP_fives HL5.out (by omega) (by omega) _ _ _ _ _, below_five HB5.out (by omega) _ _ _ _ _⟩
      · have q5 : (((((wm.setCell ⟨wp.heap.size, 0, none⟩ (.int .i64 y.k)).setCell ⟨wp.heap.size, 1, none⟩ (.int .i64 y.i)).setCell ⟨wp.heap.size, 2, none⟩ (.int .i64 y.j)).setCell ⟨wp.heap.size, 3, none⟩ (.int .i64 y.n)).setCell ⟨wp.heap.size, 4, none⟩ (.slice ay ny cy)).heap[wp.heap.size]? = some (.cells #[.int .i64 y.k, .int .i64 y.i, .int .i64 y.j, .int .i64 y.n, .slice ay ny cy] 24) := five_set hzm
        have hK5 : Kept v1 (((((wm.setCell ⟨wp.heap.size, 0, none⟩ (.int .i64 y.k)).setCell ⟨wp.heap.size, 1, none⟩ (.int .i64 y.i)).setCell ⟨wp.heap.size, 2, none⟩ (.int .i64 y.j)).setCell ⟨wp.heap.size, 3, none⟩ (.int .i64 y.n)).setCell ⟨wp.heap.size, 4, none⟩ (.slice ay ny cy)) := (kept_set_ (kept_set_ (kept_set_ (kept_set_ (kept_set_ hh hvp _) hvp _) hvp _) hvp _) hvp _)
        have z5 := keep_block hK5 (block_lt HQ3.out) HQ3.out
        have hB5 := HB1.out.trans (Below.mono hK5 HB1.out.size)
        generalize (((((wm.setCell ⟨wp.heap.size, 0, none⟩ (.int .i64 y.k)).setCell ⟨wp.heap.size, 1, none⟩ (.int .i64 y.i)).setCell ⟨wp.heap.size, 2, none⟩ (.int .i64 y.j)).setCell ⟨wp.heap.size, 3, none⟩ (.int .i64 y.n)).setCell ⟨wp.heap.size, 4, none⟩ (.slice ay ny cy)) = W5 at q5 z5 hB5 ⊢
        clear hK5
        obtain ⟨x0, x1, x2, x3, x4⟩ := five_cells q5
        obtain ⟨z0, z1, z2, z3, z4⟩ := five_cells z5
        obtain ⟨f0, f1, f2, f3, f4⟩ := five_free z5
        have HB5 := Lib.hid hB5
        have HR5 := Lib.hid (HR.out.trans (congrArg (fun o => Option.getD o .zero) hr))
        clear hB5 q5 hr hh hbn
        go_wp2
        (try simp only [Exit.inBlock, Exit.then])
        refine bodyPost_ret (results_cell_row rfl _ _ (w.heap.size + 1 + 1) _ _ _ du rfl (five_set z5) hu1 (by cases du <;> first | rfl | exact hu2) size_term) rfl ?_
        rw [HR5.out]
        exact ⟨.slice none 0 0, rfl, liesP_nil _ _, below_five HB5.out (by omega) _ _ _ _ _⟩
    · rcases HANS.out with ⟨rfl, hr, rfl, hly⟩ | ⟨rfl, hr⟩
      · have q5 : (((((wm.setCell ⟨v1.heap.size, 0, none⟩ (.int .i64 y.k)).setCell ⟨v1.heap.size, 1, none⟩ (.int .i64 y.i)).setCell ⟨v1.heap.size, 2, none⟩ (.int .i64 y.j)).setCell ⟨v1.heap.size, 3, none⟩ (.int .i64 y.n)).setCell ⟨v1.heap.size, 4, none⟩ (.slice ay y.kids.length cy)).heap[v1.heap.size]? = some (.cells #[.int .i64 y.k, .int .i64 y.i, .int .i64 y.j, .int .i64 y.n, .slice ay y.kids.length cy] 24) := five_set hzm
        have hK5 : Kept v1 (((((wm.setCell ⟨v1.heap.size, 0, none⟩ (.int .i64 y.k)).setCell ⟨v1.heap.size, 1, none⟩ (.int .i64 y.i)).setCell ⟨v1.heap.size, 2, none⟩ (.int .i64 y.j)).setCell ⟨v1.heap.size, 3, none⟩ (.int .i64 y.n)).setCell ⟨v1.heap.size, 4, none⟩ (.slice ay y.kids.length cy)) := (kept_set_ (kept_set_ (kept_set_ (kept_set_ (kept_set_ hh (Nat.le_refl _) _) (Nat.le_refl _) _) (Nat.le_refl _) _) (Nat.le_refl _) _) (Nat.le_refl _) _)
        have hl5 : LiesP (((((wm.setCell ⟨v1.heap.size, 0, none⟩ (.int .i64 y.k)).setCell ⟨v1.heap.size, 1, none⟩ (.int .i64 y.i)).setCell ⟨v1.heap.size, 2, none⟩ (.int .i64 y.j)).setCell ⟨v1.heap.size, 3, none⟩ (.int .i64 y.n)).setCell ⟨v1.heap.size, 4, none⟩ (.slice ay y.kids.length cy)) (Own v0.heap.size (((((wm.setCell ⟨v1.heap.size, 0, none⟩ (.int .i64 y.k)).setCell ⟨v1.heap.size, 1, none⟩ (.int .i64 y.i)).setCell ⟨v1.heap.size, 2, none⟩ (.int .i64 y.j)).setCell ⟨v1.heap.size, 3, none⟩ (.int .i64 y.n)).setCell ⟨v1.heap.size, 4, none⟩ (.slice ay y.kids.length cy))) y.kids (.slice ay y.kids.length cy) := liesP_fives hly (g := v1.heap.size) (N := v0.heap.size) (by have := HBE.out; omega) (by have := HBE.out; omega) _ _ _ _ _
        have z5 := keep_block hK5 (block_lt HQ3.out) HQ3.out
        have hB5 := HB1.out.trans (Below.mono hK5 HB1.out.size)
        generalize (((((wm.setCell ⟨v1.heap.size, 0, none⟩ (.int .i64 y.k)).setCell ⟨v1.heap.size, 1, none⟩ (.int .i64 y.i)).setCell ⟨v1.heap.size, 2, none⟩ (.int .i64 y.j)).setCell ⟨v1.heap.size, 3, none⟩ (.int .i64 y.n)).setCell ⟨v1.heap.size, 4, none⟩ (.slice ay y.kids.length cy)) = W5 at q5 hl5 z5 hB5 ⊢
        clear hK5
        obtain ⟨x0, x1, x2, x3, x4⟩ := five_cells q5
        obtain ⟨z0, z1, z2, z3, z4⟩ := five_cells z5
        obtain ⟨f0, f1, f2, f3, f4⟩ := five_free z5
        have HB5 := Lib.hid hB5
        have HL5 := Lib.hid hl5
        clear hl5 hly
        have HR5 := Lib.hid (HR.out.trans (congrArg (fun o => Option.getD o .zero) hr))
        clear hB5 q5 hr hh hbn
        go_wp2
        (try simp only [Exit.inBlock, Exit.then])
        refine bodyPost_ret (results_cell_row rfl _ _ (w.heap.size + 1 + 1) _ _ _ du rfl (five_set z5) hu1 (by cases du <;> first | rfl | exact hu2) size_term) rfl ?_
        rw [HR5.out]
        exact ⟨_, rfl, liesP_fives HL5.out (by omega) (by omega) _ _ _ _ _, below_five HB5.out (by omega) _ _ _ _ _⟩
      · have q5 : (((((wm.setCell ⟨v1.heap.size, 0, none⟩ (.int .i64 y.k)).setCell ⟨v1.heap.size, 1, none⟩ (.int .i64 y.i)).setCell ⟨v1.heap.size, 2, none⟩ (.int .i64 y.j)).setCell ⟨v1.heap.size, 3, none⟩ (.int .i64 y.n)).setCell ⟨v1.heap.size, 4, none⟩ (.slice ay ny cy)).heap[v1.heap.size]? = some (.cells #[.int .i64 y.k, .int .i64 y.i, .int .i64 y.j, .int .i64 y.n, .slice ay ny cy] 24) := five_set hzm
        have hK5 : Kept v1 (((((wm.setCell ⟨v1.heap.size, 0, none⟩ (.int .i64 y.k)).setCell ⟨v1.heap.size, 1, none⟩ (.int .i64 y.i)).setCell ⟨v1.heap.size, 2, none⟩ (.int .i64 y.j)).setCell ⟨v1.heap.size, 3, none⟩ (.int .i64 y.n)).setCell ⟨v1.heap.size, 4, none⟩ (.slice ay ny cy)) := (kept_set_ (kept_set_ (kept_set_ (kept_set_ (kept_set_ hh (Nat.le_refl _) _) (Nat.le_refl _) _) (Nat.le_refl _) _) (Nat.le_refl _) _) (Nat.le_refl _) _)
        have z5 := keep_block hK5 (block_lt HQ3.out) HQ3.out
        have hB5 := HB1.out.trans (Below.mono hK5 HB1.out.size)
        generalize (((((wm.setCell ⟨v1.heap.size, 0, none⟩ (.int .i64 y.k)).setCell ⟨v1.heap.size, 1, none⟩ (.int .i64 y.i)).setCell ⟨v1.heap.size, 2, none⟩ (.int .i64 y.j)).setCell ⟨v1.heap.size, 3, none⟩ (.int .i64 y.n)).setCell ⟨v1.heap.size, 4, none⟩ (.slice ay ny cy)) = W5 at q5 z5 hB5 ⊢
        clear hK5
        obtain ⟨x0, x1, x2, x3, x4⟩ := five_cells q5
        obtain ⟨z0, z1, z2, z3, z4⟩ := five_cells z5
        obtain ⟨f0, f1, f2, f3, f4⟩ := five_free z5
        have HB5 := Lib.hid hB5
        have HR5 := Lib.hid (HR.out.trans (congrArg (fun o => Option.getD o .zero) hr))
        clear hB5 q5 hr hh hbn
        go_wp2
        (try simp only [Exit.inBlock, Exit.then])
        refine bodyPost_ret (results_cell_row rfl _ _ (w.heap.size + 1 + 1) _ _ _ du rfl (five_set z5) hu1 (by cases du <;> first | rfl | exact hu2) size_term) rfl ?_
        rw [HR5.out]
        exact ⟨.slice none 0 0, rfl, liesP_nil _ _, below_five HB5.out (by omega) _ _ _ _ _⟩
  · have hKW : Kept v0 ((((((((((wn.setCell ⟨v0.heap.size, 0, none⟩ (.int .i64 u.k)).setCell ⟨v0.heap.size, 1, none⟩ (.int .i64 u.i)).setCell ⟨v0.heap.size, 2, none⟩ (.int .i64 u.j)).setCell ⟨v0.heap.size, 3, none⟩ (.int .i64 u.n)).setCell ⟨v0.heap.size, 4, none⟩ (.slice a2 u.kids.length cap2)).setCell ⟨v0.heap.size, 5, none⟩ (.int .i64 u.bare.k)).setCell ⟨v0.heap.size, 6, none⟩ (.int .i64 u.bare.i)).setCell ⟨v0.heap.size, 7, none⟩ (.int .i64 u.bare.j)).setCell ⟨v0.heap.size, 8, none⟩ (.int .i64 u.bare.n)).setCell ⟨v0.heap.size, 9, none⟩ (.slice a8 u.bare.kids.length cap8)) := kept_set_ (kept_set_ (kept_set_ (kept_set_ (kept_set_ (kept_set_ (kept_set_ (kept_set_ (kept_set_ (kept_set_ hh (Nat.le_refl _) _) (Nat.le_refl _) _) (Nat.le_refl _) _) (Nat.le_refl _) _) (Nat.le_refl _) _) (Nat.le_refl _) _) (Nat.le_refl _) _) (Nat.le_refl _) _) (Nat.le_refl _) _) (Nat.le_refl _) _
    have hV : ((((((((((wn.setCell ⟨v0.heap.size, 0, none⟩ (.int .i64 u.k)).setCell ⟨v0.heap.size, 1, none⟩ (.int .i64 u.i)).setCell ⟨v0.heap.size, 2, none⟩ (.int .i64 u.j)).setCell ⟨v0.heap.size, 3, none⟩ (.int .i64 u.n)).setCell ⟨v0.heap.size, 4, none⟩ (.slice a2 u.kids.length cap2)).setCell ⟨v0.heap.size, 5, none⟩ (.int .i64 u.bare.k)).setCell ⟨v0.heap.size, 6, none⟩ (.int .i64 u.bare.i)).setCell ⟨v0.heap.size, 7, none⟩ (.int .i64 u.bare.j)).setCell ⟨v0.heap.size, 8, none⟩ (.int .i64 u.bare.n)).setCell ⟨v0.heap.size, 9, none⟩ (.slice a8 u.bare.kids.length cap8)).heap[v0.heap.size]? = some (.cells #[.int .i64 u.k, .int .i64 u.i, .int .i64 u.j, .int .i64 u.n, .slice a2 u.kids.length cap2, .int .i64 u.bare.k, .int .i64 u.bare.i, .int .i64 u.bare.j, .int .i64 u.bare.n, .slice a8 u.bare.kids.length cap8] 44) := ten_set hZ
    have hl9 : LiesP wn (Own (v0.heap.size + 1) wn) u.bare.kids (.slice a8 u.bare.kids.length cap8) := HL8.out.from (by show v0.heap.size + 1 ≤ (v0.alloc (.cells #[.int .i64 0, .int .i64 0, .int .i64 0, .int .i64 0, .slice none 0 0, .int .i64 0, .int .i64 0, .int .i64 0, .int .i64 0, .slice none 0 0] 44)).heap.size; simp)
    have hLB : Lies ((((((((((wn.setCell ⟨v0.heap.size, 0, none⟩ (.int .i64 u.k)).setCell ⟨v0.heap.size, 1, none⟩ (.int .i64 u.i)).setCell ⟨v0.heap.size, 2, none⟩ (.int .i64 u.j)).setCell ⟨v0.heap.size, 3, none⟩ (.int .i64 u.n)).setCell ⟨v0.heap.size, 4, none⟩ (.slice a2 u.kids.length cap2)).setCell ⟨v0.heap.size, 5, none⟩ (.int .i64 u.bare.k)).setCell ⟨v0.heap.size, 6, none⟩ (.int .i64 u.bare.i)).setCell ⟨v0.heap.size, 7, none⟩ (.int .i64 u.bare.j)).setCell ⟨v0.heap.size, 8, none⟩ (.int .i64 u.bare.n)).setCell ⟨v0.heap.size, 9, none⟩ (.slice a8 u.bare.kids.length cap8)) u.bare.kids (.slice a8 u.bare.kids.length cap8) := LiesP.lies (liesP_set (B := v0.heap.size + 1) (N := v0.heap.size + 1) (liesP_set (B := v0.heap.size + 1) (N := v0.heap.size + 1) (liesP_set (B := v0.heap.size + 1) (N := v0.heap.size + 1) (liesP_set (B := v0.heap.size + 1) (N := v0.heap.size + 1) (liesP_set (B := v0.heap.size + 1) (N := v0.heap.size + 1) (liesP_set (B := v0.heap.size + 1) (N := v0.heap.size + 1) (liesP_set (B := v0.heap.size + 1) (N := v0.heap.size + 1) (liesP_set (B := v0.heap.size + 1) (N := v0.heap.size + 1) (liesP_set (B := v0.heap.size + 1) (N := v0.heap.size + 1) (liesP_set (B := v0.heap.size + 1) (N := v0.heap.size + 1) hl9 (Nat.lt_succ_self _) (Nat.le_refl _) _) (Nat.lt_succ_self _) (Nat.le_refl _) _) (Nat.lt_succ_self _) (Nat.le_refl _) _) (Nat.lt_succ_self _) (Nat.le_refl _) _) (Nat.lt_succ_self _) (Nat.le_refl _) _) (Nat.lt_succ_self _) (Nat.le_refl _) _) (Nat.lt_succ_self _) (Nat.le_refl _) _) (Nat.lt_succ_self _) (Nat.le_refl _) _) (Nat.lt_succ_self _) (Nat.le_refl _) _) (Nat.lt_succ_self _) (Nat.le_refl _) _)
    have hbv : v0.heap.size ≤ v0.heap.size := Nat.le_refl _
    clear hh hbn HL8 hl9 hZ g0 g1 g2 g3 g4 g5 g6 g7 g8 g9 k0 k1 k2 k3 k4 k5 k6 k7 k8 k9
    generalize ((((((((((wn.setCell ⟨v0.heap.size, 0, none⟩ (.int .i64 u.k)).setCell ⟨v0.heap.size, 1, none⟩ (.int .i64 u.i)).setCell ⟨v0.heap.size, 2, none⟩ (.int .i64 u.j)).setCell ⟨v0.heap.size, 3, none⟩ (.int .i64 u.n)).setCell ⟨v0.heap.size, 4, none⟩ (.slice a2 u.kids.length cap2)).setCell ⟨v0.heap.size, 5, none⟩ (.int .i64 u.bare.k)).setCell ⟨v0.heap.size, 6, none⟩ (.int .i64 u.bare.i)).setCell ⟨v0.heap.size, 7, none⟩ (.int .i64 u.bare.j)).setCell ⟨v0.heap.size, 8, none⟩ (.int .i64 u.bare.n)).setCell ⟨v0.heap.size, 9, none⟩ (.slice a8 u.bare.kids.length cap8)) = W at hKW hV hLB ⊢
    have hI : PutI u v0.heap.size a2 a8 cap2 cap8 W := ⟨⟨_, hV⟩, kept_lies hKW HLU.out, hLB⟩
    have hb1 : Below W.heap.size W (W.alloc (.cells #[.func (.func 38) #[] #[.pointer (some ⟨v0.heap.size, 0, none⟩)]] 47)) := (Below.refl _ _).alloc (Nat.le_refl _) _
    have hI1 := putI_later u v0.heap.size a2 a8 cap2 cap8 _ _ hI hb1
    have hKV : Kept v0 (W.alloc (.cells #[.func (.func 38) #[] #[.pointer (some ⟨v0.heap.size, 0, none⟩)]] 47)) := kept_alloc hKW _
    have hpc : (W.alloc (.cells #[.func (.func 38) #[] #[.pointer (some ⟨v0.heap.size, 0, none⟩)]] 47)).cell? ⟨W.heap.size, 0, none⟩ = some (.func (.func 38) #[] #[.pointer (some ⟨v0.heap.size, 0, none⟩)]) := by rw [World.cell?_alloc_at _ _ _ _ rfl]; rfl
    have hpl : W.heap.size < (W.alloc (.cells #[.func (.func 38) #[] #[.pointer (some ⟨v0.heap.size, 0, none⟩)]] 47)).heap.size := by simp
    obtain ⟨-, m0, m1, m2, m3, m4⟩ := kept_boxes1 hKW HCT.out
    clear hI hV hLB hb1
    go_wp2_with fail
    clear m0 m1 m2 m3 m4
    generalize W.alloc (.cells #[.func (.func 38) #[] #[.pointer (some ⟨v0.heap.size, 0, none⟩)]] 47) = v1 at hI1 hKV hpc hpl ⊢
    generalize W.heap.size = pv at hpc hpl ⊢
    have HCT1 := Lib.hid (kept_boxes1 hKV HCT.out).2
    have HPC := Lib.hid hpc
    obtain ⟨d0, d1, d2, d3, d4⟩ := HCT1.out
    have hK1 := kept_start v1
    have HQ3 := Lib.hid (keep_block hKV (block_lt HQ2.out) HQ2.out)
    have hv01 : v0.heap.size ≤ v1.heap.size := Below.size hKV
    have HB1 := Lib.hid (HB0.out.trans (Below.mono hKV HB0.out.size))
    have HI1 := Lib.hid hI1
    have HLT1 := Lib.hid (kept_lies hKV HLT.out)
    have CIN : Hid (∀ w', Kept v1 w' → Calls Try.prog 39 #[.agg #[.func (.func 38) #[] #[.pointer (some ⟨v0.heap.size, 0, none⟩)]], tv t (.slice a t.kids.length cap), .int .i64 0, .bool (decide (12 < t.k))] w' (GivesY (t.putG (gPut u) 0 (decide (12 < t.k))) w')) := fun w' h => put_in HUR.out hdu v0.heap.size a2 a8 cap2 cap8 t _ w' _ (kept_lies h HLT1.out) h1 hdt (putI_later u v0.heap.size a2 a8 cap2 cap8 _ _ HI1.out h)
    have hN2' : w.heap.size + 1 + 1 < v1.heap.size := by omega
    clear hI1 hKV hpc hKW
    go_region_held3 (fun w' => Kept v1 w' ∧ w'.cell? ⟨w.heap.size, 0, none⟩ = some (.int .i64 t.k) ∧ w'.cell? ⟨w.heap.size, 1, none⟩ = some (.int .i64 t.i) ∧ w'.cell? ⟨w.heap.size, 2, none⟩ = some (.int .i64 t.j) ∧ w'.cell? ⟨w.heap.size, 3, none⟩ = some (.int .i64 t.n) ∧ w'.cell? ⟨w.heap.size, 4, none⟩ = some (.slice a t.kids.length cap) ∧ w'.cell? ⟨pv, 0, none⟩ = some (.func (.func 38) #[] #[.pointer (some ⟨v0.heap.size, 0, none⟩)]))
      (((with_reducible refine kept_tp ?_ HCT1.out HPC.out); repeat (first | with_reducible assumption | with_reducible exact hK1 | with_reducible refine kept_drew ?_ | with_reducible refine kept_alloc ?_ _ | ((with_reducible refine kept_set_ ?_ ?hh _); (case hh => simp [*])))))
      (first | (go_at_call 39; have mk0 := HZA.out; have hS := (‹Kept v1 _ ∧ _›).1; ((with_reducible refine Calls.mono (CIN.out _ hS) ?_); rintro e wm ⟨y, ay, ny, cy, ok, rfl, hbn, hans⟩; have HANS := Lib.hid hans; have hzm := keep_block hbn (block_lt mk0) mk0; obtain ⟨e0, e1, e2, e3, e4⟩ := five_cells hzm; obtain ⟨b0, b1, b2, b3, b4⟩ := five_free hzm; have hsm : v1.heap.size ≤ wm.heap.size := Nat.le_of_lt (block_lt hzm); have hbe : v1.heap.size + 1 ≤ _ := block_lt mk0; have HBE := Lib.hid hbe; clear hans hbe; have hh := kept_call hS hbn)) | (go_at_call 39; have mk0 := HPB.out; ((with_reducible refine Calls.mono (CIN.out (wp.alloc zeroObj) (kept_alloc mk0 _)) ?_); rintro e wm ⟨y, ay, ny, cy, ok, rfl, hbn, hans⟩; have HANS := Lib.hid hans; have hzm := keep_block hbn (block_lt (alloc_new wp zeroObj)) (alloc_new wp zeroObj); obtain ⟨e0, e1, e2, e3, e4⟩ := five_cells hzm; obtain ⟨b0, b1, b2, b3, b4⟩ := five_free hzm; have hvp : v1.heap.size ≤ wp.heap.size := Below.size mk0; clear hans; have hh := kept_call (kept_alloc mk0 _) hbn)) | (go_at_call 39; have mk0 := HPB.out; have hS := (‹Kept v1 _ ∧ _›).1; ((with_reducible refine Calls.mono (CIN.out wp hS) ?_); rintro e wm ⟨y, ay, ny, cy, ok, rfl, hbn, hans⟩; have HANS := Lib.hid hans; have hvp : v1.heap.size ≤ wp.heap.size := Below.size mk0; clear hans; have hh := kept_call hS hbn)) | (go_at_call 40; ((with_reducible refine Calls.mono (plainPlace_any t (v1.alloc zeroObj).drew _) ?_); rintro e wp ⟨rfl, hbp⟩; have HZA := Lib.hid (keep_block hbp (block_lt (alloc_new v1 zeroObj)) (alloc_new v1 zeroObj)); have hh := kept_call (kept_drew (kept_alloc hK1 zeroObj)) hbp)) | (go_at_call 40; ((with_reducible refine Calls.mono (plainPlace_any t v1.drew _) ?_); rintro e wp ⟨rfl, hbp⟩; have hh := kept_call (kept_drew hK1) hbp; have HPB := Lib.hid hh)))
    · rcases HANS.out with ⟨rfl, hr, rfl, hly⟩ | ⟨rfl, hr⟩
      · have q5 : (wm.alloc (.cells #[.int .i64 y.k, .int .i64 y.i, .int .i64 y.j, .int .i64 y.n, .slice ay y.kids.length cy] 24)).heap[wm.heap.size]? = some (.cells #[.int .i64 y.k, .int .i64 y.i, .int .i64 y.j, .int .i64 y.n, .slice ay y.kids.length cy] 24) := alloc_new _ _
        have hK5 : Kept v1 (wm.alloc (.cells #[.int .i64 y.k, .int .i64 y.i, .int .i64 y.j, .int .i64 y.n, .slice ay y.kids.length cy] 24)) := kept_alloc hh _
        have hl5 : LiesP (wm.alloc (.cells #[.int .i64 y.k, .int .i64 y.i, .int .i64 y.j, .int .i64 y.n, .slice ay y.kids.length cy] 24)) (Own v0.heap.size (wm.alloc (.cells #[.int .i64 y.k, .int .i64 y.i, .int .i64 y.j, .int .i64 y.n, .slice ay y.kids.length cy] 24))) y.kids (.slice ay y.kids.length cy) := (hly.from (by omega)).later ((Below.refl _ _).alloc (Nat.le_refl _) _)
        have z5 := keep_block hK5 (block_lt HQ3.out) HQ3.out
        have hB5 := HB1.out.trans (Below.mono hK5 HB1.out.size)
        generalize (wm.alloc (.cells #[.int .i64 y.k, .int .i64 y.i, .int .i64 y.j, .int .i64 y.n, .slice ay y.kids.length cy] 24)) = W5 at q5 hl5 z5 hB5 ⊢
        clear hK5
        obtain ⟨x0, x1, x2, x3, x4⟩ := five_cells q5
        obtain ⟨z0, z1, z2, z3, z4⟩ := five_cells z5
        obtain ⟨f0, f1, f2, f3, f4⟩ := five_free z5
        have HB5 := Lib.hid hB5
        have HL5 := Lib.hid hl5
        clear hl5 hly
        have HR5 := Lib.hid (HR.out.trans (congrArg (fun o => Option.getD o .zero) hr))
        clear hB5 q5 hr hh hbn
        go_wp2
        (try simp only [Exit.inBlock, Exit.then])
        refine bodyPost_ret (results_cell_row rfl _ _ (w.heap.size + 1 + 1) _ _ _ du rfl (five_set z5) hu1 (by cases du <;> first | rfl | exact hu2) size_term) rfl ?_
        rw [HR5.out]
        exact ⟨_, rfl, liesP_fives HL5.out (by omega) (by omega) _ _ _ _ _, below_five HB5.out (by omega) _ _ _ _ _⟩
      · have q5 : (wm.alloc (.cells #[.int .i64 y.k, .int .i64 y.i, .int .i64 y.j, .int .i64 y.n, .slice ay ny cy] 24)).heap[wm.heap.size]? = some (.cells #[.int .i64 y.k, .int .i64 y.i, .int .i64 y.j, .int .i64 y.n, .slice ay ny cy] 24) := alloc_new _ _
        have hK5 : Kept v1 (wm.alloc (.cells #[.int .i64 y.k, .int .i64 y.i, .int .i64 y.j, .int .i64 y.n, .slice ay ny cy] 24)) := kept_alloc hh _
        have z5 := keep_block hK5 (block_lt HQ3.out) HQ3.out
        have hB5 := HB1.out.trans (Below.mono hK5 HB1.out.size)
        generalize (wm.alloc (.cells #[.int .i64 y.k, .int .i64 y.i, .int .i64 y.j, .int .i64 y.n, .slice ay ny cy] 24)) = W5 at q5 z5 hB5 ⊢
        clear hK5
        obtain ⟨x0, x1, x2, x3, x4⟩ := five_cells q5
        obtain ⟨z0, z1, z2, z3, z4⟩ := five_cells z5
        obtain ⟨f0, f1, f2, f3, f4⟩ := five_free z5
        have HB5 := Lib.hid hB5
        have HR5 := Lib.hid (HR.out.trans (congrArg (fun o => Option.getD o .zero) hr))
        clear hB5 q5 hr hh hbn
        go_wp2
        (try simp only [Exit.inBlock, Exit.then])
        refine bodyPost_ret (results_cell_row rfl _ _ (w.heap.size + 1 + 1) _ _ _ du rfl (five_set z5) hu1 (by cases du <;> first | rfl | exact hu2) size_term) rfl ?_
        rw [HR5.out]
        exact ⟨.slice none 0 0, rfl, liesP_nil _ _, below_five HB5.out (by omega) _ _ _ _ _⟩
    · rcases HANS.out with ⟨rfl, hr, rfl, hly⟩ | ⟨rfl, hr⟩
      · have q5 : (((((wm.setCell ⟨wp.heap.size, 0, none⟩ (.int .i64 y.k)).setCell ⟨wp.heap.size, 1, none⟩ (.int .i64 y.i)).setCell ⟨wp.heap.size, 2, none⟩ (.int .i64 y.j)).setCell ⟨wp.heap.size, 3, none⟩ (.int .i64 y.n)).setCell ⟨wp.heap.size, 4, none⟩ (.slice ay y.kids.length cy)).heap[wp.heap.size]? = some (.cells #[.int .i64 y.k, .int .i64 y.i, .int .i64 y.j, .int .i64 y.n, .slice ay y.kids.length cy] 24) := five_set hzm
        have hK5 : Kept v1 (((((wm.setCell ⟨wp.heap.size, 0, none⟩ (.int .i64 y.k)).setCell ⟨wp.heap.size, 1, none⟩ (.int .i64 y.i)).setCell ⟨wp.heap.size, 2, none⟩ (.int .i64 y.j)).setCell ⟨wp.heap.size, 3, none⟩ (.int .i64 y.n)).setCell ⟨wp.heap.size, 4, none⟩ (.slice ay y.kids.length cy)) := (kept_set_ (kept_set_ (kept_set_ (kept_set_ (kept_set_ hh hvp _) hvp _) hvp _) hvp _) hvp _)
        have hl5 : LiesP (((((wm.setCell ⟨wp.heap.size, 0, none⟩ (.int .i64 y.k)).setCell ⟨wp.heap.size, 1, none⟩ (.int .i64 y.i)).setCell ⟨wp.heap.size, 2, none⟩ (.int .i64 y.j)).setCell ⟨wp.heap.size, 3, none⟩ (.int .i64 y.n)).setCell ⟨wp.heap.size, 4, none⟩ (.slice ay y.kids.length cy)) (Own v0.heap.size (((((wm.setCell ⟨wp.heap.size, 0, none⟩ (.int .i64 y.k)).setCell ⟨wp.heap.size, 1, none⟩ (.int .i64 y.i)).setCell ⟨wp.heap.size, 2, none⟩ (.int .i64 y.j)).setCell ⟨wp.heap.size, 3, none⟩ (.int .i64 y.n)).setCell ⟨wp.heap.size, 4, none⟩ (.slice ay y.kids.length cy))) y.kids (.slice ay y.kids.length cy) := liesP_fives hly (g := wp.heap.size) (N := v0.heap.size) (by simp) (by simp <;> omega) _ _ _ _ _
        have z5 := keep_block hK5 (block_lt HQ3.out) HQ3.out
        have hB5 := HB1.out.trans (Below.mono hK5 HB1.out.size)
        generalize (((((wm.setCell ⟨wp.heap.size, 0, none⟩ (.int .i64 y.k)).setCell ⟨wp.heap.size, 1, none⟩ (.int .i64 y.i)).setCell ⟨wp.heap.size, 2, none⟩ (.int .i64 y.j)).setCell ⟨wp.heap.size, 3, none⟩ (.int .i64 y.n)).setCell ⟨wp.heap.size, 4, none⟩ (.slice ay y.kids.length cy)) = W5 at q5 hl5 z5 hB5 ⊢
        clear hK5
        obtain ⟨x0, x1, x2, x3, x4⟩ := five_cells q5
        obtain ⟨z0, z1, z2, z3, z4⟩ := five_cells z5
        obtain ⟨f0, f1, f2, f3, f4⟩ := five_free z5
        have HB5 := Lib.hid hB5
        have HL5 := Lib.hid hl5
        clear hl5 hly
        have HR5 := Lib.hid (HR.out.trans (congrArg (fun o => Option.getD o .zero) hr))
        clear hB5 q5 hr hh hbn
        go_wp2
        (try simp only [Exit.inBlock, Exit.then])
        refine bodyPost_ret (results_cell_row rfl _ _ (w.heap.size + 1 + 1) _ _ _ du rfl (five_set z5) hu1 (by cases du <;> first | rfl | exact hu2) size_term) rfl ?_
        rw [HR5.out]
        exact ⟨_, rfl, liesP_fives HL5.out (by omega) (by omega) _ _ _ _ _, below_five HB5.out (by omega) _ _ _ _ _⟩
      · have q5 : (((((wm.setCell ⟨wp.heap.size, 0, none⟩ (.int .i64 y.k)).setCell ⟨wp.heap.size, 1, none⟩ (.int .i64 y.i)).setCell ⟨wp.heap.size, 2, none⟩ (.int .i64 y.j)).setCell ⟨wp.heap.size, 3, none⟩ (.int .i64 y.n)).setCell ⟨wp.heap.size, 4, none⟩ (.slice ay ny cy)).heap[wp.heap.size]? = some (.cells #[.int .i64 y.k, .int .i64 y.i, .int .i64 y.j, .int .i64 y.n, .slice ay ny cy] 24) := five_set hzm
        have hK5 : Kept v1 (((((wm.setCell ⟨wp.heap.size, 0, none⟩ (.int .i64 y.k)).setCell ⟨wp.heap.size, 1, none⟩ (.int .i64 y.i)).setCell ⟨wp.heap.size, 2, none⟩ (.int .i64 y.j)).setCell ⟨wp.heap.size, 3, none⟩ (.int .i64 y.n)).setCell ⟨wp.heap.size, 4, none⟩ (.slice ay ny cy)) := (kept_set_ (kept_set_ (kept_set_ (kept_set_ (kept_set_ hh hvp _) hvp _) hvp _) hvp _) hvp _)
        have z5 := keep_block hK5 (block_lt HQ3.out) HQ3.out
        have hB5 := HB1.out.trans (Below.mono hK5 HB1.out.size)
        generalize (((((wm.setCell ⟨wp.heap.size, 0, none⟩ (.int .i64 y.k)).setCell ⟨wp.heap.size, 1, none⟩ (.int .i64 y.i)).setCell ⟨wp.heap.size, 2, none⟩ (.int .i64 y.j)).setCell ⟨wp.heap.size, 3, none⟩ (.int .i64 y.n)).setCell ⟨wp.heap.size, 4, none⟩ (.slice ay ny cy)) = W5 at q5 z5 hB5 ⊢
        clear hK5
        obtain ⟨x0, x1, x2, x3, x4⟩ := five_cells q5
        obtain ⟨z0, z1, z2, z3, z4⟩ := five_cells z5
        obtain ⟨f0, f1, f2, f3, f4⟩ := five_free z5
        have HB5 := Lib.hid hB5
        have HR5 := Lib.hid (HR.out.trans (congrArg (fun o => Option.getD o .zero) hr))
        clear hB5 q5 hr hh hbn
        go_wp2
        (try simp only [Exit.inBlock, Exit.then])
        refine bodyPost_ret (results_cell_row rfl _ _ (w.heap.size + 1 + 1) _ _ _ du rfl (five_set z5) hu1 (by cases du <;> first | rfl | exact hu2) size_term) rfl ?_
        rw [HR5.out]
        exact ⟨.slice none 0 0, rfl, liesP_nil _ _, below_five HB5.out (by omega) _ _ _ _ _⟩
    · rcases HANS.out with ⟨rfl, hr, rfl, hly⟩ | ⟨rfl, hr⟩
      · have q5 : (((((wm.setCell ⟨v1.heap.size, 0, none⟩ (.int .i64 y.k)).setCell ⟨v1.heap.size, 1, none⟩ (.int .i64 y.i)).setCell ⟨v1.heap.size, 2, none⟩ (.int .i64 y.j)).setCell ⟨v1.heap.size, 3, none⟩ (.int .i64 y.n)).setCell ⟨v1.heap.size, 4, none⟩ (.slice ay y.kids.length cy)).heap[v1.heap.size]? = some (.cells #[.int .i64 y.k, .int .i64 y.i, .int .i64 y.j, .int .i64 y.n, .slice ay y.kids.length cy] 24) := five_set hzm
        have hK5 : Kept v1 (((((wm.setCell ⟨v1.heap.size, 0, none⟩ (.int .i64 y.k)).setCell ⟨v1.heap.size, 1, none⟩ (.int .i64 y.i)).setCell ⟨v1.heap.size, 2, none⟩ (.int .i64 y.j)).setCell ⟨v1.heap.size, 3, none⟩ (.int .i64 y.n)).setCell ⟨v1.heap.size, 4, none⟩ (.slice ay y.kids.length cy)) := (kept_set_ (kept_set_ (kept_set_ (kept_set_ (kept_set_ hh (Nat.le_refl _) _) (Nat.le_refl _) _) (Nat.le_refl _) _) (Nat.le_refl _) _) (Nat.le_refl _) _)
        have hl5 : LiesP (((((wm.setCell ⟨v1.heap.size, 0, none⟩ (.int .i64 y.k)).setCell ⟨v1.heap.size, 1, none⟩ (.int .i64 y.i)).setCell ⟨v1.heap.size, 2, none⟩ (.int .i64 y.j)).setCell ⟨v1.heap.size, 3, none⟩ (.int .i64 y.n)).setCell ⟨v1.heap.size, 4, none⟩ (.slice ay y.kids.length cy)) (Own v0.heap.size (((((wm.setCell ⟨v1.heap.size, 0, none⟩ (.int .i64 y.k)).setCell ⟨v1.heap.size, 1, none⟩ (.int .i64 y.i)).setCell ⟨v1.heap.size, 2, none⟩ (.int .i64 y.j)).setCell ⟨v1.heap.size, 3, none⟩ (.int .i64 y.n)).setCell ⟨v1.heap.size, 4, none⟩ (.slice ay y.kids.length cy))) y.kids (.slice ay y.kids.length cy) := liesP_fives hly (g := v1.heap.size) (N := v0.heap.size) (by have := HBE.out; omega) (by have := HBE.out; omega) _ _ _ _ _
        have z5 := keep_block hK5 (block_lt HQ3.out) HQ3.out
        have hB5 := HB1.out.trans (Below.mono hK5 HB1.out.size)
        generalize (((((wm.setCell ⟨v1.heap.size, 0, none⟩ (.int .i64 y.k)).setCell ⟨v1.heap.size, 1, none⟩ (.int .i64 y.i)).setCell ⟨v1.heap.size, 2, none⟩ (.int .i64 y.j)).setCell ⟨v1.heap.size, 3, none⟩ (.int .i64 y.n)).setCell ⟨v1.heap.size, 4, none⟩ (.slice ay y.kids.length cy)) = W5 at q5 hl5 z5 hB5 ⊢
        clear hK5
        obtain ⟨x0, x1, x2, x3, x4⟩ := five_cells q5
        obtain ⟨z0, z1, z2, z3, z4⟩ := five_cells z5
        obtain ⟨f0, f1, f2, f3, f4⟩ := five_free z5
        have HB5 := Lib.hid hB5
        have HL5 := Lib.hid hl5
        clear hl5 hly
        have HR5 := Lib.hid (HR.out.trans (congrArg (fun o => Option.getD o .zero) hr))
        clear hB5 q5 hr hh hbn
        go_wp2
        (try simp only [Exit.inBlock, Exit.then])
        refine bodyPost_ret (results_cell_row rfl _ _ (w.heap.size + 1 + 1) _ _ _ du rfl (five_set z5) hu1 (by cases du <;> first | rfl | exact hu2) size_term) rfl ?_
        rw [HR5.out]
        exact ⟨_, rfl, liesP_fives HL5.out (by omega) (by omega) _ _ _ _ _, below_five HB5.out (by omega) _ _ _ _ _⟩
      · have q5 : (((((wm.setCell ⟨v1.heap.size, 0, none⟩ (.int .i64 y.k)).setCell ⟨v1.heap.size, 1, none⟩ (.int .i64 y.i)).setCell ⟨v1.heap.size, 2, none⟩ (.int .i64 y.j)).setCell ⟨v1.heap.size, 3, none⟩ (.int .i64 y.n)).setCell ⟨v1.heap.size, 4, none⟩ (.slice ay ny cy)).heap[v1.heap.size]? = some (.cells #[.int .i64 y.k, .int .i64 y.i, .int .i64 y.j, .int .i64 y.n, .slice ay ny cy] 24) := five_set hzm
        have hK5 : Kept v1 (((((wm.setCell ⟨v1.heap.size, 0, none⟩ (.int .i64 y.k)).setCell ⟨v1.heap.size, 1, none⟩ (.int .i64 y.i)).setCell ⟨v1.heap.size, 2, none⟩ (.int .i64 y.j)).setCell ⟨v1.heap.size, 3, none⟩ (.int .i64 y.n)).setCell ⟨v1.heap.size, 4, none⟩ (.slice ay ny cy)) := (kept_set_ (kept_set_ (kept_set_ (kept_set_ (kept_set_ hh (Nat.le_refl _) _) (Nat.le_refl _) _) (Nat.le_refl _) _) (Nat.le_refl _) _) (Nat.le_refl _) _)
        have z5 := keep_block hK5 (block_lt HQ3.out) HQ3.out
        have hB5 := HB1.out.trans (Below.mono hK5 HB1.out.size)
        generalize (((((wm.setCell ⟨v1.heap.size, 0, none⟩ (.int .i64 y.k)).setCell ⟨v1.heap.size, 1, none⟩ (.int .i64 y.i)).setCell ⟨v1.heap.size, 2, none⟩ (.int .i64 y.j)).setCell ⟨v1.heap.size, 3, none⟩ (.int .i64 y.n)).setCell ⟨v1.heap.size, 4, none⟩ (.slice ay ny cy)) = W5 at q5 z5 hB5 ⊢
        clear hK5
        obtain ⟨x0, x1, x2, x3, x4⟩ := five_cells q5
        obtain ⟨z0, z1, z2, z3, z4⟩ := five_cells z5
        obtain ⟨f0, f1, f2, f3, f4⟩ := five_free z5
        have HB5 := Lib.hid hB5
        have HR5 := Lib.hid (HR.out.trans (congrArg (fun o => Option.getD o .zero) hr))
        clear hB5 q5 hr hh hbn
        go_wp2
        (try simp only [Exit.inBlock, Exit.then])
        refine bodyPost_ret (results_cell_row rfl _ _ (w.heap.size + 1 + 1) _ _ _ du rfl (five_set z5) hu1 (by cases du <;> first | rfl | exact hu2) size_term) rfl ?_
        rw [HR5.out]
        exact ⟨.slice none 0 0, rfl, liesP_nil _ _, below_five HB5.out (by omega) _ _ _ _ _⟩
end Go.Proofs.Ytmhmengbhdaodaa
