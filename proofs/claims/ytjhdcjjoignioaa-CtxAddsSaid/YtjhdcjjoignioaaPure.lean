/-
  erase.pure copies a marked term without its transports.
-/
import Derived.Test.YtjhdcjjoignioaaUnder
import Derived.Test.YtjhdcjjoignioaaLawKit
import Derived.Test.YtjhdcjjoignioaaLiftFacts
import Derived.Deep.RegionHeld3
import Derived.Deep.DeepCutAuto
namespace Go.Proofs.Ytjhdcjjoignioaa
open Go.RowKit

/-- A box at its place. -/
def Boxed (n : Nat) (x : Tm) (s : Value) (w : World) : Prop := w.heap[n]? = some (boxOf x s)
theorem boxed_drew {n : Nat} {x : Tm} {s : Value} {w : World} (h : Boxed n x s w) : Boxed n x s w.drew := h
theorem boxed_call {n : Nat} {x : Tm} {s : Value} {w w' : World} (h : Boxed n x s w) (hb : Below w.heap.size w w') : Boxed n x s w' := by
  unfold Boxed; rw [hb.block _ (Array.getElem?_eq_some_iff.1 h).1]; exact h
/-- The maker's blocks stay, and the kid's box. -/
def Both (v : World) (n : Nat) (x : Tm) (s : Value) (w : World) : Prop := Kept v w ∧ Boxed n x s w
theorem both_drew {v w : World} {n : Nat} {x : Tm} {s : Value} (h : Both v n x s w) : Both v n x s w.drew := ⟨kept_drew h.1, h.2⟩
theorem both_call {v w w' : World} {n : Nat} {x : Tm} {s : Value} (h : Both v n x s w) (hb : Below w.heap.size w w') : Both v n x s w' := ⟨kept_call h.1 hb, boxed_call h.2 hb⟩
theorem both_set {v w : World} {n g : Nat} {x : Tm} {s : Value} (h : Both v n x s w) (hg : v.heap.size ≤ g ∧ g < n) (o : Nat) (y : Value) : Both v n x s (w.setCell ⟨g, o, none⟩ y) :=
  ⟨Below.setCell h.1 hg.1 _, by unfold Boxed; rw [Below.heap_setCell _ _ _ _ (by show n ≠ g; omega)]; exact h.2⟩
theorem both_and {v w : World} {n : Nat} {x : Tm} {s c : Value} {p : Addr} (h : Both v n x s w) (hp : v.cell? p = some c) : Both v n x s w ∧ w.cell? p = some c ∧ w.cell? ⟨n, 0, none⟩ = some (.int .i64 x.k) ∧ w.cell? ⟨n, 1, none⟩ = some (.int .i64 x.i) ∧ w.cell? ⟨n, 2, none⟩ = some (.int .i64 x.j) ∧ w.cell? ⟨n, 3, none⟩ = some (.int .i64 x.n) ∧ w.cell? ⟨n, 4, none⟩ = some s := by
  obtain ⟨c0, c1, c2, c3, c4⟩ := five_cells h.2
  exact ⟨h, cell_lat h.1 hp, c0, c1, c2, c3, c4⟩
/-- The kids of the term that is built are laid into it. -/
theorem kept_setv {w w1 : World} {k i j n v v' : Value} (h : Below (w.heap.size + 1) (w.alloc (.cells #[k, i, j, n, v] 26)) w1) : Kept (w.alloc (.cells #[k, i, j, n, v'] 26)) (w1.setCell ⟨w.heap.size, 4, none⟩ v') := by
  have hs := h.size
  have hm : w1.heap[w.heap.size]? = some (.cells #[k, i, j, n, v] 26 (0, 0)) := by rw [h.block _ (by omega)]; exact alloc_new _ _
  refine ⟨h.os, h.tape, h.output, by simpa [World.setCell] using hs, fun b hb => ?_⟩
  have hb' : b < w.heap.size + 1 := by simpa using hb
  by_cases e : b = w.heap.size
  · subst e
    rw [heap_setCell_same _ _ _ _ _ _ hm, alloc_new]; rfl
  · rw [Below.heap_setCell _ _ _ _ (by exact e), h.block b hb', Below.heap_alloc _ _ _ (by omega), Below.heap_alloc _ _ _ (by omega)]

theorem kept_put5 {v w : World} {g : Nat} (h : Kept v w) (hg : v.heap.size ≤ g) (o : Nat) (x : Tm) (sx : Value) : Kept v (put5 w g o x sx) :=
  (((((Below.setCell h hg _).setCell hg _).setCell hg _).setCell hg _).setCell hg _)
theorem pur_fine {t : Tm} (h : t.markedB = true) : t.pur.fine := by
  rw [pur_und t h]
  have hf := right_fine (marked_right (und_marked t h).1)
  exact ⟨hf.1, hf.2.1, hf.2.2.1, by show I64 0; unfold I64; omega⟩

set_option maxRecDepth 20000 in
set_option maxHeartbeats 2000000 in
theorem epure_any : ∀ (n : Nat) (t : Tm) (w : World) (s : Value), t.size ≤ n → Lies w t.kids s → t.markedB = true → Calls Try.prog 71 #[tv t s] w (Makes t.pur w) := by
  intro n
  induction n with
  | zero => intro t w s hn; have := size_pos t; omega
  | succ n ih =>
    intro t w s hn hl hm
    obtain ⟨du, hu1, hu2⟩ := under_term
    have hp0 := pair_start w t s
    obtain ⟨a0, cap0, S0, rfl, -⟩ := hl.out
    have HL := Lib.hid hl
    obtain ⟨hum, huk, hus⟩ := und_marked t hm
    have hpu := pur_und t hm
    obtain ⟨u, hu⟩ : ∃ u, t.und = u := ⟨_, rfl⟩
    rw [hu] at hum huk hus hpu
    have hlen := right_len (marked_right hum)
    have HKM := Lib.hid (marked_others hum huk)
    have HPU := Lib.hid hpu
    have HU := Lib.hid hu
    have HM := Lib.hid hm
    have IH := Lib.hid ih
    have hsu := u.size_eq
    have hsk : ∀ x ∈ u.kids, x.size ≤ n := fun x hx => by have := size_mem _ x hx; omega
    have HSK := Lib.hid hsk
    clear hl ih hsk hsu hu hpu hm
    unfold tv
    go_enter Try.func71, Try.ntmps71
    go_wp2_with fail
    refine (under_any t w _ _ HL.out hp0.under HM.out).mono ?_
    rw [HU.out]
    rintro e w2 ⟨s2, rfl, hl2, hb2⟩
    obtain ⟨a2, cap2, S2, rfl, hc2, hm2, -, hn2, hk2⟩ := hl2.out
    have hp2 : Pair w t (.slice a0 t.kids.length cap0) w2 := ⟨hp0.under.trans (hb2.mono hp0.under.size), by rw [hb2.block _ (by simp; omega)]; exact hp0.box, by rw [hb2.block _ (by simp)]; exact hp0.res⟩
    obtain ⟨d0, d1, d2, d3, d4⟩ := five_cells hp2.box
    obtain ⟨e0, e1, e2, e3, e4⟩ := five_free hp2.box
    have hp3 := hp2.put u (.slice a2 u.kids.length cap2)
    unfold five at hp3
    unfold maxLen at hm2
    have HN := Lib.hid hn2
    have HK := Lib.hid hk2
    clear hl2 hb2 hp0 hn2 hk2 hp2
    go_upto_region 2 with fail
    generalize ((((w2.setCell ⟨w.heap.size, 0, none⟩ (.int .i64 u.k)).setCell ⟨w.heap.size, 1, none⟩ (.int .i64 u.i)).setCell ⟨w.heap.size, 2, none⟩ (.int .i64 u.j)).setCell ⟨w.heap.size, 3, none⟩ (.int .i64 u.n)).setCell ⟨w.heap.size, 4, none⟩ (.slice a2 u.kids.length cap2) = W3 at hp3 ⊢
    clear d0 d1 d2 d3 d4 e0 e1 e2 e3 e4
    obtain ⟨d0, d1, d2, d3, d4⟩ := five_cells hp3.box
    have hs3 : w.heap.size + 1 < W3.heap.size := block_lt hp3.res
    have hs4 : w.heap.size < W3.heap.size := block_lt hp3.box
    obtain ⟨M, hM⟩ : ∃ M, W3.heap.size = M := ⟨_, rfl⟩
    by_cases h0 : u.kids.length = 0
    · have h1 : u.kids.length < 1 := by omega
      have HNL := Lib.hid (List.eq_nil_of_length_eq_zero h0)
      have hkv0 := kept_start (W3.alloc (.cells #[.int .i64 u.k, .int .i64 u.i, .int .i64 u.j, .int .i64 0, .slice none 0 0] 26))
      have HV := Lib.hid (And.intro (show (W3.alloc (.cells #[.int .i64 u.k, .int .i64 u.i, .int .i64 u.j, .int .i64 0, .slice none 0 0] 26)).heap[w.heap.size]? = some (boxOf u (.slice a2 u.kids.length cap2)) by rw [Below.heap_alloc _ _ _ hs4]; exact hp3.box) (And.intro (show (W3.alloc (.cells #[.int .i64 u.k, .int .i64 u.i, .int .i64 u.j, .int .i64 0, .slice none 0 0] 26)).heap[w.heap.size + 1]? = some zeroObj by rw [Below.heap_alloc _ _ _ hs3]; exact hp3.res) (alloc_new W3 (.cells #[.int .i64 u.k, .int .i64 u.i, .int .i64 u.j, .int .i64 0, .slice none 0 0] 26))))
      have HBV := Lib.hid (hp3.under.alloc (B := w.heap.size) (by omega) (.cells #[.int .i64 u.k, .int .i64 u.i, .int .i64 u.j, .int .i64 0, .slice none 0 0] 26))
      clear h0 hM hp3
      go_wp2_with fail
      go_loopw [27] (fun i wr => i = .int .i64 0 ∧ Kept (W3.alloc (.cells #[.int .i64 u.k, .int .i64 u.i, .int .i64 u.j, .int .i64 0, .slice none 0 0] 26)) wr) (fun _ _ => 0)
      case atStart => exact ⟨rfl, hkv0⟩
      case round =>
        clear hkv0 d0 d1 d2 d3 d4
        obtain ⟨rfl, hkv⟩ := hrel
        have t0 := keep_block (kept_below hkv) (by simp; omega) HV.out.1
        have t1 := keep_block (kept_below hkv) (by simp; omega) HV.out.2.1
        have t2 := keep_block (kept_below hkv) (by simp) HV.out.2.2
        obtain ⟨d0, d1, d2, d3, d4⟩ := five_cells t0
        obtain ⟨z0, z1, z2, z3, z4⟩ := five_cells t1
        obtain ⟨f0, f1, f2, f3, f4⟩ := five_free t1
        obtain ⟨y0, y1, y2, y3, y4⟩ := five_cells t2
        have hbw := HBV.out.trans (Below.mono (kept_below hkv) HBV.out.size)
        have q1 := t1
        clear t0 t2
        go_wp2
        (try simp only [Exit.inBlock, Exit.then])
        refine bodyPost_ret (results_cell_row rfl _ _ (w.heap.size + 1) _ _ _ du rfl (five_set q1) hu1 (by cases du <;> first | rfl | exact hu2) size_term) rfl ?_
        rw [HPU.out]
        refine ⟨.slice none 0 0, rfl, ?_, below_five hbw (by omega) _ _ _ _ _⟩
        show LiesP _ _ (u.kids.map Tm.pur) _
        rw [HNL.out]
        exact liesP_nil _ _
    · have h0' : 0 < u.kids.length := by omega
      obtain ⟨i0, hi, hz0, hz1, hz2⟩ := info_parts info_term
      have HI := Lib.hid (And.intro hi (And.intro hz0 (And.intro hz1 hz2)))
      have HMM := Lib.hid hM
      clear hi hz0 hz1 hz2 h0 hM
      go_wp2_with (at_make; refine wpList_make_full _ rfl _ _ 24 rfl (W3.heap.size + 1) 26 i0 _ 5 (by kernel_rfl) HI.out.1 HI.out.2.1 HI.out.2.2.1 _ _ _ _ u.kids.length rfl rfl rfl rfl ?bytes ?max ?base ?next)
      case bytes => rw [HI.out.2.2.2]; omega
      case max => unfold maxLen; omega
      case base => simp
      case next =>
      intro w1 hown hgrow
      have hful := full_made hown
      have hbel : Below (W3.heap.size + 1) _ w1 := (Below.refl _ _).grown hgrow (by simp) (by simp)
      have hkv0 := kept_setv (v' := (.slice (some ⟨W3.heap.size + 1, 0, none⟩) u.kids.length u.kids.length)) hbel
      have hf2 := hful.below (b := W3.heap.size) (o := 4) (by omega) (.slice (some ⟨W3.heap.size + 1, 0, none⟩) u.kids.length u.kids.length)
      have m1 : w1.heap[W3.heap.size]? = some (.cells #[.int .i64 u.k, .int .i64 u.i, .int .i64 u.j, .int .i64 0, .slice none 0 0] 26 (0, 0)) := by rw [hbel.block _ (by omega)]; exact alloc_new _ _
      have m0 : w1.heap[w.heap.size]? = some (boxOf u (.slice a2 u.kids.length cap2)) := by rw [hbel.block _ (by omega), Below.heap_alloc _ _ _ hs4]; exact hp3.box
      have HV := Lib.hid (And.intro (show (W3.alloc (.cells #[.int .i64 u.k, .int .i64 u.i, .int .i64 u.j, .int .i64 0, (.slice (some ⟨W3.heap.size + 1, 0, none⟩) u.kids.length u.kids.length)] 26)).heap[w.heap.size]? = some (boxOf u (.slice a2 u.kids.length cap2)) by rw [Below.heap_alloc _ _ _ hs4]; exact hp3.box) (And.intro (show (W3.alloc (.cells #[.int .i64 u.k, .int .i64 u.i, .int .i64 u.j, .int .i64 0, (.slice (some ⟨W3.heap.size + 1, 0, none⟩) u.kids.length u.kids.length)] 26)).heap[w.heap.size + 1]? = some zeroObj by rw [Below.heap_alloc _ _ _ hs3]; exact hp3.res) (alloc_new W3 (.cells #[.int .i64 u.k, .int .i64 u.i, .int .i64 u.j, .int .i64 0, (.slice (some ⟨W3.heap.size + 1, 0, none⟩) u.kids.length u.kids.length)] 26))))
      have HBV := Lib.hid (hp3.under.alloc (B := w.heap.size) (by omega) (.cells #[.int .i64 u.k, .int .i64 u.i, .int .i64 u.j, .int .i64 0, (.slice (some ⟨W3.heap.size + 1, 0, none⟩) u.kids.length u.kids.length)] 26))
      obtain ⟨y0, y1, y2, y3, y4⟩ := five_cells m1
      obtain ⟨g0, g1, g2, g3, g4⟩ := five_free m1
      clear d0 d1 d2 d3 d4
      obtain ⟨d0, d1, d2, d3, d4⟩ := five_cells m0
      clear hbel hgrow hown hful m0 m1 hp3
      go_wp2_with fail
      go_loopw [27] (fun i wr => ∃ (q : Nat) (xs : List (Tm × Value)), q ≤ u.kids.length ∧ i = .int .i64 q ∧ Hid (xs.length = u.kids.length) ∧ Hid ((xs.map (·.1)).take q = (u.kids.map Tm.pur).take q) ∧ Full (W3.heap.size + 1) wr (W3.heap.size + 1) xs ∧ Kept (W3.alloc (.cells #[.int .i64 u.k, .int .i64 u.i, .int .i64 u.j, .int .i64 0, (.slice (some ⟨W3.heap.size + 1, 0, none⟩) u.kids.length u.kids.length)] 26)) wr) (fun i _ => u.kids.length - (intOf i).toNat)
      case atStart => exact ⟨0, _, Nat.zero_le _, rfl, List.length_replicate, rfl, hf2, hkv0⟩
      case round =>
        clear hf2 hkv0 d0 d1 d2 d3 d4 y0 y1 y2 y3 y4 g0 g1 g2 g3 g4
        obtain ⟨q, xs, hq0, rfl, hxl, hxs, hfu, hkv⟩ := hrel
        have HXL := Lib.hid hxl.out
        have HXS := Lib.hid hxs.out
        clear hxl hxs
        have t0 := keep_block (kept_below hkv) (by simp; omega) HV.out.1
        have t1 := keep_block (kept_below hkv) (by simp; omega) HV.out.2.1
        have t2 := keep_block (kept_below hkv) (by simp) HV.out.2.2
        obtain ⟨d0, d1, d2, d3, d4⟩ := five_cells t0
        obtain ⟨z0, z1, z2, z3, z4⟩ := five_cells t1
        obtain ⟨f0, f1, f2, f3, f4⟩ := five_free t1
        obtain ⟨y0, y1, y2, y3, y4⟩ := five_cells t2
        have hbw := HBV.out.trans (Below.mono (kept_below hkv) HBV.out.size)
        clear t0 t2
        by_cases hlt : q < u.kids.length
        · obtain ⟨b', o, rfl, hx⟩ := HN.out q hlt
          have hq := HK.out q hlt
          obtain ⟨a', cap', S', hS, -⟩ := hq.out
          rw [hS] at hx hq
          obtain ⟨c0, c1, c2, c3, c4⟩ := hx.below hbw hx.lt
          have HMem := Lib.hid (List.getElem_mem hlt)
          have hkm := HKM.out _ HMem.out
          have hb9 : Below wr.heap.size wr (wr.alloc (.cells #[.int .i64 u.kids[q].k, .int .i64 u.kids[q].i, .int .i64 u.kids[q].j, .int .i64 u.kids[q].n, .slice a' u.kids[q].kids.length cap'] 26)).drew := ((Below.refl _ _).alloc (Nat.le_refl _) _).drew
          have CALL := IH.out u.kids[q] (wr.alloc (.cells #[.int .i64 u.kids[q].k, .int .i64 u.kids[q].i, .int .i64 u.kids[q].j, .int .i64 u.kids[q].n, .slice a' u.kids[q].kids.length cap'] 26)).drew _ (HSK.out _ HMem.out) (hq.keep (hbw.trans (hb9.mono hbw.size))) hkm
          have hfx := pur_fine hkm
          obtain ⟨x, hxb⟩ : ∃ x, (u.kids[q]).pur = x := ⟨_, rfl⟩
          rw [hxb] at CALL hfx
          have hnext : (u.kids.map Tm.pur).take (q + 1) = (u.kids.map Tm.pur).take q ++ [x] := by
            rw [List.take_succ_eq_append_getElem (by simpa using hlt), List.getElem_map, hxb]
          have hxq : q < xs.length := by rw [HXL.out]; exact hlt
          have hsv : W3.heap.size + 1 < wr.heap.size := by obtain ⟨cs, hcs⟩ := hfu.open'; exact (Array.getElem?_eq_some_iff.1 hcs).1
          have HNX := Lib.hid hnext
          have HFX := Lib.hid hfx
          have HCALL := Lib.hid CALL
          have HFU := Lib.hid (hfu.later ((Below.refl _ _).alloc (Nat.le_refl _) (.cells #[.int .i64 u.kids[q].k, .int .i64 u.kids[q].i, .int .i64 u.kids[q].j, .int .i64 u.kids[q].n, .slice a' u.kids[q].kids.length cap'] 26)))
          have hbo : Both (W3.alloc (.cells #[.int .i64 u.k, .int .i64 u.i, .int .i64 u.j, .int .i64 0, (.slice (some ⟨W3.heap.size + 1, 0, none⟩) u.kids.length u.kids.length)] 26)) wr.heap.size u.kids[q] (.slice a' u.kids[q].kids.length cap') (wr.alloc (.cells #[.int .i64 u.kids[q].k, .int .i64 u.kids[q].i, .int .i64 u.kids[q].j, .int .i64 u.kids[q].n, .slice a' u.kids[q].kids.length cap'] 26)) := ⟨kept_alloc hkv _, alloc_new _ _⟩
          have hm4 : (W3.alloc (.cells #[.int .i64 u.k, .int .i64 u.i, .int .i64 u.j, .int .i64 0, (.slice (some ⟨W3.heap.size + 1, 0, none⟩) u.kids.length u.kids.length)] 26)).cell? ⟨W3.heap.size, 4, none⟩ = some (.slice (some ⟨W3.heap.size + 1, 0, none⟩) u.kids.length u.kids.length) := by rw [cell_of_row _ _ _ _ _ _ (alloc_new _ _)]; rfl
          have HM4 := Lib.hid hm4
          clear hS hq hx hfx hxb hkm hnext CALL hb9 hfu hkv t1 hm4
          go_wp2_with fail
          go_region_held3 (fun w' => Both (W3.alloc (.cells #[.int .i64 u.k, .int .i64 u.i, .int .i64 u.j, .int .i64 0, (.slice (some ⟨W3.heap.size + 1, 0, none⟩) u.kids.length u.kids.length)] 26)) wr.heap.size u.kids[q] (.slice a' u.kids[q].kids.length cap') w' ∧ w'.cell? ⟨W3.heap.size, 4, none⟩ = some (.slice (some ⟨W3.heap.size + 1, 0, none⟩) u.kids.length u.kids.length) ∧ w'.cell? ⟨wr.heap.size, 0, none⟩ = some (.int .i64 u.kids[q].k) ∧ w'.cell? ⟨wr.heap.size, 1, none⟩ = some (.int .i64 u.kids[q].i) ∧ w'.cell? ⟨wr.heap.size, 2, none⟩ = some (.int .i64 u.kids[q].j) ∧ w'.cell? ⟨wr.heap.size, 3, none⟩ = some (.int .i64 u.kids[q].n) ∧ w'.cell? ⟨wr.heap.size, 4, none⟩ = some (.slice a' u.kids[q].kids.length cap'))
            (((with_reducible refine both_and ?_ HM4.out); repeat (first | with_reducible assumption | with_reducible exact hbo | with_reducible refine both_drew ?_ | ((with_reducible refine both_set ?_ ?hh _ _); (case hh => simp; omega)))))
            (first | (go_at_call 71; ((with_reducible refine Calls.mono HCALL.out ?_); rintro e wn ⟨s5, rfl, hl5, hbn⟩; obtain ⟨a5, cap5, rfl, -, -⟩ := hl5.out; have hbo2 := both_call (both_drew hbo) hbn; have hfw := (HFU.out.later (Below.refl _ _).drew).later hbn; obtain ⟨x0, x1, x2, x3, x4⟩ := hfw.node q hxq; obtain ⟨cs, hcs⟩ := hfw.open'; have g0 := open_unfrozen hcs (q * 5); have g1 := open_unfrozen hcs (q * 5 + 1); have g2 := open_unfrozen hcs (q * 5 + 2); have g3 := open_unfrozen hcs (q * 5 + 3); have g4 := open_unfrozen hcs (q * 5 + 4); have HLF := Lib.hid (HFU.out.fresh (w2 := wn) (by simp; omega) hl5); have HFW := Lib.hid hfw; have HK2 := Lib.hid hbo2.1; clear hcs hfw hl5 hbn)))
          go_wp2_with fail
          go_roundw
          case rel => exact ⟨q + 1, xs.set q (x, .slice a5 x.kids.length cap5), hlt, by go_num, by simp [Hid, HXL.out], by rw [Hid, List.map_set, take_set_next _ _ _ (by simpa using hxq), HXS.out, HNX.out], HFW.out.fill hxq HFX.out HLF.out, kept_put5 HK2.out (by simp) _ _ _⟩
          case measure => simp [intOf]; omega
        · have : q = u.kids.length := by omega
          subst this
          have hres : xs.map (·.1) = u.kids.map Tm.pur := by
            have h1 := HXS.out
            rw [List.take_of_length_le (by rw [List.length_map, HXL.out]; exact Nat.le_refl _), List.take_of_length_le (by simp)] at h1
            exact h1
          have hll := hfu.lies (cap := u.kids.length) (by rw [HXL.out]; exact Nat.le_refl _) (by unfold maxLen; omega)
          rw [hres, HXL.out] at hll
          have HLL := Lib.hid hll
          have q1 := t1
          clear hres hll hfu
          go_wp2
          (try simp only [Exit.inBlock, Exit.then])
          refine bodyPost_ret (results_cell_row rfl _ _ (w.heap.size + 1) _ _ _ du rfl (five_set q1) hu1 (by cases du <;> first | rfl | exact hu2) size_term) rfl ?_
          rw [HPU.out]
          exact ⟨(.slice (some ⟨W3.heap.size + 1, 0, none⟩) u.kids.length u.kids.length), rfl, liesP_fives HLL.out (by omega) (by omega) _ _ _ _ _, below_five hbw (by omega) _ _ _ _ _⟩
end Go.Proofs.Ytjhdcjjoignioaa
