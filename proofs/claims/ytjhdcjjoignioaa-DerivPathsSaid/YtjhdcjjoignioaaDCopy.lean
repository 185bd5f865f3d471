/-
  tree.Deriv: a derivation's copy in new memory.
-/
import Derived.Test.YtjhdcjjoignioaaDTwin
namespace Go.Proofs.Ytjhdcjjoignioaa.Dv
open Go.RowKit

theorem held_and4 {w w' : World} {t : Tm} {s v : Value} {p : Addr} (h : Held w t s w') (hp : w.cell? p = some v) : w'.cell? p = some v ∧ w'.cell? ⟨w.heap.size, 0, none⟩ = some (.int .i64 t.k) ∧ w'.cell? ⟨w.heap.size, 1, none⟩ = some (.int .i64 t.i) ∧ w'.cell? ⟨w.heap.size, 2, none⟩ = some s :=
  ⟨cell_lat (held_below h) hp, held_cells h⟩
theorem keep4 {W : World} {b1 b2 g o : Nat} {v y0 y1 y2 : Value} (h : W.cell? ⟨b1, 2, none⟩ = some v ∧ W.cell? ⟨b2, 0, none⟩ = some y0 ∧ W.cell? ⟨b2, 1, none⟩ = some y1 ∧ W.cell? ⟨b2, 2, none⟩ = some y2) (h1 : b1 ≠ g) (h2 : b2 ≠ g) (u0 u1 u2 : Value) :
    (((W.setCell ⟨g, o, none⟩ u0).setCell ⟨g, o + 1, none⟩ u1).setCell ⟨g, o + 2, none⟩ u2).cell? ⟨b1, 2, none⟩ = some v ∧ (((W.setCell ⟨g, o, none⟩ u0).setCell ⟨g, o + 1, none⟩ u1).setCell ⟨g, o + 2, none⟩ u2).cell? ⟨b2, 0, none⟩ = some y0 ∧
      (((W.setCell ⟨g, o, none⟩ u0).setCell ⟨g, o + 1, none⟩ u1).setCell ⟨g, o + 2, none⟩ u2).cell? ⟨b2, 1, none⟩ = some y1 ∧ (((W.setCell ⟨g, o, none⟩ u0).setCell ⟨g, o + 1, none⟩ u1).setCell ⟨g, o + 2, none⟩ u2).cell? ⟨b2, 2, none⟩ = some y2 := by
  have oth : ∀ {W : World} {b p q : Nat} {u : Value}, b ≠ g → (W.setCell ⟨g, q, none⟩ u).cell? ⟨b, p, none⟩ = W.cell? ⟨b, p, none⟩ := fun hb => World.cell?_setCell_other _ _ _ _ (fun e => hb (congrArg Addr.block e).symm)
  exact ⟨by rw [oth h1, oth h1, oth h1]; exact h.1, by rw [oth h2, oth h2, oth h2]; exact h.2.1, by rw [oth h2, oth h2, oth h2]; exact h.2.2.1, by rw [oth h2, oth h2, oth h2]; exact h.2.2.2⟩

set_option maxRecDepth 20000 in
set_option maxHeartbeats 2000000 in
theorem dcopy_any (t : Tm) : ∀ (w : World) (s : Value), Lies w t.kids s → t.size ≤ 1000000 → Calls Try.prog 58 #[tv t s] w (Makes t w) := by
  induction t using Tm.ind with
  | h t ih =>
    intro w s hl hsz
    obtain ⟨a, cap, S, rfl, hc, hm, hf, hn, hk⟩ := hl.out
    have hlen : t.kids.length ≤ 1000000 := by have := len_sizes t.kids; rw [t.size_eq] at hsz; omega
    have HSM := Lib.hid (show ∀ x ∈ t.kids, x.size ≤ 1000000 from fun x hx => by have := size_mem t.kids x hx; rw [t.size_eq] at hsz; omega)
    unfold tv
    unfold maxLen at hm
    obtain ⟨du, hu1, hu2⟩ := under_term
    have HFI := Lib.hid hf
    have IH := Lib.hid ih
    have HN := Lib.hid hn
    have HK := Lib.hid hk
    have hd0 := desk_start w t t (.slice a t.kids.length cap) (.slice none 0 0)
    clear ih hn hk hf hl hsz
    by_cases h0 : t.kids.length = 0
    · have h1 : decide ((0 : Int) < (t.kids.length : Int)) = false := decide_eq_false (by omega)
      have h2 : ¬ (0 < t.kids.length) := by omega
      have HNL := Lib.hid (List.eq_nil_of_length_eq_zero h0)
      have H00 := Lib.hid h0
      clear h0
      go_enter Try.func58, Try.ntmps58
      go_wp2_with fail
      go_loopw [23] (fun i wr => i = .int .i64 0 ∧ Desk w t t (.slice a t.kids.length cap) (.slice none 0 0) wr) (fun _ _ => 0)
      case atStart => exact ⟨rfl, hd0⟩
      case round =>
        clear hd0
        obtain ⟨rfl, hdk⟩ := hrel
        obtain ⟨q0, q1, q2⟩ := desk_blocks hdk
        obtain ⟨d0, d1, d2⟩ := five_cells q0
        obtain ⟨y0, y1, y2⟩ := five_cells q2
        obtain ⟨z0, z1, z2⟩ := five_cells q1
        obtain ⟨f0, f1, f2⟩ := five_free q1
        clear q0 q2
        go_wp2_with fail
        (try simp only [Exit.inBlock, Exit.then])
        refine bodyPost_ret (results_cell_row rfl _ _ (w.heap.size + 1) _ _ _ du rfl (five_set q1) hu1 (by cases du <;> first | rfl | exact hu2) size_term) rfl ?_
        refine ⟨_, rfl, ?_, ((((desk_under hdk).setCell (by simp) _).setCell (by simp) _).setCell (by simp) _)⟩
        rw [HNL.out]
        exact liesP_nil _ _
    · have h0' : 0 < t.kids.length := by omega
      have h1 : decide ((0 : Int) < (t.kids.length : Int)) = true := decide_eq_true (by omega)
      have h0'' : (0 : Int) < (t.kids.length : Int) := by omega
      obtain ⟨i0, hi, hz0, hz1, hz2⟩ := info_parts info_term
      have HI := Lib.hid (And.intro hi (And.intro hz0 (And.intro hz1 hz2)))
      clear hi hz0 hz1 hz2 h0
      go_enter Try.func58, Try.ntmps58
      go_wp2_with (at_make; refine wpList_make_full _ rfl _ _ 51 rfl (w.heap.size + 3) 53 i0 _ 3 (by kernel_rfl) HI.out.1 HI.out.2.1 HI.out.2.2.1 _ _ _ _ t.kids.length rfl rfl rfl rfl ?bytes ?max ?base ?next)
      case bytes => rw [HI.out.2.2.2]; omega
      case max => unfold maxLen; omega
      case base => simp
      case next =>
      intro w1 hown hgrow
      have hful := full_made hown
      have hbel : Below (w.heap.size + 3) _ w1 := (Below.refl _ _).grown hgrow (by simp) (by simp)
      have hd1 : Desk w t t _ _ w1 := hbel
      clear hbel hgrow hown
      obtain ⟨q0, q1, q2⟩ := desk_blocks hd1
      obtain ⟨d0, d1, d2⟩ := five_cells q0
      obtain ⟨y0, y1, y2⟩ := five_cells q2
      obtain ⟨f0, f1, f2⟩ := five_free q2
      have hd2 := desk_set (v' := .slice (some ⟨w.heap.size + 3, 0, none⟩) t.kids.length t.kids.length) hd1
      obtain ⟨p0, -, -⟩ := desk_blocks hd2
      obtain ⟨b0, b1, b2⟩ := five_cells p0
      clear q0 q1 q2 p0
      have hf2 := hful.below (b := w.heap.size + 2) (o := 2) (by omega) (.slice (some ⟨w.heap.size + 3, 0, none⟩) t.kids.length t.kids.length)
      clear hd1 hful hd0
      go_wp2_with fail
      go_loopw [23] (fun i wr => ∃ (q : Nat) (xs : List (Tm × Value)), q ≤ t.kids.length ∧ i = .int .i64 q ∧ Hid (xs.length = t.kids.length) ∧ Hid ((xs.map (·.1)).take q = t.kids.take q) ∧ Full (w.heap.size + 3) wr (w.heap.size + 3) xs ∧ Desk w t t (.slice a t.kids.length cap) (.slice (some ⟨w.heap.size + 3, 0, none⟩) t.kids.length t.kids.length) wr) (fun i _ => t.kids.length - (intOf i).toNat)
      case atStart => exact ⟨0, _, Nat.zero_le _, rfl, List.length_replicate, rfl, hf2, hd2⟩
      case round =>
        clear hd2 hf2 d0 d1 d2 y0 y1 y2 f0 f1 f2 b0 b1 b2
        obtain ⟨q, xs, hq0, rfl, hxl, hxs, hfu, hdk⟩ := hrel
        have HXL := Lib.hid hxl.out
        have HXS := Lib.hid hxs.out
        clear hxl hxs
        have hsz := desk_size hdk
        have hb := desk_under hdk
        obtain ⟨q0, q1, q2⟩ := desk_blocks hdk
        obtain ⟨d0, d1, d2⟩ := five_cells q0
        obtain ⟨y0, y1, y2⟩ := five_cells q2
        clear q0 q2
        by_cases hlt : q < t.kids.length
        · obtain ⟨b, o, rfl, hx⟩ := HN.out q hlt
          obtain ⟨c0, c1, c2⟩ := hx.below hb hx.lt
          have hq := (HK.out q hlt).keep hb
          obtain ⟨a', cap', S', hS, -⟩ := hq.out
          rw [hS] at c2 hq
          have HM := Lib.hid (List.getElem_mem hlt)
          have hH0 := held_start wr t.kids[q] (.slice a' t.kids[q].kids.length cap')
          have CALL := Lib.hid (IH.out _ HM.out _ _ (held_lies (held_drew hH0) hq) (HSM.out _ HM.out))
          have hjlt : (q : Int) < (t.kids.length : Int) := by omega
          have hxq : q < xs.length := by rw [HXL.out]; exact hlt
          have HXQ := Lib.hid hxq
          have hne1 : w.heap.size + 2 ≠ w.heap.size + 3 := by omega
          have hne2 : wr.heap.size ≠ w.heap.size + 3 := by have := full_lt hfu; omega
          have HFU := Lib.hid hfu
          have HDK := Lib.hid hdk
          obtain ⟨g0, g1, g2⟩ := held_cells hH0
          clear hS hq hfu hdk hxq d0 d1 d2 q1
          go_wp2_with fail
          go_region_held3 (fun w' => w'.cell? ⟨w.heap.size + 2, 2, none⟩ = some (.slice (some ⟨w.heap.size + 3, 0, none⟩) t.kids.length t.kids.length) ∧ w'.cell? ⟨wr.heap.size, 0, none⟩ = some (.int .i64 t.kids[q].k) ∧ w'.cell? ⟨wr.heap.size, 1, none⟩ = some (.int .i64 t.kids[q].i) ∧ w'.cell? ⟨wr.heap.size, 2, none⟩ = some (.slice a' t.kids[q].kids.length cap'))
            (first | ((with_reducible refine keep4 ?_ hne1 hne2 _ _ _); with_reducible assumption) | ((with_reducible refine held_and4 ?_ y2); repeat (first | with_reducible assumption | with_reducible exact hH0 | with_reducible refine held_drew ?_ | with_reducible refine held_alloc ?_ _)))
            (first | (go_at_call 58; ((with_reducible refine Calls.mono CALL.out ?_); rintro e wn ⟨s2, rfl, hl2, hbn⟩; obtain ⟨a2, cap2, rfl, -, -⟩ := hl2.out; have HL2 := Lib.hid hl2; have hh := held_call (held_drew hH0) hbn; have HFN := Lib.hid (HFU.out.later (held_below hh)); obtain ⟨x0, x1, x2⟩ := HFN.out.node q HXQ.out; have f0 := full_open HFN.out (q * 3); have f1 := full_open HFN.out (q * 3 + 1); have f2 := full_open HFN.out (q * 3 + 2); clear hl2 hbn)))
          have hdW := desk_trans HDK.out (below_from (held_below hh) hsz)
          have hLF := HFU.out.fresh hsz (HL2.out.from (B' := wr.heap.size) (by simp))
          go_wp2
          go_roundw
          case rel => exact ⟨q + 1, xs.set q (t.kids[q], .slice a2 t.kids[q].kids.length cap2), hlt, by go_num, by simp [Hid, HXL.out], by rw [Hid, List.map_set, take_set_next _ _ _ (by simpa using HXQ.out), HXS.out, List.take_append_getElem hlt], HFN.out.fill HXQ.out (HFI.out _ HM.out) hLF, desk_put hdW (Nat.le_refl _) _ _ _⟩
          case measure => simp [intOf]; omega
        · have : q = t.kids.length := by omega
          subst this
          obtain ⟨z0, z1, z2⟩ := five_cells q1
          obtain ⟨f0, f1, f2⟩ := five_free q1
          go_wp2_with fail
          (try simp only [Exit.inBlock, Exit.then])
          refine bodyPost_ret (results_cell_row rfl _ _ (w.heap.size + 1) _ _ _ du rfl (five_set q1) hu1 (by cases du <;> first | rfl | exact hu2) size_term) rfl ?_
          have hxe : xs.map (·.1) = t.kids := by
            have := HXS.out
            rwa [List.take_length, ← HXL.out, ← List.length_map (f := (·.1)), List.take_length] at this
          have hll := hfu.lies (cap := t.kids.length) (by rw [HXL.out]; exact Nat.le_refl _) (by unfold maxLen; omega)
          rw [hxe, HXL.out] at hll
          exact ⟨_, rfl, liesP_fives hll (by omega) (by omega) _ _ _, ((((desk_under hdk).setCell (by simp) _).setCell (by simp) _).setCell (by simp) _)⟩
end Go.Proofs.Ytjhdcjjoignioaa.Dv
