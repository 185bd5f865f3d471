/-
  lift.each: a term's copy, its variables moved as a function says.
-/
import Derived.Test.YtjhdcjjoignioaaDesk
import Derived.Deep.RegionHeld3
namespace Go.Proofs.Ytjhdcjjoignioaa
open Go.RowKit

set_option maxRecDepth 20000 in
set_option maxHeartbeats 1000000 in
theorem eachl_any (k c : Int) (bf bk : Nat) (hk : I64 k) (hk0 : 0 ≤ k) (t : Tm) : ∀ (b : Int) (w : World) (s : Value), Lies w t.kids s → t.rightB = true → 0 ≤ b → b + 2 * t.deep ≤ 1000000 → w.cell? ⟨bf, 0, none⟩ = some (.int .i64 c) → w.cell? ⟨bk, 0, none⟩ = some (.int .i64 k) →
    Calls Try.prog 66 #[tv t s, .int .i64 b, .func (.func 67) #[] #[.pointer (some ⟨bf, 0, none⟩), .pointer (some ⟨bk, 0, none⟩)]] w (Gives (t.each (liftF k c) b) w) := by
  induction t using Tm.ind with
  | h t ih =>
    intro b w s hl hr hb hd hcf hck
    obtain ⟨a, cap, S, rfl, hc, hm, hf, hn, hk⟩ := hl.out
    have hde := t.deep_eq
    have hlen := right_len hr
    have HB0 := boxes_start w t (.slice a t.kids.length cap)
    unfold tv
    unfold maxLen at hm
    obtain ⟨du, hu1, hu2⟩ := under_term
    by_cases hk2 : t.k = 2
    · have e2 : (t.k == 2) = true := by simpa using hk2
      have hv := t.right_var hr hk2
      have heq := Tm.each_var (liftF k c) t b hk2
      have HEQ := Lib.hid heq
      clear heq hk2 ih hn hk hf
      cases hx : (liftF k c) t.i b with
      | none =>
        have HX := Lib.hid hx
        clear hx
        go_enter Try.func66, Try.ntmps66
        go_wp2_with fail
        refine (liftc_none t.i b c k bf bk _ HX.out hv.1 hv.2 hb (by omega) hk hk0 (cell_lat (boxes_under HB0) hcf) (cell_lat (boxes_under HB0) hck)).mono ?_
        rintro e w' ⟨rfl, rfl⟩
        go_wp2
        refine bodyPost_ret (results_cell_tmp rfl _ _ (w.heap.size + 1) _ _ _ du rfl (heap_alloc2_new _ _ _) hu1 (by cases du <;> first | rfl | exact hu2) size_term) rfl ?_
        refine ⟨((Below.refl _ _).alloc (Nat.le_refl _) _).alloc (by simp) _, Or.inr ⟨.mk 2 0 0 0 [], by rw [HEQ.out, HX.out]; rfl, rfl, rfl⟩⟩
      | some r =>
        have HX := Lib.hid hx
        clear hx
        go_enter Try.func66, Try.ntmps66
        go_wp2_with fail
        refine (liftc_some t.i b c k r bf bk _ HX.out hv.1 hv.2 hb (by omega) hk hk0 (cell_lat (boxes_under HB0) hcf) (cell_lat (boxes_under HB0) hck)).mono ?_
        rintro e w' ⟨rfl, rfl⟩
        go_wp2
        refine bodyPost_ret (results_cell_tmp rfl _ _ (w.heap.size + 1) _ _ _ du rfl (heap_alloc2_new _ _ _) hu1 (by cases du <;> first | rfl | exact hu2) size_term) rfl ?_
        refine ⟨((Below.refl _ _).alloc (Nat.le_refl _) _).alloc (by simp) _, Or.inl ⟨.mk 2 r 0 0 [], .slice none 0 0, by rw [HEQ.out, HX.out]; rfl, rfl, liesP_nil _ _⟩⟩
    · have e2 : (t.k == 2) = false := by simpa using hk2
      have heq := Tm.each_node (liftF k c) t b hk2
      have HEQ := Lib.hid heq
      have HRK := Lib.hid (t.right_kids hr)
      have HR := Lib.hid hr
      have HFI := Lib.hid hf
      have IH := Lib.hid ih
      have HN := Lib.hid hn
      have HK := Lib.hid hk
      have HDE := Lib.hid hde
      have hd0 := desk_start w t t (.slice a t.kids.length cap) (.slice none 0 0)
      clear heq hk2 ih hn hk hf hr hl hde
      by_cases h0 : t.kids.length = 0
      · have h1 : t.kids.length < 1 := by omega
        have HNL := Lib.hid (List.eq_nil_of_length_eq_zero h0)
        clear h0 HB0
        go_enter Try.func66, Try.ntmps66
        go_wp2_with fail
        go_loopw [50] (fun i wr => i = .int .i64 0 ∧ Desk w t t (.slice a t.kids.length cap) (.slice none 0 0) wr) (fun _ _ => 0)
        case atStart => exact ⟨rfl, hd0⟩
        case round =>
          clear hd0
          obtain ⟨rfl, hdk⟩ := hrel
          obtain ⟨q0, q1, q2⟩ := desk_blocks hdk
          obtain ⟨d0, d1, d2, d3, d4⟩ := five_cells q0
          obtain ⟨y0, y1, y2, y3, y4⟩ := five_cells q2
          obtain ⟨z0, z1, z2, z3, z4⟩ := five_cells q1
          obtain ⟨f0, f1, f2, f3, f4⟩ := five_free q1
          clear q0 q2
          go_wp2_with fail
          (try simp only [Exit.inBlock, Exit.then])
          refine bodyPost_ret (results_cell_tmp rfl _ _ (w.heap.size + 1) _ _ _ du rfl (five_set q1) hu1 (by cases du <;> first | rfl | exact hu2) size_term) rfl ?_
          exact ⟨((((((desk_under hdk).setCell (by simp) _).setCell (by simp) _).setCell (by simp) _).setCell (by simp) _).setCell (by simp) _), Or.inl ⟨.mk t.k t.i t.j t.n [], .slice none 0 0, by rw [HEQ.out, HNL.out]; rfl, rfl, liesP_nil _ _⟩⟩
      · have h0' : 0 < t.kids.length := by omega
        obtain ⟨i0, hi, hz0, hz1, hz2⟩ := info_parts info_term
        have HI := Lib.hid (And.intro hi (And.intro hz0 (And.intro hz1 hz2)))
        clear hi hz0 hz1 hz2
        go_enter Try.func66, Try.ntmps66
        go_wp2_with (at_make; refine wpList_make_full _ rfl _ _ 24 rfl (w.heap.size + 3) 26 i0 _ 5 (by kernel_rfl) HI.out.1 HI.out.2.1 HI.out.2.2.1 _ _ _ _ t.kids.length rfl rfl rfl rfl ?bytes ?max ?base ?next)
        case bytes => rw [HI.out.2.2.2]; omega
        case max => unfold maxLen; omega
        case base => simp
        case next =>
        intro w1 hown hgrow
        have hful := full_made hown
        have hbel : Below (w.heap.size + 3) _ w1 := (Below.refl _ _).grown hgrow (by simp) (by simp)
        have hd1 : Desk w t t _ _ w1 := hbel
        clear hbel hgrow hown
        obtain ⟨q0, q1, q2⟩ := desk_blocks hd1
        obtain ⟨d0, d1, d2, d3, d4⟩ := five_cells q0
        obtain ⟨y0, y1, y2, y3, y4⟩ := five_cells q2
        obtain ⟨f0, f1, f2, f3, f4⟩ := five_free q2
        have hd2 := desk_set (v' := .slice (some ⟨w.heap.size + 3, 0, none⟩) t.kids.length t.kids.length) hd1
        clear q0 q1 q2
        have hf2 := hful.below (b := w.heap.size + 2) (o := 4) (by omega) (.slice (some ⟨w.heap.size + 3, 0, none⟩) t.kids.length t.kids.length)
        clear hd1 hful HB0 hd0
        go_wp2_with fail
        go_loopw [50] (fun i wr => ∃ (q : Nat) (xs : List (Tm × Value)), q ≤ t.kids.length ∧ i = .int .i64 q ∧ Hid (xs.length = t.kids.length) ∧ Hid (optK (fun q x => x.each (liftF k c) (b + bindsN t.k q)) 0 (t.kids.take q) = some ((xs.map (·.1)).take q)) ∧ Full (w.heap.size + 3) wr (w.heap.size + 3) xs ∧ Desk w t t (.slice a t.kids.length cap) (.slice (some ⟨w.heap.size + 3, 0, none⟩) t.kids.length t.kids.length) wr) (fun i _ => t.kids.length - (intOf i).toNat)
        case atStart => exact ⟨0, _, Nat.zero_le _, rfl, List.length_replicate, rfl, hf2, hd2⟩
        case round =>
          clear hf2 hd2 d0 d1 d2 d3 d4 y0 y1 y2 y3 y4 f0 f1 f2 f3 f4
          obtain ⟨q, xs, hq0, rfl, hxl, hxs, hfu, hdk⟩ := hrel
          have HXL := Lib.hid hxl.out
          have HXS := Lib.hid hxs.out
          clear hxl hxs
          obtain ⟨q0, q1, q2⟩ := desk_blocks hdk
          obtain ⟨d0, d1, d2, d3, d4⟩ := five_cells q0
          obtain ⟨y0, y1, y2, y3, y4⟩ := five_cells q2
          obtain ⟨z0, z1, z2, z3, z4⟩ := five_cells q1
          obtain ⟨f0, f1, f2, f3, f4⟩ := five_free q1
          have hsz := desk_size hdk
          clear q0 q2
          by_cases hlt : q < t.kids.length
          · obtain ⟨b', o, rfl, hx⟩ := HN.out q hlt
            have hy := hx.below (desk_under hdk) hx.lt
            obtain ⟨c0, c1, c2, c3, c4⟩ := hy
            have hq := HK.out q hlt
            obtain ⟨a', cap', S', hS, -⟩ := hq.out
            rw [hS] at c4 hq
            have HM := Lib.hid (List.getElem_mem hlt)
            have hbd := binds_range t.k q
            have hdq := deeps_get t.kids q hlt
            rw [HDE.out] at hd
            have hsum : IntKind.i64.wrap (b + bindsN t.k q) = b + bindsN t.k q := IntWalk.i64_in _ (by omega)
            have hH0 := held_start wr t.kids[q] (.slice a' t.kids[q].kids.length cap')
            have CALL : ∀ w', Held wr t.kids[q] (.slice a' t.kids[q].kids.length cap') w' → Calls Try.prog 66 #[tv t.kids[q] (.slice a' t.kids[q].kids.length cap'), .int .i64 (b + bindsN t.k q), .func (.func 67) #[] #[.pointer (some ⟨bf, 0, none⟩), .pointer (some ⟨bk, 0, none⟩)]] w' (Gives (t.kids[q].each (liftF k c) (b + bindsN t.k q)) w') := fun w' h' =>
              IH.out _ HM.out _ w' _ (hq.keep ((desk_under hdk).trans ((held_below h').mono (by omega)))) (HRK.out _ HM.out) (by omega) (by omega) (cell_lat ((desk_under hdk).trans ((held_below h').mono (by omega))) hcf) (cell_lat ((desk_under hdk).trans ((held_below h').mono (by omega))) hck)
            clear hS hq hx hd hdq hbd
            cases hx2 : t.kids[q].each (liftF k c) (b + bindsN t.k q) with
            | none =>
              rw [hx2] at CALL
              have HX2 := Lib.hid hx2
              have CALL2 : ∀ w', Held wr t.kids[q] (.slice a' t.kids[q].kids.length cap') w' → Calls Try.prog 66 #[tv t.kids[q] (.slice a' t.kids[q].kids.length cap'), .int .i64 (b + bindsN t.k q), .func (.func 67) #[] #[.pointer (some ⟨bf, 0, none⟩), .pointer (some ⟨bk, 0, none⟩)]] w' (GivesNone w') := fun w' h' => (CALL w' h').mono fun e w'' h => h.none
              have CALLB := Lib.hid (CALL2 (wr.alloc (.cells #[.int .i64 t.kids[q].k, .int .i64 t.kids[q].i, .int .i64 t.kids[q].j, .int .i64 t.kids[q].n, .slice a' t.kids[q].kids.length cap'] 26)).drew (held_drew hH0))
              have CALLA := Lib.hid ((CALL2 ((wr.alloc (.cells #[.int .i64 t.kids[q].k, .int .i64 t.kids[q].i, .int .i64 t.kids[q].j, .int .i64 t.kids[q].n, .slice a' t.kids[q].kids.length cap'] 26)).alloc zeroObj).drew (held_drew (held_alloc hH0 _))).mono fun e w'' h => And.intro h (zero_blocks_new h.2))
              clear hx2 CALL CALL2
              go_wp2_with fail
              go_region_held3 (fun w' => Held wr t.kids[q] (.slice a' t.kids[q].kids.length cap') w' ∧ w'.cell? ⟨w.heap.size, 0, none⟩ = some (.int .i64 t.k) ∧ w'.cell? ⟨wr.heap.size, 0, none⟩ = some (.int .i64 t.kids[q].k) ∧ w'.cell? ⟨wr.heap.size, 1, none⟩ = some (.int .i64 t.kids[q].i) ∧ w'.cell? ⟨wr.heap.size, 2, none⟩ = some (.int .i64 t.kids[q].j) ∧ w'.cell? ⟨wr.heap.size, 3, none⟩ = some (.int .i64 t.kids[q].n) ∧ w'.cell? ⟨wr.heap.size, 4, none⟩ = some (.slice a' t.kids[q].kids.length cap'))
                (((with_reducible refine held_and ?_ d0); repeat (first | with_reducible assumption | with_reducible exact hH0 | with_reducible refine held_drew ?_ | with_reducible refine held_alloc ?_ _ | ((with_reducible refine held_set ?_ ?hh _); (case hh => simp)))))
                (first | (go_at_call 81; refine (binds_any _ _ _).mono ?_; rintro e w' ⟨rfl, rfl⟩) | (go_at_call 66; ((with_reducible refine Calls.mono CALLB.out ?_); rintro e wn ⟨⟨z, rfl⟩, hbn⟩; have hh := held_call (held_drew hH0) hbn)) | (go_at_call 66; ((with_reducible refine Calls.mono CALLA.out ?_); rintro e wn ⟨⟨⟨z, rfl⟩, hbn⟩, hZ⟩; obtain ⟨⟨g0, g1, g2, g3, g4⟩, k0, k1, k2, k3, k4⟩ := And.intro (five_cells hZ) (five_free hZ); have hh := held_call (held_drew (held_alloc hH0 _)) hbn)))
              · have hW : Held wr t.kids[q] (.slice a' t.kids[q].kids.length cap') (wn.alloc (.cells #[.int .i64 z.k, .int .i64 z.i, .int .i64 z.j, .int .i64 z.n, .slice none 0 0] 26)) := held_alloc hh _
                clear hh hbn
                generalize wn.alloc (.cells #[.int .i64 z.k, .int .i64 z.i, .int .i64 z.j, .int .i64 z.n, .slice none 0 0] 26) = W at hW ⊢
                have hdW := desk_trans hdk (below_from (held_below hW) hsz)
                obtain ⟨-, q1, -⟩ := desk_blocks hdW
                obtain ⟨z0, z1, z2, z3, z4⟩ := five_cells q1
                obtain ⟨f0, f1, f2, f3, f4⟩ := five_free q1
                go_wp2
                (try simp only [Exit.inBlock, Exit.then])
                refine bodyPost_ret (results_cell_tmp rfl _ _ (w.heap.size + 1) _ _ _ du rfl (five_set q1) hu1 (by cases du <;> first | rfl | exact hu2) size_term) rfl ?_
                exact ⟨((((((desk_under hdW).setCell (by simp) _).setCell (by simp) _).setCell (by simp) _).setCell (by simp) _).setCell (by simp) _), Or.inr ⟨Tm.zero, by rw [HEQ.out, optK_stop hlt HX2.out]; rfl, rfl, rfl⟩⟩
              · have hW : Held wr t.kids[q] (.slice a' t.kids[q].kids.length cap') (((((wn.setCell ⟨wr.heap.size + 1, 0, none⟩ (.int .i64 z.k)).setCell ⟨wr.heap.size + 1, 1, none⟩ (.int .i64 z.i)).setCell ⟨wr.heap.size + 1, 2, none⟩ (.int .i64 z.j)).setCell ⟨wr.heap.size + 1, 3, none⟩ (.int .i64 z.n)).setCell ⟨wr.heap.size + 1, 4, none⟩ (.slice none 0 0)) := held_five hh _ _ _ _ _
                clear hh hbn hZ g0 g1 g2 g3 g4 k0 k1 k2 k3 k4
                generalize ((((wn.setCell ⟨wr.heap.size + 1, 0, none⟩ (.int .i64 z.k)).setCell ⟨wr.heap.size + 1, 1, none⟩ (.int .i64 z.i)).setCell ⟨wr.heap.size + 1, 2, none⟩ (.int .i64 z.j)).setCell ⟨wr.heap.size + 1, 3, none⟩ (.int .i64 z.n)).setCell ⟨wr.heap.size + 1, 4, none⟩ (.slice none 0 0) = W at hW ⊢
                have hdW := desk_trans hdk (below_from (held_below hW) hsz)
                obtain ⟨-, q1, -⟩ := desk_blocks hdW
                obtain ⟨z0, z1, z2, z3, z4⟩ := five_cells q1
                obtain ⟨f0, f1, f2, f3, f4⟩ := five_free q1
                go_wp2
                (try simp only [Exit.inBlock, Exit.then])
                refine bodyPost_ret (results_cell_tmp rfl _ _ (w.heap.size + 1) _ _ _ du rfl (five_set q1) hu1 (by cases du <;> first | rfl | exact hu2) size_term) rfl ?_
                exact ⟨((((((desk_under hdW).setCell (by simp) _).setCell (by simp) _).setCell (by simp) _).setCell (by simp) _).setCell (by simp) _), Or.inr ⟨Tm.zero, by rw [HEQ.out, optK_stop hlt HX2.out]; rfl, rfl, rfl⟩⟩
              · have hW : Held wr t.kids[q] (.slice a' t.kids[q].kids.length cap') (((((wn.setCell ⟨wr.heap.size + 1, 0, none⟩ (.int .i64 z.k)).setCell ⟨wr.heap.size + 1, 1, none⟩ (.int .i64 z.i)).setCell ⟨wr.heap.size + 1, 2, none⟩ (.int .i64 z.j)).setCell ⟨wr.heap.size + 1, 3, none⟩ (.int .i64 z.n)).setCell ⟨wr.heap.size + 1, 4, none⟩ (.slice none 0 0)) := held_five hh _ _ _ _ _
                clear hh hbn hZ g0 g1 g2 g3 g4 k0 k1 k2 k3 k4
                generalize ((((wn.setCell ⟨wr.heap.size + 1, 0, none⟩ (.int .i64 z.k)).setCell ⟨wr.heap.size + 1, 1, none⟩ (.int .i64 z.i)).setCell ⟨wr.heap.size + 1, 2, none⟩ (.int .i64 z.j)).setCell ⟨wr.heap.size + 1, 3, none⟩ (.int .i64 z.n)).setCell ⟨wr.heap.size + 1, 4, none⟩ (.slice none 0 0) = W at hW ⊢
                have hdW := desk_trans hdk (below_from (held_below hW) hsz)
                obtain ⟨-, q1, -⟩ := desk_blocks hdW
                obtain ⟨z0, z1, z2, z3, z4⟩ := five_cells q1
                obtain ⟨f0, f1, f2, f3, f4⟩ := five_free q1
                go_wp2
                (try simp only [Exit.inBlock, Exit.then])
                refine bodyPost_ret (results_cell_tmp rfl _ _ (w.heap.size + 1) _ _ _ du rfl (five_set q1) hu1 (by cases du <;> first | rfl | exact hu2) size_term) rfl ?_
                exact ⟨((((((desk_under hdW).setCell (by simp) _).setCell (by simp) _).setCell (by simp) _).setCell (by simp) _).setCell (by simp) _), Or.inr ⟨Tm.zero, by rw [HEQ.out, optK_stop hlt HX2.out]; rfl, rfl, rfl⟩⟩
            | some u =>
              rw [hx2] at CALL
              have hfine : u.fine := right_fine (right_each _ (liftF_range k c hk0) _ _ _ (HRK.out _ HM.out) hx2)
              have HFI2 := Lib.hid hfine
              have hfine' := trivial
              clear hfine
              have HX2 := Lib.hid hx2
              have CALL2 : ∀ w', Held wr t.kids[q] (.slice a' t.kids[q].kids.length cap') w' → Calls Try.prog 66 #[tv t.kids[q] (.slice a' t.kids[q].kids.length cap'), .int .i64 (b + bindsN t.k q), .func (.func 67) #[] #[.pointer (some ⟨bf, 0, none⟩), .pointer (some ⟨bk, 0, none⟩)]] w' (GivesSome u w') := fun w' h' => (CALL w' h').mono fun e w'' h => h.some
              have CALLB := Lib.hid (CALL2 (wr.alloc (.cells #[.int .i64 t.kids[q].k, .int .i64 t.kids[q].i, .int .i64 t.kids[q].j, .int .i64 t.kids[q].n, .slice a' t.kids[q].kids.length cap'] 26)).drew (held_drew hH0))
              have CALLA := Lib.hid ((CALL2 ((wr.alloc (.cells #[.int .i64 t.kids[q].k, .int .i64 t.kids[q].i, .int .i64 t.kids[q].j, .int .i64 t.kids[q].n, .slice a' t.kids[q].kids.length cap'] 26)).alloc zeroObj).drew (held_drew (held_alloc hH0 _))).mono fun e w'' h => And.intro h (zero_blocks_new h.2))
              clear hx2 CALL CALL2
              go_wp2_with fail
              go_region_held3 (fun w' => Held wr t.kids[q] (.slice a' t.kids[q].kids.length cap') w' ∧ w'.cell? ⟨w.heap.size, 0, none⟩ = some (.int .i64 t.k) ∧ w'.cell? ⟨wr.heap.size, 0, none⟩ = some (.int .i64 t.kids[q].k) ∧ w'.cell? ⟨wr.heap.size, 1, none⟩ = some (.int .i64 t.kids[q].i) ∧ w'.cell? ⟨wr.heap.size, 2, none⟩ = some (.int .i64 t.kids[q].j) ∧ w'.cell? ⟨wr.heap.size, 3, none⟩ = some (.int .i64 t.kids[q].n) ∧ w'.cell? ⟨wr.heap.size, 4, none⟩ = some (.slice a' t.kids[q].kids.length cap'))
                (((with_reducible refine held_and ?_ d0); repeat (first | with_reducible assumption | with_reducible exact hH0 | with_reducible refine held_drew ?_ | with_reducible refine held_alloc ?_ _ | ((with_reducible refine held_set ?_ ?hh _); (case hh => simp)))))
                (first | (go_at_call 81; refine (binds_any _ _ _).mono ?_; rintro e w' ⟨rfl, rfl⟩) | (go_at_call 66; ((with_reducible refine Calls.mono CALLB.out ?_); rintro e wn ⟨⟨s2, rfl, hl2⟩, hbn⟩; obtain ⟨a2, cap2, rfl, -, -⟩ := hl2.out; have HL2 := Lib.hid hl2; clear hl2; have hh := held_call (held_drew hH0) hbn)) | (go_at_call 66; ((with_reducible refine Calls.mono CALLA.out ?_); rintro e wn ⟨⟨⟨s2, rfl, hl2⟩, hbn⟩, hZ⟩; obtain ⟨⟨g0, g1, g2, g3, g4⟩, k0, k1, k2, k3, k4⟩ := And.intro (five_cells hZ) (five_free hZ); obtain ⟨a2, cap2, rfl, -, -⟩ := hl2.out; have HL2 := Lib.hid hl2; clear hl2; have hh := held_call (held_drew (held_alloc hH0 _)) hbn)))
              · have hW : Held wr t.kids[q] (.slice a' t.kids[q].kids.length cap') (wn.alloc (.cells #[.int .i64 u.k, .int .i64 u.i, .int .i64 u.j, .int .i64 u.n, .slice a2 u.kids.length cap2] 26)) := held_alloc hh _
                have hLW : LiesP (wn.alloc (.cells #[.int .i64 u.k, .int .i64 u.i, .int .i64 u.j, .int .i64 u.n, .slice a2 u.kids.length cap2] 26)) (Own wr.heap.size (wn.alloc (.cells #[.int .i64 u.k, .int .i64 u.i, .int .i64 u.j, .int .i64 u.n, .slice a2 u.kids.length cap2] 26))) u.kids (.slice a2 u.kids.length cap2) := ((HL2.out.from (by simp)).later ((Below.refl _ _).alloc (Nat.le_refl _) _))
                have hN : (wn.alloc (.cells #[.int .i64 u.k, .int .i64 u.i, .int .i64 u.j, .int .i64 u.n, .slice a2 u.kids.length cap2] 26)).heap[wn.heap.size]? = some (boxOf u (.slice a2 u.kids.length cap2)) := alloc_new _ _
                clear hh hbn HL2
                generalize wn.alloc (.cells #[.int .i64 u.k, .int .i64 u.i, .int .i64 u.j, .int .i64 u.n, .slice a2 u.kids.length cap2] 26) = W at hW hLW hN ⊢
                have hdW := desk_trans hdk (below_from (held_below hW) hsz)
                have hfW := hfu.later (held_below hW)
                have hxq : q < xs.length := by rw [HXL.out]; exact hlt
                have hLF := hfu.fresh hsz hLW
                obtain ⟨-, -, q2⟩ := desk_blocks hdW
                obtain ⟨y0, y1, y2, y3, y4⟩ := five_cells q2
                obtain ⟨p0, p1, p2, p3, p4⟩ := five_cells hN
                obtain ⟨x0, x1, x2, x3, x4⟩ := hfW.node q hxq
                obtain ⟨cs, hcs⟩ := hfW.open'
                have f0 := open_unfrozen hcs (q * 5)
                have f1 := open_unfrozen hcs (q * 5 + 1)
                have f2 := open_unfrozen hcs (q * 5 + 2)
                have f3 := open_unfrozen hcs (q * 5 + 3)
                have f4 := open_unfrozen hcs (q * 5 + 4)
                have HFW := Lib.hid hfW
                have HLF := Lib.hid hLF
                have HFU := Lib.hid hfu
                clear hcs hN hLW hW hfW hLF hfu hfine' d0 d1 d2 d3 d4 z0 z1 z2 z3 z4
                go_wp2
                go_roundw
                case rel => exact ⟨q + 1, xs.set q (u, .slice a2 u.kids.length cap2), hlt, by go_num, by simp [Hid, HXL.out], by rw [Hid, optK_next hlt HXS.out HX2.out, List.map_set, take_set_next _ _ _ (by simpa using hxq)], HFW.out.fill hxq HFI2.out HLF.out, desk_put hdW (Nat.le_refl _) _ _ _⟩
                case measure => simp [intOf]; omega
              · have hW : Held wr t.kids[q] (.slice a' t.kids[q].kids.length cap') (((((wn.setCell ⟨wr.heap.size + 1, 0, none⟩ (.int .i64 u.k)).setCell ⟨wr.heap.size + 1, 1, none⟩ (.int .i64 u.i)).setCell ⟨wr.heap.size + 1, 2, none⟩ (.int .i64 u.j)).setCell ⟨wr.heap.size + 1, 3, none⟩ (.int .i64 u.n)).setCell ⟨wr.heap.size + 1, 4, none⟩ (.slice a2 u.kids.length cap2)) := held_five hh _ _ _ _ _
                have hLW : LiesP (((((wn.setCell ⟨wr.heap.size + 1, 0, none⟩ (.int .i64 u.k)).setCell ⟨wr.heap.size + 1, 1, none⟩ (.int .i64 u.i)).setCell ⟨wr.heap.size + 1, 2, none⟩ (.int .i64 u.j)).setCell ⟨wr.heap.size + 1, 3, none⟩ (.int .i64 u.n)).setCell ⟨wr.heap.size + 1, 4, none⟩ (.slice a2 u.kids.length cap2)) (Own wr.heap.size (((((wn.setCell ⟨wr.heap.size + 1, 0, none⟩ (.int .i64 u.k)).setCell ⟨wr.heap.size + 1, 1, none⟩ (.int .i64 u.i)).setCell ⟨wr.heap.size + 1, 2, none⟩ (.int .i64 u.j)).setCell ⟨wr.heap.size + 1, 3, none⟩ (.int .i64 u.n)).setCell ⟨wr.heap.size + 1, 4, none⟩ (.slice a2 u.kids.length cap2))) u.kids (.slice a2 u.kids.length cap2) := liesP_five (HL2.out.from (B' := wr.heap.size + 2) (by simp)) _ _ _ _ _
                have hN : (((((wn.setCell ⟨wr.heap.size + 1, 0, none⟩ (.int .i64 u.k)).setCell ⟨wr.heap.size + 1, 1, none⟩ (.int .i64 u.i)).setCell ⟨wr.heap.size + 1, 2, none⟩ (.int .i64 u.j)).setCell ⟨wr.heap.size + 1, 3, none⟩ (.int .i64 u.n)).setCell ⟨wr.heap.size + 1, 4, none⟩ (.slice a2 u.kids.length cap2)).heap[wr.heap.size + 1]? = some (boxOf u (.slice a2 u.kids.length cap2)) := five_set hZ
                clear hh hbn HL2 hZ g0 g1 g2 g3 g4 k0 k1 k2 k3 k4
                generalize ((((wn.setCell ⟨wr.heap.size + 1, 0, none⟩ (.int .i64 u.k)).setCell ⟨wr.heap.size + 1, 1, none⟩ (.int .i64 u.i)).setCell ⟨wr.heap.size + 1, 2, none⟩ (.int .i64 u.j)).setCell ⟨wr.heap.size + 1, 3, none⟩ (.int .i64 u.n)).setCell ⟨wr.heap.size + 1, 4, none⟩ (.slice a2 u.kids.length cap2) = W at hW hLW hN ⊢
                have hdW := desk_trans hdk (below_from (held_below hW) hsz)
                have hfW := hfu.later (held_below hW)
                have hxq : q < xs.length := by rw [HXL.out]; exact hlt
                have hLF := hfu.fresh hsz hLW
                obtain ⟨-, -, q2⟩ := desk_blocks hdW
                obtain ⟨y0, y1, y2, y3, y4⟩ := five_cells q2
                obtain ⟨p0, p1, p2, p3, p4⟩ := five_cells hN
                obtain ⟨x0, x1, x2, x3, x4⟩ := hfW.node q hxq
                obtain ⟨cs, hcs⟩ := hfW.open'
                have f0 := open_unfrozen hcs (q * 5)
                have f1 := open_unfrozen hcs (q * 5 + 1)
                have f2 := open_unfrozen hcs (q * 5 + 2)
                have f3 := open_unfrozen hcs (q * 5 + 3)
                have f4 := open_unfrozen hcs (q * 5 + 4)
                have HFW := Lib.hid hfW
                have HLF := Lib.hid hLF
                have HFU := Lib.hid hfu
                clear hcs hN hLW hW hfW hLF hfu hfine' d0 d1 d2 d3 d4 z0 z1 z2 z3 z4
                go_wp2
                go_roundw
                case rel => exact ⟨q + 1, xs.set q (u, .slice a2 u.kids.length cap2), hlt, by go_num, by simp [Hid, HXL.out], by rw [Hid, optK_next hlt HXS.out HX2.out, List.map_set, take_set_next _ _ _ (by simpa using hxq)], HFW.out.fill hxq HFI2.out HLF.out, desk_put hdW (Nat.le_refl _) _ _ _⟩
                case measure => simp [intOf]; omega
              · have hW : Held wr t.kids[q] (.slice a' t.kids[q].kids.length cap') (((((wn.setCell ⟨wr.heap.size + 1, 0, none⟩ (.int .i64 u.k)).setCell ⟨wr.heap.size + 1, 1, none⟩ (.int .i64 u.i)).setCell ⟨wr.heap.size + 1, 2, none⟩ (.int .i64 u.j)).setCell ⟨wr.heap.size + 1, 3, none⟩ (.int .i64 u.n)).setCell ⟨wr.heap.size + 1, 4, none⟩ (.slice a2 u.kids.length cap2)) := held_five hh _ _ _ _ _
                have hLW : LiesP (((((wn.setCell ⟨wr.heap.size + 1, 0, none⟩ (.int .i64 u.k)).setCell ⟨wr.heap.size + 1, 1, none⟩ (.int .i64 u.i)).setCell ⟨wr.heap.size + 1, 2, none⟩ (.int .i64 u.j)).setCell ⟨wr.heap.size + 1, 3, none⟩ (.int .i64 u.n)).setCell ⟨wr.heap.size + 1, 4, none⟩ (.slice a2 u.kids.length cap2)) (Own wr.heap.size (((((wn.setCell ⟨wr.heap.size + 1, 0, none⟩ (.int .i64 u.k)).setCell ⟨wr.heap.size + 1, 1, none⟩ (.int .i64 u.i)).setCell ⟨wr.heap.size + 1, 2, none⟩ (.int .i64 u.j)).setCell ⟨wr.heap.size + 1, 3, none⟩ (.int .i64 u.n)).setCell ⟨wr.heap.size + 1, 4, none⟩ (.slice a2 u.kids.length cap2))) u.kids (.slice a2 u.kids.length cap2) := liesP_five (HL2.out.from (B' := wr.heap.size + 2) (by simp)) _ _ _ _ _
                have hN : (((((wn.setCell ⟨wr.heap.size + 1, 0, none⟩ (.int .i64 u.k)).setCell ⟨wr.heap.size + 1, 1, none⟩ (.int .i64 u.i)).setCell ⟨wr.heap.size + 1, 2, none⟩ (.int .i64 u.j)).setCell ⟨wr.heap.size + 1, 3, none⟩ (.int .i64 u.n)).setCell ⟨wr.heap.size + 1, 4, none⟩ (.slice a2 u.kids.length cap2)).heap[wr.heap.size + 1]? = some (boxOf u (.slice a2 u.kids.length cap2)) := five_set hZ
                clear hh hbn HL2 hZ g0 g1 g2 g3 g4 k0 k1 k2 k3 k4
                generalize ((((wn.setCell ⟨wr.heap.size + 1, 0, none⟩ (.int .i64 u.k)).setCell ⟨wr.heap.size + 1, 1, none⟩ (.int .i64 u.i)).setCell ⟨wr.heap.size + 1, 2, none⟩ (.int .i64 u.j)).setCell ⟨wr.heap.size + 1, 3, none⟩ (.int .i64 u.n)).setCell ⟨wr.heap.size + 1, 4, none⟩ (.slice a2 u.kids.length cap2) = W at hW hLW hN ⊢
                have hdW := desk_trans hdk (below_from (held_below hW) hsz)
                have hfW := hfu.later (held_below hW)
                have hxq : q < xs.length := by rw [HXL.out]; exact hlt
                have hLF := hfu.fresh hsz hLW
                obtain ⟨-, -, q2⟩ := desk_blocks hdW
                obtain ⟨y0, y1, y2, y3, y4⟩ := five_cells q2
                obtain ⟨p0, p1, p2, p3, p4⟩ := five_cells hN
                obtain ⟨x0, x1, x2, x3, x4⟩ := hfW.node q hxq
                obtain ⟨cs, hcs⟩ := hfW.open'
                have f0 := open_unfrozen hcs (q * 5)
                have f1 := open_unfrozen hcs (q * 5 + 1)
                have f2 := open_unfrozen hcs (q * 5 + 2)
                have f3 := open_unfrozen hcs (q * 5 + 3)
                have f4 := open_unfrozen hcs (q * 5 + 4)
                have HFW := Lib.hid hfW
                have HLF := Lib.hid hLF
                have HFU := Lib.hid hfu
                clear hcs hN hLW hW hfW hLF hfu hfine' d0 d1 d2 d3 d4 z0 z1 z2 z3 z4
                go_wp2
                go_roundw
                case rel => exact ⟨q + 1, xs.set q (u, .slice a2 u.kids.length cap2), hlt, by go_num, by simp [Hid, HXL.out], by rw [Hid, optK_next hlt HXS.out HX2.out, List.map_set, take_set_next _ _ _ (by simpa using hxq)], HFW.out.fill hxq HFI2.out HLF.out, desk_put hdW (Nat.le_refl _) _ _ _⟩
                case measure => simp [intOf]; omega
          · have : q = t.kids.length := by omega
            subst this
            go_wp2_with fail
            (try simp only [Exit.inBlock, Exit.then])
            refine bodyPost_ret (results_cell_tmp rfl _ _ (w.heap.size + 1) _ _ _ du rfl (five_set q1) hu1 (by cases du <;> first | rfl | exact hu2) size_term) rfl ?_
            have hxe : (xs.map (·.1)).take t.kids.length = xs.map (·.1) := by rw [← HXL.out, ← List.length_map (f := (·.1)), List.take_length]
            have hres : t.each (liftF k c) b = some (.mk t.k t.i t.j t.n (xs.map (·.1))) := by
              have := HXS.out
              rw [List.take_length, hxe] at this
              rw [HEQ.out, this]; rfl
            refine ⟨((((((desk_under hdk).setCell (by simp) _).setCell (by simp) _).setCell (by simp) _).setCell (by simp) _).setCell (by simp) _), Or.inl ⟨_, _, hres, rfl, ?_⟩⟩
            refine five_lies (hfu.lies (cap := t.kids.length) (by rw [HXL.out]; exact Nat.le_refl _) (by unfold maxLen; omega)) HXL.out _ _ _ _ _
end Go.Proofs.Ytjhdcjjoignioaa
