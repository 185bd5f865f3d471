/-
  Facts and contracts that the proof of ShapeWays uses.
-/
import Derived.Test.YtgododpkbiaacaaGreatRows
import Derived.WalkKit
import Derived.Lib.Hide
import Derived.KernelRfl
import Derived.Deep.RegionWith
import Derived.Deep.RegionHeld3
import Derived.Deep.AppendLies
import Derived.Laws.Rows
import Derived.Laws.IdiomCopy
import Derived.Deep.Slices
import Derived.Lib.QuietBelow
import Derived.StillTailTactics
import Derived.BigQuiet
import Derived.IntWalk
import Derived.OwnWalk
import Derived.Deep.RegionLaw
import Derived.Deep.QuietTactic
import Derived.Deep.LoopGhost
import Derived.Deep.DeepCutAuto
import Derived.OrdersHeld
import Derived.Deep.MidRow
import Derived.Laws.Tables
import Derived.Laws.CopyOwn
import Derived.Laws.CopyRow
import Derived.Deep.RegionHeld
import Derived.Lib.MinMax
import Derived.ProofKit
import Derived.OpenShut
import Derived.Carry
import Derived.ChangeSlices
import Derived.JoinedOf
import Derived.Test.YtgododpkbiaacaaGreatShapeWaysQ2
namespace Go.Proofs.YtgododpkbiaacaaGreat
open Go.RowKit

set_option maxRecDepth 20000 in
set_option maxHeartbeats 1000000 in
theorem eachl_any (k c : Int) (bf bk : Nat) (hk : I64 k) (hk0 : 0 ≤ k) (t : Tm) : ∀ (b : Int) (w : World) (s : Value), Lies w t.kids s → t.rightB = true → 0 ≤ b → b + 2 * t.deep ≤ 1000000 → w.cell? ⟨bf, 0, none⟩ = some (.int .i64 c) → w.cell? ⟨bk, 0, none⟩ = some (.int .i64 k) →
    Calls Tryz.prog 46 #[tv t s, .int .i64 b, .func (.func 47) #[] #[.pointer (some ⟨bf, 0, none⟩), .pointer (some ⟨bk, 0, none⟩)]] w (Gives (t.each (liftF k c) b) w) := by
  induction t using Tm.ind with
  | h t ih =>
    intro b w s hl hr hb hd hcf hck
    obtain ⟨a, cap, S, rfl, hc, hm, hf, hn, hk⟩ := hl.out
    have hde := t.deep_eq
    have hlen := right_len hr
    have HB0 := boxes_start w t (.slice a t.kids.length cap)
    unfold tv
    unfold maxLen at hm
    obtain ⟨du, hu1, hu2⟩ := under_term
    by_cases hk2 : t.k = 2
    · have e2 : (t.k == 2) = true := by simpa using hk2
      have hv := t.right_var hr hk2
      have heq := Tm.each_var (liftF k c) t b hk2
      have HEQ := Lib.hid heq
      clear heq hk2 ih hn hk hf
      cases hx : (liftF k c) t.i b with
      | none =>
        have HX := Lib.hid hx
        clear hx
        go_enter Tryz.func46, Tryz.ntmps46
        go_wp2_with fail
        refine (liftc_none t.i b c k bf bk _ HX.out hv.1 hv.2 hb (by omega) hk hk0 (cell_lat (boxes_under HB0) hcf) (cell_lat (boxes_under HB0) hck)).mono ?_
        rintro e w' ⟨rfl, rfl⟩
        go_wp2
        refine bodyPost_ret (results_cell_tmp rfl _ _ (w.heap.size + 1) _ _ _ du rfl (heap_alloc2_new _ _ _) hu1 (by cases du <;> first | rfl | exact hu2) size_term) rfl ?_
        refine ⟨((Below.refl _ _).alloc (Nat.le_refl _) _).alloc (by simp) _, Or.inr ⟨.mk 2 0 0 0 [], by rw [HEQ.out, HX.out]; rfl, rfl, rfl⟩⟩
      | some r =>
        have HX := Lib.hid hx
        clear hx
        go_enter Tryz.func46, Tryz.ntmps46
        go_wp2_with fail
        refine (liftc_some t.i b c k r bf bk _ HX.out hv.1 hv.2 hb (by omega) hk hk0 (cell_lat (boxes_under HB0) hcf) (cell_lat (boxes_under HB0) hck)).mono ?_
        rintro e w' ⟨rfl, rfl⟩
        go_wp2
        refine bodyPost_ret (results_cell_tmp rfl _ _ (w.heap.size + 1) _ _ _ du rfl (heap_alloc2_new _ _ _) hu1 (by cases du <;> first | rfl | exact hu2) size_term) rfl ?_
        refine ⟨((Below.refl _ _).alloc (Nat.le_refl _) _).alloc (by simp) _, Or.inl ⟨.mk 2 r 0 0 [], .slice none 0 0, by rw [HEQ.out, HX.out]; rfl, rfl, liesP_nil _ _⟩⟩
    · have e2 : (t.k == 2) = false := by simpa using hk2
      have heq := Tm.each_node (liftF k c) t b hk2
      have HEQ := Lib.hid heq
      have HRK := Lib.hid (t.right_kids hr)
      have HR := Lib.hid hr
      have HFI := Lib.hid hf
      have IH := Lib.hid ih
      have HN := Lib.hid hn
      have HK := Lib.hid hk
      have HDE := Lib.hid hde
      have hd0 := desk_start w t t (.slice a t.kids.length cap) (.slice none 0 0)
      clear heq hk2 ih hn hk hf hr hl hde
      by_cases h0 : t.kids.length = 0
      · have h1 : t.kids.length < 1 := by omega
        have HNL := Lib.hid (List.eq_nil_of_length_eq_zero h0)
        clear h0 HB0
        go_enter Tryz.func46, Tryz.ntmps46
        go_wp2_with fail
        go_loopw [50] (fun i wr => i = .int .i64 0 ∧ Desk w t t (.slice a t.kids.length cap) (.slice none 0 0) wr) (fun _ _ => 0)
        case atStart => exact ⟨rfl, hd0⟩
        case round =>
          clear hd0
          obtain ⟨rfl, hdk⟩ := hrel
          obtain ⟨q0, q1, q2⟩ := desk_blocks hdk
          obtain ⟨d0, d1, d2, d3, d4⟩ := five_cells q0
          obtain ⟨y0, y1, y2, y3, y4⟩ := five_cells q2
          obtain ⟨z0, z1, z2, z3, z4⟩ := five_cells q1
          obtain ⟨f0, f1, f2, f3, f4⟩ := five_free q1
          clear q0 q2
          go_wp2_with fail
          (try simp only [Exit.inBlock, Exit.then])
          refine bodyPost_ret (results_cell_tmp rfl _ _ (w.heap.size + 1) _ _ _ du rfl (five_set q1) hu1 (by cases du <;> first | rfl | exact hu2) size_term) rfl ?_
          exact ⟨((((((desk_under hdk).setCell (by simp) _).setCell (by simp) _).setCell (by simp) _).setCell (by simp) _).setCell (by simp) _), Or.inl ⟨.mk t.k t.i t.j t.n [], .slice none 0 0, by rw [HEQ.out, HNL.out]; rfl, rfl, liesP_nil _ _⟩⟩
      · have h0' : 0 < t.kids.length := by omega
        obtain ⟨i0, hi, hz0, hz1, hz2⟩ := info_parts info_term
        have HI := Lib.hid (And.intro hi (And.intro hz0 (And.intro hz1 hz2)))
        clear hi hz0 hz1 hz2
        go_enter Tryz.func46, Tryz.ntmps46
        go_wp2_with (at_make; refine wpList_make_full _ rfl _ _ 23 rfl (w.heap.size + 3) 25 i0 _ 5 (by kernel_rfl) HI.out.1 HI.out.2.1 HI.out.2.2.1 _ _ _ _ t.kids.length rfl rfl rfl rfl ?bytes ?max ?base ?next)
        case bytes => rw [HI.out.2.2.2]; omega
        case max => unfold maxLen; omega
        case base => simp
        case next =>
        intro w1 hown hgrow
        have hful := full_made hown
        have hbel : Below (w.heap.size + 3) _ w1 := (Below.refl _ _).grown hgrow (by simp) (by simp)
        have hd1 : Desk w t t _ _ w1 := hbel
        clear hbel hgrow hown
        obtain ⟨q0, q1, q2⟩ := desk_blocks hd1
        obtain ⟨d0, d1, d2, d3, d4⟩ := five_cells q0
        obtain ⟨y0, y1, y2, y3, y4⟩ := five_cells q2
        obtain ⟨f0, f1, f2, f3, f4⟩ := five_free q2
        have hd2 := desk_set (v' := .slice (some ⟨w.heap.size + 3, 0, none⟩) t.kids.length t.kids.length) hd1
        clear q0 q1 q2
        have hf2 := hful.below (b := w.heap.size + 2) (o := 4) (by omega) (.slice (some ⟨w.heap.size + 3, 0, none⟩) t.kids.length t.kids.length)
        clear hd1 hful HB0 hd0
        go_wp2_with fail
        go_loopw [50] (fun i wr => ∃ (q : Nat) (xs : List (Tm × Value)), q ≤ t.kids.length ∧ i = .int .i64 q ∧ Hid (xs.length = t.kids.length) ∧ Hid (optK (fun q x => x.each (liftF k c) (b + bindsN t.k q)) 0 (t.kids.take q) = some ((xs.map (·.1)).take q)) ∧ Full (w.heap.size + 3) wr (w.heap.size + 3) xs ∧ Desk w t t (.slice a t.kids.length cap) (.slice (some ⟨w.heap.size + 3, 0, none⟩) t.kids.length t.kids.length) wr) (fun i _ => t.kids.length - (intOf i).toNat)
        case atStart => exact ⟨0, _, Nat.zero_le _, rfl, List.length_replicate, rfl, hf2, hd2⟩
        case round =>
          clear hf2 hd2 d0 d1 d2 d3 d4 y0 y1 y2 y3 y4 f0 f1 f2 f3 f4
          obtain ⟨q, xs, hq0, rfl, hxl, hxs, hfu, hdk⟩ := hrel
          have HXL := Lib.hid hxl.out
          have HXS := Lib.hid hxs.out
          clear hxl hxs
          obtain ⟨q0, q1, q2⟩ := desk_blocks hdk
          obtain ⟨d0, d1, d2, d3, d4⟩ := five_cells q0
          obtain ⟨y0, y1, y2, y3, y4⟩ := five_cells q2
          obtain ⟨z0, z1, z2, z3, z4⟩ := five_cells q1
          obtain ⟨f0, f1, f2, f3, f4⟩ := five_free q1
          have hsz := desk_size hdk
          clear q0 q2
          by_cases hlt : q < t.kids.length
          · obtain ⟨b', o, rfl, hx⟩ := HN.out q hlt
            have hy := hx.below (desk_under hdk) hx.lt
            obtain ⟨c0, c1, c2, c3, c4⟩ := hy
            have hq := HK.out q hlt
            obtain ⟨a', cap', S', hS, -⟩ := hq.out
            rw [hS] at c4 hq
            have HM := Lib.hid (List.getElem_mem hlt)
            have hbd := binds_range t.k q
            have hdq := deeps_get t.kids q hlt
            rw [HDE.out] at hd
            have hsum : IntKind.i64.wrap (b + bindsN t.k q) = b + bindsN t.k q := IntWalk.i64_in _ (by omega)
            have hH0 := held_start wr t.kids[q] (.slice a' t.kids[q].kids.length cap')
            have CALL : ∀ w', Held wr t.kids[q] (.slice a' t.kids[q].kids.length cap') w' → Calls Tryz.prog 46 #[tv t.kids[q] (.slice a' t.kids[q].kids.length cap'), .int .i64 (b + bindsN t.k q), .func (.func 47) #[] #[.pointer (some ⟨bf, 0, none⟩), .pointer (some ⟨bk, 0, none⟩)]] w' (Gives (t.kids[q].each (liftF k c) (b + bindsN t.k q)) w') := fun w' h' =>
              IH.out _ HM.out _ w' _ (hq.keep ((desk_under hdk).trans ((held_below h').mono (by omega)))) (HRK.out _ HM.out) (by omega) (by omega) (cell_lat ((desk_under hdk).trans ((held_below h').mono (by omega))) hcf) (cell_lat ((desk_under hdk).trans ((held_below h').mono (by omega))) hck)
            clear hS hq hx hd hdq hbd
            cases hx2 : t.kids[q].each (liftF k c) (b + bindsN t.k q) with
            | none =>
              rw [hx2] at CALL
              have HX2 := Lib.hid hx2
              have CALL2 : ∀ w', Held wr t.kids[q] (.slice a' t.kids[q].kids.length cap') w' → Calls Tryz.prog 46 #[tv t.kids[q] (.slice a' t.kids[q].kids.length cap'), .int .i64 (b + bindsN t.k q), .func (.func 47) #[] #[.pointer (some ⟨bf, 0, none⟩), .pointer (some ⟨bk, 0, none⟩)]] w' (GivesNone w') := fun w' h' => (CALL w' h').mono fun e w'' h => h.none
              have CALLB := Lib.hid (CALL2 (wr.alloc (.cells #[.int .i64 t.kids[q].k, .int .i64 t.kids[q].i, .int .i64 t.kids[q].j, .int .i64 t.kids[q].n, .slice a' t.kids[q].kids.length cap'] 25)).drew (held_drew hH0))
              have CALLA := Lib.hid ((CALL2 ((wr.alloc (.cells #[.int .i64 t.kids[q].k, .int .i64 t.kids[q].i, .int .i64 t.kids[q].j, .int .i64 t.kids[q].n, .slice a' t.kids[q].kids.length cap'] 25)).alloc zeroObj).drew (held_drew (held_alloc hH0 _))).mono fun e w'' h => And.intro h (zero_blocks_new h.2))
              clear hx2 CALL CALL2
              go_wp2_with fail
              go_region_held3 (fun w' => Held wr t.kids[q] (.slice a' t.kids[q].kids.length cap') w' ∧ w'.cell? ⟨w.heap.size, 0, none⟩ = some (.int .i64 t.k) ∧ w'.cell? ⟨wr.heap.size, 0, none⟩ = some (.int .i64 t.kids[q].k) ∧ w'.cell? ⟨wr.heap.size, 1, none⟩ = some (.int .i64 t.kids[q].i) ∧ w'.cell? ⟨wr.heap.size, 2, none⟩ = some (.int .i64 t.kids[q].j) ∧ w'.cell? ⟨wr.heap.size, 3, none⟩ = some (.int .i64 t.kids[q].n) ∧ w'.cell? ⟨wr.heap.size, 4, none⟩ = some (.slice a' t.kids[q].kids.length cap'))
                (((with_reducible refine held_and ?_ d0); repeat (first | with_reducible assumption | with_reducible exact hH0 | with_reducible refine held_drew ?_ | with_reducible refine held_alloc ?_ _ | ((with_reducible refine held_set ?_ ?hh _); (case hh => simp)))))
                (first | (go_at_call 68; refine (binds_any _ _ _).mono ?_; rintro e w' ⟨rfl, rfl⟩) | (go_at_call 46; ((with_reducible refine Calls.mono CALLB.out ?_); rintro e wn ⟨⟨z, rfl⟩, hbn⟩; have hh := held_call (held_drew hH0) hbn)) | (go_at_call 46; ((with_reducible refine Calls.mono CALLA.out ?_); rintro e wn ⟨⟨⟨z, rfl⟩, hbn⟩, hZ⟩; obtain ⟨⟨g0, g1, g2, g3, g4⟩, k0, k1, k2, k3, k4⟩ := And.intro (five_cells hZ) (five_free hZ); have hh := held_call (held_drew (held_alloc hH0 _)) hbn)))
              · have hW : Held wr t.kids[q] (.slice a' t.kids[q].kids.length cap') (wn.alloc (.cells #[.int .i64 z.k, .int .i64 z.i, .int .i64 z.j, .int .i64 z.n, .slice none 0 0] 25)) := held_alloc hh _
                clear hh hbn
                generalize wn.alloc (.cells #[.int .i64 z.k, .int .i64 z.i, .int .i64 z.j, .int .i64 z.n, .slice none 0 0] 25) = W at hW ⊢
                have hdW := desk_trans hdk (below_from (held_below hW) hsz)
                obtain ⟨-, q1, -⟩ := desk_blocks hdW
                obtain ⟨z0, z1, z2, z3, z4⟩ := five_cells q1
                obtain ⟨f0, f1, f2, f3, f4⟩ := five_free q1
                go_wp2
                (try simp only [Exit.inBlock, Exit.then])
                refine bodyPost_ret (results_cell_tmp rfl _ _ (w.heap.size + 1) _ _ _ du rfl (five_set q1) hu1 (by cases du <;> first | rfl | exact hu2) size_term) rfl ?_
                exact ⟨((((((desk_under hdW).setCell (by simp) _).setCell (by simp) _).setCell (by simp) _).setCell (by simp) _).setCell (by simp) _), Or.inr ⟨Tm.zero, by rw [HEQ.out, optK_stop hlt HX2.out]; rfl, rfl, rfl⟩⟩
              · have hW : Held wr t.kids[q] (.slice a' t.kids[q].kids.length cap') (((((wn.setCell ⟨wr.heap.size + 1, 0, none⟩ (.int .i64 z.k)).setCell ⟨wr.heap.size + 1, 1, none⟩ (.int .i64 z.i)).setCell ⟨wr.heap.size + 1, 2, none⟩ (.int .i64 z.j)).setCell ⟨wr.heap.size + 1, 3, none⟩ (.int .i64 z.n)).setCell ⟨wr.heap.size + 1, 4, none⟩ (.slice none 0 0)) := held_five hh _ _ _ _ _
                clear hh hbn hZ g0 g1 g2 g3 g4 k0 k1 k2 k3 k4
                generalize ((((wn.setCell ⟨wr.heap.size + 1, 0, none⟩ (.int .i64 z.k)).setCell ⟨wr.heap.size + 1, 1, none⟩ (.int .i64 z.i)).setCell ⟨wr.heap.size + 1, 2, none⟩ (.int .i64 z.j)).setCell ⟨wr.heap.size + 1, 3, none⟩ (.int .i64 z.n)).setCell ⟨wr.heap.size + 1, 4, none⟩ (.slice none 0 0) = W at hW ⊢
                have hdW := desk_trans hdk (below_from (held_below hW) hsz)
                obtain ⟨-, q1, -⟩ := desk_blocks hdW
                obtain ⟨z0, z1, z2, z3, z4⟩ := five_cells q1
                obtain ⟨f0, f1, f2, f3, f4⟩ := five_free q1
                go_wp2
                (try simp only [Exit.inBlock, Exit.then])
                refine bodyPost_ret (results_cell_tmp rfl _ _ (w.heap.size + 1) _ _ _ du rfl (five_set q1) hu1 (by cases du <;> first | rfl | exact hu2) size_term) rfl ?_
                exact ⟨((((((desk_under hdW).setCell (by simp) _).setCell (by simp) _).setCell (by simp) _).setCell (by simp) _).setCell (by simp) _), Or.inr ⟨Tm.zero, by rw [HEQ.out, optK_stop hlt HX2.out]; rfl, rfl, rfl⟩⟩
              · have hW : Held wr t.kids[q] (.slice a' t.kids[q].kids.length cap') (((((wn.setCell ⟨wr.heap.size + 1, 0, none⟩ (.int .i64 z.k)).setCell ⟨wr.heap.size + 1, 1, none⟩ (.int .i64 z.i)).setCell ⟨wr.heap.size + 1, 2, none⟩ (.int .i64 z.j)).setCell ⟨wr.heap.size + 1, 3, none⟩ (.int .i64 z.n)).setCell ⟨wr.heap.size + 1, 4, none⟩ (.slice none 0 0)) := held_five hh _ _ _ _ _
                clear hh hbn hZ g0 g1 g2 g3 g4 k0 k1 k2 k3 k4
                generalize ((((wn.setCell ⟨wr.heap.size + 1, 0, none⟩ (.int .i64 z.k)).setCell ⟨wr.heap.size + 1, 1, none⟩ (.int .i64 z.i)).setCell ⟨wr.heap.size + 1, 2, none⟩ (.int .i64 z.j)).setCell ⟨wr.heap.size + 1, 3, none⟩ (.int .i64 z.n)).setCell ⟨wr.heap.size + 1, 4, none⟩ (.slice none 0 0) = W at hW ⊢
                have hdW := desk_trans hdk (below_from (held_below hW) hsz)
                obtain ⟨-, q1, -⟩ := desk_blocks hdW
                obtain ⟨z0, z1, z2, z3, z4⟩ := five_cells q1
                obtain ⟨f0, f1, f2, f3, f4⟩ := five_free q1
                go_wp2
                (try simp only [Exit.inBlock, Exit.then])
                refine bodyPost_ret (results_cell_tmp rfl _ _ (w.heap.size + 1) _ _ _ du rfl (five_set q1) hu1 (by cases du <;> first | rfl | exact hu2) size_term) rfl ?_
                exact ⟨((((((desk_under hdW).setCell (by simp) _).setCell (by simp) _).setCell (by simp) _).setCell (by simp) _).setCell (by simp) _), Or.inr ⟨Tm.zero, by rw [HEQ.out, optK_stop hlt HX2.out]; rfl, rfl, rfl⟩⟩
            | some u =>
              rw [hx2] at CALL
              have hfine : u.fine := right_fine (right_each _ (liftF_range k c hk0) _ _ _ (HRK.out _ HM.out) hx2)
              have HFI2 := Lib.hid hfine
              have hfine' := trivial
              clear hfine
              have HX2 := Lib.hid hx2
              have CALL2 : ∀ w', Held wr t.kids[q] (.slice a' t.kids[q].kids.length cap') w' → Calls Tryz.prog 46 #[tv t.kids[q] (.slice a' t.kids[q].kids.length cap'), .int .i64 (b + bindsN t.k q), .func (.func 47) #[] #[.pointer (some ⟨bf, 0, none⟩), .pointer (some ⟨bk, 0, none⟩)]] w' (GivesSome u w') := fun w' h' => (CALL w' h').mono fun e w'' h => h.some
              have CALLB := Lib.hid (CALL2 (wr.alloc (.cells #[.int .i64 t.kids[q].k, .int .i64 t.kids[q].i, .int .i64 t.kids[q].j, .int .i64 t.kids[q].n, .slice a' t.kids[q].kids.length cap'] 25)).drew (held_drew hH0))
              have CALLA := Lib.hid ((CALL2 ((wr.alloc (.cells #[.int .i64 t.kids[q].k, .int .i64 t.kids[q].i, .int .i64 t.kids[q].j, .int .i64 t.kids[q].n, .slice a' t.kids[q].kids.length cap'] 25)).alloc zeroObj).drew (held_drew (held_alloc hH0 _))).mono fun e w'' h => And.intro h (zero_blocks_new h.2))
              clear hx2 CALL CALL2
              go_wp2_with fail
              go_region_held3 (fun w' => Held wr t.kids[q] (.slice a' t.kids[q].kids.length cap') w' ∧ w'.cell? ⟨w.heap.size, 0, none⟩ = some (.int .i64 t.k) ∧ w'.cell? ⟨wr.heap.size, 0, none⟩ = some (.int .i64 t.kids[q].k) ∧ w'.cell? ⟨wr.heap.size, 1, none⟩ = some (.int .i64 t.kids[q].i) ∧ w'.cell? ⟨wr.heap.size, 2, none⟩ = some (.int .i64 t.kids[q].j) ∧ w'.cell? ⟨wr.heap.size, 3, none⟩ = some (.int .i64 t.kids[q].n) ∧ w'.cell? ⟨wr.heap.size, 4, none⟩ = some (.slice a' t.kids[q].kids.length cap'))
                (((with_reducible refine held_and ?_ d0); repeat (first | with_reducible assumption | with_reducible exact hH0 | with_reducible refine held_drew ?_ | with_reducible refine held_alloc ?_ _ | ((with_reducible refine held_set ?_ ?hh _); (case hh => simp)))))
                (first | (go_at_call 68; refine (binds_any _ _ _).mono ?_; rintro e w' ⟨rfl, rfl⟩) | (go_at_call 46; ((with_reducible refine Calls.mono CALLB.out ?_); rintro e wn ⟨⟨s2, rfl, hl2⟩, hbn⟩; obtain ⟨a2, cap2, rfl, -, -⟩ := hl2.out; have HL2 := Lib.hid hl2; clear hl2; have hh := held_call (held_drew hH0) hbn)) | (go_at_call 46; ((with_reducible refine Calls.mono CALLA.out ?_); rintro e wn ⟨⟨⟨s2, rfl, hl2⟩, hbn⟩, hZ⟩; obtain ⟨⟨g0, g1, g2, g3, g4⟩, k0, k1, k2, k3, k4⟩ := And.intro (five_cells hZ) (five_free hZ); obtain ⟨a2, cap2, rfl, -, -⟩ := hl2.out; have HL2 := Lib.hid hl2; clear hl2; have hh := held_call (held_drew (held_alloc hH0 _)) hbn)))
              · have hW : Held wr t.kids[q] (.slice a' t.kids[q].kids.length cap') (wn.alloc (.cells #[.int .i64 u.k, .int .i64 u.i, .int .i64 u.j, .int .i64 u.n, .slice a2 u.kids.length cap2] 25)) := held_alloc hh _
                have hLW : LiesP (wn.alloc (.cells #[.int .i64 u.k, .int .i64 u.i, .int .i64 u.j, .int .i64 u.n, .slice a2 u.kids.length cap2] 25)) (Own wr.heap.size (wn.alloc (.cells #[.int .i64 u.k, .int .i64 u.i, .int .i64 u.j, .int .i64 u.n, .slice a2 u.kids.length cap2] 25))) u.kids (.slice a2 u.kids.length cap2) := ((HL2.out.from (by simp)).later ((Below.refl _ _).alloc (Nat.le_refl _) _))
                have hN : (wn.alloc (.cells #[.int .i64 u.k, .int .i64 u.i, .int .i64 u.j, .int .i64 u.n, .slice a2 u.kids.length cap2] 25)).heap[wn.heap.size]? = some (boxOf u (.slice a2 u.kids.length cap2)) := alloc_new _ _
                clear hh hbn HL2
                generalize wn.alloc (.cells #[.int .i64 u.k, .int .i64 u.i, .int .i64 u.j, .int .i64 u.n, .slice a2 u.kids.length cap2] 25) = W at hW hLW hN ⊢
                have hdW := desk_trans hdk (below_from (held_below hW) hsz)
                have hfW := hfu.later (held_below hW)
                have hxq : q < xs.length := by rw [HXL.out]; exact hlt
                have hLF := hfu.fresh hsz hLW
                obtain ⟨-, -, q2⟩ := desk_blocks hdW
                obtain ⟨y0, y1, y2, y3, y4⟩ := five_cells q2
                obtain ⟨p0, p1, p2, p3, p4⟩ := five_cells hN
                obtain ⟨x0, x1, x2, x3, x4⟩ := hfW.node q hxq
                obtain ⟨cs, hcs⟩ := hfW.open'
                have f0 := open_unfrozen hcs (q * 5)
                have f1 := open_unfrozen hcs (q * 5 + 1)
                have f2 := open_unfrozen hcs (q * 5 + 2)
                have f3 := open_unfrozen hcs (q * 5 + 3)
                have f4 := open_unfrozen hcs (q * 5 + 4)
                have HFW := Lib.hid hfW
                have HLF := Lib.hid hLF
                have HFU := Lib.hid hfu
                clear hcs hN hLW hW hfW hLF hfu hfine' d0 d1 d2 d3 d4 z0 z1 z2 z3 z4
                go_wp2
                go_roundw
                case rel => exact ⟨q + 1, xs.set q (u, .slice a2 u.kids.length cap2), hlt, by go_num, by simp [Hid, HXL.out], by rw [Hid, optK_next hlt HXS.out HX2.out, List.map_set, take_set_next _ _ _ (by simpa using hxq)], HFW.out.fill hxq HFI2.out HLF.out, desk_put hdW (Nat.le_refl _) _ _ _⟩
                case measure => simp [intOf]; omega
              · have hW : Held wr t.kids[q] (.slice a' t.kids[q].kids.length cap') (((((wn.setCell ⟨wr.heap.size + 1, 0, none⟩ (.int .i64 u.k)).setCell ⟨wr.heap.size + 1, 1, none⟩ (.int .i64 u.i)).setCell ⟨wr.heap.size + 1, 2, none⟩ (.int .i64 u.j)).setCell ⟨wr.heap.size + 1, 3, none⟩ (.int .i64 u.n)).setCell ⟨wr.heap.size + 1, 4, none⟩ (.slice a2 u.kids.length cap2)) := held_five hh _ _ _ _ _
                have hLW : LiesP (((((wn.setCell ⟨wr.heap.size + 1, 0, none⟩ (.int .i64 u.k)).setCell ⟨wr.heap.size + 1, 1, none⟩ (.int .i64 u.i)).setCell ⟨wr.heap.size + 1, 2, none⟩ (.int .i64 u.j)).setCell ⟨wr.heap.size + 1, 3, none⟩ (.int .i64 u.n)).setCell ⟨wr.heap.size + 1, 4, none⟩ (.slice a2 u.kids.length cap2)) (Own wr.heap.size (((((wn.setCell ⟨wr.heap.size + 1, 0, none⟩ (.int .i64 u.k)).setCell ⟨wr.heap.size + 1, 1, none⟩ (.int .i64 u.i)).setCell ⟨wr.heap.size + 1, 2, none⟩ (.int .i64 u.j)).setCell ⟨wr.heap.size + 1, 3, none⟩ (.int .i64 u.n)).setCell ⟨wr.heap.size + 1, 4, none⟩ (.slice a2 u.kids.length cap2))) u.kids (.slice a2 u.kids.length cap2) := liesP_five (HL2.out.from (B' := wr.heap.size + 2) (by simp)) _ _ _ _ _
                have hN : (((((wn.setCell ⟨wr.heap.size + 1, 0, none⟩ (.int .i64 u.k)).setCell ⟨wr.heap.size + 1, 1, none⟩ (.int .i64 u.i)).setCell ⟨wr.heap.size + 1, 2, none⟩ (.int .i64 u.j)).setCell ⟨wr.heap.size + 1, 3, none⟩ (.int .i64 u.n)).setCell ⟨wr.heap.size + 1, 4, none⟩ (.slice a2 u.kids.length cap2)).heap[wr.heap.size + 1]? = some (boxOf u (.slice a2 u.kids.length cap2)) := five_set hZ
                clear hh hbn HL2 hZ g0 g1 g2 g3 g4 k0 k1 k2 k3 k4
                generalize ((((wn.setCell ⟨wr.heap.size + 1, 0, none⟩ (.int .i64 u.k)).setCell ⟨wr.heap.size + 1, 1, none⟩ (.int .i64 u.i)).setCell ⟨wr.heap.size + 1, 2, none⟩ (.int .i64 u.j)).setCell ⟨wr.heap.size + 1, 3, none⟩ (.int .i64 u.n)).setCell ⟨wr.heap.size + 1, 4, none⟩ (.slice a2 u.kids.length cap2) = W at hW hLW hN ⊢
                have hdW := desk_trans hdk (below_from (held_below hW) hsz)
                have hfW := hfu.later (held_below hW)
                have hxq : q < xs.length := by rw [HXL.out]; exact hlt
                have hLF := hfu.fresh hsz hLW
                obtain ⟨-, -, q2⟩ := desk_blocks hdW
                obtain ⟨y0, y1, y2, y3, y4⟩ := five_cells q2
                obtain ⟨p0, p1, p2, p3, p4⟩ := five_cells hN
                obtain ⟨x0, x1, x2, x3, x4⟩ := hfW.node q hxq
                obtain ⟨cs, hcs⟩ := hfW.open'
                have f0 := open_unfrozen hcs (q * 5)
                have f1 := open_unfrozen hcs (q * 5 + 1)
                have f2 := open_unfrozen hcs (q * 5 + 2)
                have f3 := open_unfrozen hcs (q * 5 + 3)
                have f4 := open_unfrozen hcs (q * 5 + 4)
                have HFW := Lib.hid hfW
                have HLF := Lib.hid hLF
                have HFU := Lib.hid hfu
                clear hcs hN hLW hW hfW hLF hfu hfine' d0 d1 d2 d3 d4 z0 z1 z2 z3 z4
                go_wp2
                go_roundw
                case rel => exact ⟨q + 1, xs.set q (u, .slice a2 u.kids.length cap2), hlt, by go_num, by simp [Hid, HXL.out], by rw [Hid, optK_next hlt HXS.out HX2.out, List.map_set, take_set_next _ _ _ (by simpa using hxq)], HFW.out.fill hxq HFI2.out HLF.out, desk_put hdW (Nat.le_refl _) _ _ _⟩
                case measure => simp [intOf]; omega
              · have hW : Held wr t.kids[q] (.slice a' t.kids[q].kids.length cap') (((((wn.setCell ⟨wr.heap.size + 1, 0, none⟩ (.int .i64 u.k)).setCell ⟨wr.heap.size + 1, 1, none⟩ (.int .i64 u.i)).setCell ⟨wr.heap.size + 1, 2, none⟩ (.int .i64 u.j)).setCell ⟨wr.heap.size + 1, 3, none⟩ (.int .i64 u.n)).setCell ⟨wr.heap.size + 1, 4, none⟩ (.slice a2 u.kids.length cap2)) := held_five hh _ _ _ _ _
                have hLW : LiesP (((((wn.setCell ⟨wr.heap.size + 1, 0, none⟩ (.int .i64 u.k)).setCell ⟨wr.heap.size + 1, 1, none⟩ (.int .i64 u.i)).setCell ⟨wr.heap.size + 1, 2, none⟩ (.int .i64 u.j)).setCell ⟨wr.heap.size + 1, 3, none⟩ (.int .i64 u.n)).setCell ⟨wr.heap.size + 1, 4, none⟩ (.slice a2 u.kids.length cap2)) (Own wr.heap.size (((((wn.setCell ⟨wr.heap.size + 1, 0, none⟩ (.int .i64 u.k)).setCell ⟨wr.heap.size + 1, 1, none⟩ (.int .i64 u.i)).setCell ⟨wr.heap.size + 1, 2, none⟩ (.int .i64 u.j)).setCell ⟨wr.heap.size + 1, 3, none⟩ (.int .i64 u.n)).setCell ⟨wr.heap.size + 1, 4, none⟩ (.slice a2 u.kids.length cap2))) u.kids (.slice a2 u.kids.length cap2) := liesP_five (HL2.out.from (B' := wr.heap.size + 2) (by simp)) _ _ _ _ _
                have hN : (((((wn.setCell ⟨wr.heap.size + 1, 0, none⟩ (.int .i64 u.k)).setCell ⟨wr.heap.size + 1, 1, none⟩ (.int .i64 u.i)).setCell ⟨wr.heap.size + 1, 2, none⟩ (.int .i64 u.j)).setCell ⟨wr.heap.size + 1, 3, none⟩ (.int .i64 u.n)).setCell ⟨wr.heap.size + 1, 4, none⟩ (.slice a2 u.kids.length cap2)).heap[wr.heap.size + 1]? = some (boxOf u (.slice a2 u.kids.length cap2)) := five_set hZ
                clear hh hbn HL2 hZ g0 g1 g2 g3 g4 k0 k1 k2 k3 k4
                generalize ((((wn.setCell ⟨wr.heap.size + 1, 0, none⟩ (.int .i64 u.k)).setCell ⟨wr.heap.size + 1, 1, none⟩ (.int .i64 u.i)).setCell ⟨wr.heap.size + 1, 2, none⟩ (.int .i64 u.j)).setCell ⟨wr.heap.size + 1, 3, none⟩ (.int .i64 u.n)).setCell ⟨wr.heap.size + 1, 4, none⟩ (.slice a2 u.kids.length cap2) = W at hW hLW hN ⊢
                have hdW := desk_trans hdk (below_from (held_below hW) hsz)
                have hfW := hfu.later (held_below hW)
                have hxq : q < xs.length := by rw [HXL.out]; exact hlt
                have hLF := hfu.fresh hsz hLW
                obtain ⟨-, -, q2⟩ := desk_blocks hdW
                obtain ⟨y0, y1, y2, y3, y4⟩ := five_cells q2
                obtain ⟨p0, p1, p2, p3, p4⟩ := five_cells hN
                obtain ⟨x0, x1, x2, x3, x4⟩ := hfW.node q hxq
                obtain ⟨cs, hcs⟩ := hfW.open'
                have f0 := open_unfrozen hcs (q * 5)
                have f1 := open_unfrozen hcs (q * 5 + 1)
                have f2 := open_unfrozen hcs (q * 5 + 2)
                have f3 := open_unfrozen hcs (q * 5 + 3)
                have f4 := open_unfrozen hcs (q * 5 + 4)
                have HFW := Lib.hid hfW
                have HLF := Lib.hid hLF
                have HFU := Lib.hid hfu
                clear hcs hN hLW hW hfW hLF hfu hfine' d0 d1 d2 d3 d4 z0 z1 z2 z3 z4
                go_wp2
                go_roundw
                case rel => exact ⟨q + 1, xs.set q (u, .slice a2 u.kids.length cap2), hlt, by go_num, by simp [Hid, HXL.out], by rw [Hid, optK_next hlt HXS.out HX2.out, List.map_set, take_set_next _ _ _ (by simpa using hxq)], HFW.out.fill hxq HFI2.out HLF.out, desk_put hdW (Nat.le_refl _) _ _ _⟩
                case measure => simp [intOf]; omega
          · have : q = t.kids.length := by omega
            subst this
            go_wp2_with fail
            (try simp only [Exit.inBlock, Exit.then])
            refine bodyPost_ret (results_cell_tmp rfl _ _ (w.heap.size + 1) _ _ _ du rfl (five_set q1) hu1 (by cases du <;> first | rfl | exact hu2) size_term) rfl ?_
            have hxe : (xs.map (·.1)).take t.kids.length = xs.map (·.1) := by rw [← HXL.out, ← List.length_map (f := (·.1)), List.take_length]
            have hres : t.each (liftF k c) b = some (.mk t.k t.i t.j t.n (xs.map (·.1))) := by
              have := HXS.out
              rw [List.take_length, hxe] at this
              rw [HEQ.out, this]; rfl
            refine ⟨((((((desk_under hdk).setCell (by simp) _).setCell (by simp) _).setCell (by simp) _).setCell (by simp) _).setCell (by simp) _), Or.inl ⟨_, _, hres, rfl, ?_⟩⟩
            refine five_lies (hfu.lies (cap := t.kids.length) (by rw [HXL.out]; exact Nat.le_refl _) (by unfold maxLen; omega)) HXL.out _ _ _ _ _
end Go.Proofs.YtgododpkbiaacaaGreat

namespace Go.Proofs.YtgododpkbiaacaaGreat
open Go.RowKit

theorem heap_four (w : World) (a b c d : Obj) : ((((w.alloc a).alloc b).alloc c).alloc d).heap[w.heap.size]? = some a ∧ ((((w.alloc a).alloc b).alloc c).alloc d).heap[w.heap.size + 1]? = some b ∧ ((((w.alloc a).alloc b).alloc c).alloc d).heap[w.heap.size + 2]? = some c ∧ ((((w.alloc a).alloc b).alloc c).alloc d).heap[w.heap.size + 3]? = some d := by
  obtain ⟨h0, h1, h2, -⟩ := heap_three w a b c
  refine ⟨?_, ?_, ?_, ?_⟩
  · rw [Below.heap_alloc _ _ _ (by simp <;> omega)]; exact h0
  · rw [Below.heap_alloc _ _ _ (by simp <;> omega)]; exact h1
  · rw [Below.heap_alloc _ _ _ (by simp)]; exact h2
  · have := alloc_new (((w.alloc a).alloc b).alloc c) d
    simpa using this
theorem below_four (w : World) (a b c d : Obj) : Below w.heap.size w ((((w.alloc a).alloc b).alloc c).alloc d) := ((((Below.refl _ _).alloc (Nat.le_refl _) _).alloc (by simp) _).alloc (by simp <;> omega) _).alloc (by simp <;> omega) _

set_option maxHeartbeats 2000000 in
theorem lift_any (t : Tm) (k c : Int) (w : World) (s : Value) (hl : Lies w t.kids s) (hk : I64 k) (_ : I64 c) (hd : t.deep ≤ 100000) : Calls Tryz.prog 22 #[tv t s, .int .i64 k, .int .i64 c] w (Makes (t.liftB k c) w) := by
  obtain ⟨a, cap, S, rfl, hc, hm, -, -, -⟩ := hl.out
  have HL := Lib.hid hl
  obtain ⟨du, hu1, hu2⟩ := under_term
  have HB := below_four w (.cells #[.int .i64 t.k, .int .i64 t.i, .int .i64 t.j, .int .i64 t.n, .slice a t.kids.length cap] 25) (.cells #[.int .i64 k] 3) (.cells #[.int .i64 c] 3) (.cells #[.int .i64 0, .int .i64 0, .int .i64 0, .int .i64 0, .slice none 0 0] 25)
  obtain ⟨q0, q1, q2, q3⟩ := heap_four w (.cells #[.int .i64 t.k, .int .i64 t.i, .int .i64 t.j, .int .i64 t.n, .slice a t.kids.length cap] 25) (.cells #[.int .i64 k] 3) (.cells #[.int .i64 c] 3) (.cells #[.int .i64 0, .int .i64 0, .int .i64 0, .int .i64 0, .slice none 0 0] 25)
  clear hl
  unfold tv
  by_cases hk0 : k < 0
  · have e1 : decide (k < 0) = true := by simpa using hk0
    have hres : t.liftB k c = Tm.zero := by unfold Tm.liftB; rw [if_pos (Or.inl hk0)]
    rw [hres]
    clear hres
    go_enter Tryz.func22, Tryz.ntmps22
    go_wp2
    refine bodyPost_ret (results_cell_row rfl _ _ (w.heap.size + 3) _ _ _ du rfl q3 hu1 (by cases du <;> first | rfl | exact hu2) size_term) rfl ?_
    exact ⟨.slice none 0 0, rfl, liesP_nil _ _, HB⟩
  by_cases hc0 : c < 0
  · have e1 : decide (k < 0) = false := by simpa using hk0
    have e2 : decide (c < 0) = true := by simpa using hc0
    have hres : t.liftB k c = Tm.zero := by unfold Tm.liftB; rw [if_pos (Or.inr (Or.inl hc0))]
    rw [hres]
    clear hres
    go_enter Tryz.func22, Tryz.ntmps22
    go_wp2
    refine bodyPost_ret (results_cell_row rfl _ _ (w.heap.size + 3) _ _ _ du rfl q3 hu1 (by cases du <;> first | rfl | exact hu2) size_term) rfl ?_
    exact ⟨.slice none 0 0, rfl, liesP_nil _ _, HB⟩
  have e1 : decide (k < 0) = false := by simpa using hk0
  have e2 : decide (c < 0) = false := by simpa using hc0
  cases hr : t.rightB with
  | false =>
    have hres : t.liftB k c = Tm.zero := by unfold Tm.liftB; rw [if_pos (Or.inr (Or.inr hr))]
    rw [hres]
    clear hres
    go_enter Tryz.func22, Tryz.ntmps22
    go_wp2_with fail
    refine (right_any t _ _ (HL.out.keep HB)).mono ?_
    rw [hr]
    rintro e w2 ⟨rfl, hb2⟩
    have h3 := hb2.block (w.heap.size + 3) (by have := (Array.getElem?_eq_some_iff.1 q3).1; exact this)
    rw [q3] at h3
    obtain ⟨z0, z1, z2, z3, z4⟩ := five_cells h3
    obtain ⟨f0, f1, f2, f3, f4⟩ := five_free h3
    have hB2 := HB.trans (hb2.mono HB.size)
    clear hb2 q0 q1 q2 q3
    go_wp2
    refine bodyPost_ret (results_cell_row rfl _ _ (w.heap.size + 3) _ _ _ du rfl (five_set h3) hu1 (by cases du <;> first | rfl | exact hu2) size_term) rfl ?_
    exact ⟨.slice none 0 0, rfl, liesP_nil _ _, ((((hB2.setCell (above3 _) _).setCell (above3 _) _).setCell (above3 _) _).setCell (above3 _) _).setCell (above3 _) _⟩
  | true =>
    have hlb : t.liftB k c = (t.each (liftF k c) 0).getD .zero := by unfold Tm.liftB; rw [if_neg (by rw [hr]; simp; omega)]
    have HLB := Lib.hid hlb
    clear hlb
    go_enter Tryz.func22, Tryz.ntmps22
    go_wp2_with fail
    refine (right_any t _ _ (HL.out.keep HB)).mono ?_
    rw [hr]
    rintro e w2 ⟨rfl, hb2⟩
    have hB2 := HB.trans (hb2.mono HB.size)
    have key : ∀ n o, n < w.heap.size + 4 → ((((w.alloc (.cells #[.int .i64 t.k, .int .i64 t.i, .int .i64 t.j, .int .i64 t.n, .slice a t.kids.length cap] 25)).alloc (.cells #[.int .i64 k] 3)).alloc (.cells #[.int .i64 c] 3)).alloc (.cells #[.int .i64 0, .int .i64 0, .int .i64 0, .int .i64 0, .slice none 0 0] 25)).heap[n]? = some o → w2.heap[n]? = some o := fun n o hn h => by rw [hb2.block n (by simpa using hn)]; exact h
    have h0 := key _ _ (by omega) q0
    have h1 := key _ _ (by omega) q1
    have h2 := key _ _ (by omega) q2
    have h3 := key _ _ (by omega) q3
    have hs2 : w.heap.size + 4 ≤ w2.heap.size := by have := hb2.size; simpa using this
    obtain ⟨d0, d1, d2, d3, d4⟩ := five_cells h0
    clear hb2 q0 q1 q2 q3 key
    go_wp2_with fail
    refine (eachl_any k c (w.heap.size + 2) (w.heap.size + 1) hk (by omega) t 0 w2 _ (HL.out.keep hB2) hr (by omega) (by omega) (by rw [cell_of_row _ _ _ _ _ _ h2]; rfl) (by rw [cell_of_row _ _ _ _ _ _ h1]; rfl)).mono ?_
    intro e w3 hg
    cases hx : t.each (liftF k c) 0 with
    | none =>
      rw [hx] at hg HLB
      obtain ⟨⟨z, rfl⟩, hb3⟩ := hg.none
      have h4 := hb3.block (w.heap.size + 3) (by omega)
      rw [h3] at h4
      obtain ⟨z0, z1, z2, z3, z4⟩ := five_cells h4
      obtain ⟨f0, f1, f2, f3, f4⟩ := five_free h4
      have hB3 := hB2.trans (hb3.mono hB2.size)
      have hs3 : w.heap.size + 1 + 1 + 1 < w3.heap.size := by have := hb3.size; omega
      clear hb3 h0 h1 h2 h3
      go_wp2
      refine bodyPost_ret (results_cell_row rfl _ _ (w.heap.size + 3) _ _ _ du rfl (five_alloc h4 _ _ _ _ _ _) hu1 (by cases du <;> first | rfl | exact hu2) size_term) rfl ?_
      rw [HLB.out]
      exact ⟨.slice none 0 0, rfl, liesP_nil _ _, below_five_alloc hB3 hB3.size (above3 _) _ _ _ _ _ _⟩
    | some u =>
      rw [hx] at hg HLB
      obtain ⟨⟨s2, rfl, hl2⟩, hb3⟩ := hg.some
      obtain ⟨a2, cap2, rfl, -, -⟩ := hl2.out
      have h4 := hb3.block (w.heap.size + 3) (by omega)
      rw [h3] at h4
      obtain ⟨z0, z1, z2, z3, z4⟩ := five_cells h4
      obtain ⟨f0, f1, f2, f3, f4⟩ := five_free h4
      have hB3 := hB2.trans (hb3.mono hB2.size)
      have hs3 : w.heap.size + 1 + 1 + 1 < w3.heap.size := by have := hb3.size; omega
      clear hb3 h0 h1 h2 h3
      go_wp2
      refine bodyPost_ret (results_cell_row rfl _ _ (w.heap.size + 3) _ _ _ du rfl (five_alloc h4 _ _ _ _ _ _) hu1 (by cases du <;> first | rfl | exact hu2) size_term) rfl ?_
      rw [HLB.out]
      exact ⟨.slice a2 u.kids.length cap2, rfl, liesP_fives_alloc hl2 (by omega) (by omega) _ _ _ _ _ _, below_five_alloc hB3 hB3.size (above3 _) _ _ _ _ _ _⟩
end Go.Proofs.YtgododpkbiaacaaGreat

namespace Go.Proofs.YtgododpkbiaacaaGreat
open Go.RowKit

theorem rlift_fine {k c : Int} (hk : 0 ≤ k) {t u : Tm} (hf : t.fine) (h : t.rlift k c = some u) : u.fine := by
  rw [Tm.rlift_eq] at h
  split at h
  · cases h
  · rename_i h1
    simp only [Option.map_eq_some_iff] at h
    obtain ⟨l, -, rfl⟩ := h
    obtain ⟨a1, a2, a3, a4⟩ := hf
    refine ⟨a1, ?_, a3, a4⟩
    show I64 (if t.k = 2 ∧ c ≤ t.i then t.i + k else t.i)
    split
    · rename_i h2
      have : ¬ (k > 2147483647 - t.i) := fun h => h1 ⟨h2.1, h2.2, h⟩
      unfold I64 at a2 ⊢; omega
    · exact a2
theorem step62_range {c : Int} (hc : 0 ≤ c) (hc2 : c ≤ 9223372036854775807) (k q : Int) : 0 ≤ step62 c k q ∧ step62 c k q ≤ 9223372036854775807 := by
  unfold step62; have := binds_range k q; split <;> omega

set_option maxRecDepth 20000 in
set_option maxHeartbeats 4000000 in
theorem rlift_any (k : Int) (hk : I64 k) (hk0 : 0 ≤ k) (t : Tm) : ∀ (c : Int) (w : World) (s : Value), Lies w t.kids s → t.rightB = true → 0 ≤ c → c ≤ 9223372036854775807 →
    Calls Tryz.prog 73 #[tv t s, .int .i64 k, .int .i64 c] w (Gives (t.rlift k c) w) := by
  induction t using Tm.ind with
  | h t ih =>
    intro c w s hl hr hc0 hc9
    obtain ⟨a, cap, S, rfl, hc, hm, hf, hn, hkk⟩ := hl.out
    have hlen := right_len hr
    unfold tv
    unfold maxLen at hm
    unfold I64 at hk
    obtain ⟨hk1, hk9⟩ := hk
    obtain ⟨du, hu1, hu2⟩ := under_term
    have hd0 := desk_start w t t (.slice a t.kids.length cap) (.slice none 0 0)
    have heq := Tm.rlift_eq k t c
    by_cases hk2 : t.k = 2
    · have e2 : (t.k == 2) = true := by simpa using hk2
      have hv := t.right_var hr hk2
      have hnil : t.kids = [] := (sorts_two (t.right_node hr) (by omega)).2
      have h1 : t.kids.length < 1 := by rw [hnil]; exact Nat.zero_lt_one
      have HNIL := Lib.hid hnil
      have HK2 := Lib.hid hk2
      clear hnil hk2 ih hn hkk hf hl
      by_cases hci : c ≤ t.i
      · have e3 : decide (c ≤ t.i) = true := by simpa using hci
        by_cases hov : k > 2147483647 - t.i
        · have e4 : decide (2147483647 - t.i < k) = true := by simpa using hov
          rw [if_pos ⟨HK2.out, hci, hov⟩] at heq
          have HEQ := Lib.hid heq
          clear heq hov hci
          go_enter Tryz.func73, Tryz.ntmps73
          go_wp2
          (try simp only [Exit.inBlock, Exit.then])
          refine bodyPost_ret (results_cell_tmp rfl _ _ (w.heap.size + 1) _ _ _ du rfl (heap_three _ _ _ _).2.1 hu1 (by cases du <;> first | rfl | exact hu2) size_term) rfl ?_
          exact ⟨below_three _ _ _ _, Or.inr ⟨Tm.zero, HEQ.out, rfl, rfl⟩⟩
        · have e4 : decide (2147483647 - t.i < k) = false := by simpa using hov
          have h5 : k ≤ 2147483647 - t.i := by omega
          rw [if_neg (fun h => hov h.2.2), if_pos ⟨HK2.out, hci⟩] at heq
          have HEQ := Lib.hid heq
          clear heq hov hci
          go_enter Tryz.func73, Tryz.ntmps73
          go_wp2_with fail
          go_loopw [9, 10] (fun v i wr => v = .slice none 0 0 ∧ i = .int .i64 0 ∧ Desk w t (.mk t.k (t.i + k) t.j t.n []) (.slice a t.kids.length cap) (.slice none 0 0) wr) (fun _ _ _ => 0)
          case atStart => exact ⟨rfl, rfl, desk_start w t (.mk t.k (t.i + k) t.j t.n []) (.slice a t.kids.length cap) (.slice none 0 0)⟩
          case round =>
            obtain ⟨rfl, rfl, hdk⟩ := hrel
            obtain ⟨q0, q1, q2⟩ := desk_blocks hdk
            obtain ⟨d0, d1, d2, d3, d4⟩ := five_cells q0
            obtain ⟨f0, f1, f2, f3, f4⟩ := five_free q2
            obtain ⟨y0, y1, y2, y3, y4⟩ := five_cells q2
            obtain ⟨z0, z1, z2, z3, z4⟩ := five_cells q1
            obtain ⟨g0, g1, g2, g3, g4⟩ := five_free q1
            have hd2 := desk_set (v' := .slice none 0 0) hdk
            obtain ⟨-, q1', -⟩ := desk_blocks hd2
            clear q0 q1 q2
            go_wp2
            (try simp only [Exit.inBlock, Exit.then])
            refine bodyPost_ret (results_cell_tmp rfl _ _ (w.heap.size + 1) _ _ _ du rfl (five_set q1') hu1 (by cases du <;> first | rfl | exact hu2) size_term) rfl ?_
            exact ⟨below_five (desk_under hd2) (by omega) _ _ _ _ _, Or.inl ⟨(.mk t.k (t.i + k) t.j t.n []), .slice none 0 0, by rw [HEQ.out, HNIL.out]; rfl, rfl, liesP_nil _ _⟩⟩
      · have e3 : decide (c ≤ t.i) = false := by simpa using hci
        rw [if_neg (fun h => hci h.2.1), if_neg (fun h => hci h.2)] at heq
        have HEQ := Lib.hid heq
        clear heq hci
        go_enter Tryz.func73, Tryz.ntmps73
        go_wp2_with fail
        go_loopw [9, 10] (fun v i wr => v = .slice none 0 0 ∧ i = .int .i64 0 ∧ Desk w t (.mk t.k t.i t.j t.n []) (.slice a t.kids.length cap) (.slice none 0 0) wr) (fun _ _ _ => 0)
        case atStart => exact ⟨rfl, rfl, desk_start w t (.mk t.k t.i t.j t.n []) (.slice a t.kids.length cap) (.slice none 0 0)⟩
        case round =>
          obtain ⟨rfl, rfl, hdk⟩ := hrel
          obtain ⟨q0, q1, q2⟩ := desk_blocks hdk
          obtain ⟨d0, d1, d2, d3, d4⟩ := five_cells q0
          obtain ⟨f0, f1, f2, f3, f4⟩ := five_free q2
          obtain ⟨y0, y1, y2, y3, y4⟩ := five_cells q2
          obtain ⟨z0, z1, z2, z3, z4⟩ := five_cells q1
          obtain ⟨g0, g1, g2, g3, g4⟩ := five_free q1
          have hd2 := desk_set (v' := .slice none 0 0) hdk
          obtain ⟨-, q1', -⟩ := desk_blocks hd2
          clear q0 q1 q2
          go_wp2
          (try simp only [Exit.inBlock, Exit.then])
          refine bodyPost_ret (results_cell_tmp rfl _ _ (w.heap.size + 1) _ _ _ du rfl (five_set q1') hu1 (by cases du <;> first | rfl | exact hu2) size_term) rfl ?_
          exact ⟨below_five (desk_under hd2) (by omega) _ _ _ _ _, Or.inl ⟨(.mk t.k t.i t.j t.n []), .slice none 0 0, by rw [HEQ.out, HNIL.out]; rfl, rfl, liesP_nil _ _⟩⟩
    · have e2 : (t.k == 2) = false := by simpa using hk2
      rw [if_neg (fun h => hk2 h.1), if_neg (fun h => hk2 h.1)] at heq
      have HEQ := Lib.hid heq
      have HRK := Lib.hid (t.right_kids hr)
      have HFI := Lib.hid hf
      have IH := Lib.hid ih
      have HN := Lib.hid hn
      have HK := Lib.hid hkk
      clear heq hk2 ih hn hkk hf hr hl
      obtain ⟨i0, hi, hz0, hz1, hz2⟩ := info_parts info_term
      have HI := Lib.hid (And.intro hi (And.intro hz0 (And.intro hz1 hz2)))
      clear hi hz0 hz1 hz2
      go_enter Tryz.func73, Tryz.ntmps73
      go_wp2_with fail
      go_loopw [9, 10] (fun v i wr => ∃ (q : Nat) (ps : List (Tm × Value)) (vv : Value), vv = v ∧ q ≤ t.kids.length ∧ i = .int .i64 q ∧ Hid (optK (fun q x => x.rlift k (step62 c t.k q)) 0 (t.kids.take q) = some (ps.map (·.1))) ∧ Made (w.heap.size + 3) wr v ps ∧ Desk w t t (.slice a t.kids.length cap) (.slice none 0 0) wr) (fun _ i _ => t.kids.length - (intOf i).toNat)
      case atStart => exact ⟨0, [], _, rfl, Nat.zero_le _, rfl, rfl, made_nil _ _, hd0⟩
      case round =>
        clear hd0
        obtain ⟨q, ps, vv, rfl, hq0, rfl, hps, hmade, hdk⟩ := hrel
        have HPS := Lib.hid hps.out
        clear hps
        obtain ⟨q0, q1, q2⟩ := desk_blocks hdk
        obtain ⟨d0, d1, d2, d3, d4⟩ := five_cells q0
        obtain ⟨y0, y1, y2, y3, y4⟩ := five_cells q2
        obtain ⟨f0, f1, f2, f3, f4⟩ := five_free q2
        obtain ⟨z0, z1, z2, z3, z4⟩ := five_cells q1
        obtain ⟨g0, g1, g2, g3, g4⟩ := five_free q1
        have hsz := desk_size hdk
        clear q0 q2
        by_cases hlt : q < t.kids.length
        · obtain ⟨b', o, rfl, hx⟩ := HN.out q hlt
          have hy := hx.below (desk_under hdk) hx.lt
          obtain ⟨c0, c1, c2, c3, c4⟩ := hy
          have hq := HK.out q hlt
          obtain ⟨a', cap', S', hS, -⟩ := hq.out
          rw [hS] at c4 hq
          have HM := Lib.hid (List.getElem_mem hlt)
          have hbd := binds_range t.k q
          have hst := step62_range hc0 hc9 t.k q
          have hpl : ps.length = q := by have := optK_length HPS.out; simp at this; omega
          have HPL := Lib.hid hpl
          have HMD := Lib.hid hmade
          have CALL := Lib.hid (IH.out _ HM.out (step62 c t.k q) wr _ (hq.keep (desk_under hdk)) (HRK.out _ HM.out) hst.1 hst.2)
          have hstep : step62 c t.k q = c + (if 4611686018427387904 < c then 0 else bindsN t.k q) := rfl
          clear hS hq hx hpl hmade hst
          cases hx2 : t.kids[q].rlift k (step62 c t.k q) with
          | none =>
            rw [hx2] at CALL
            have HX2 := Lib.hid hx2
            clear hx2
            by_cases hbig : 4611686018427387904 < c
            · rw [if_pos hbig, Int.add_zero] at hstep
              rw [hstep] at CALL
              clear hstep
              go_wp2_with (go_at_call 82; refine (refbinds_any _ _ _).mono ?_; rintro e w' ⟨rfl, rfl⟩)
              refine CALL.out.mono ?_
              intro e w2 hg
              obtain ⟨⟨z, rfl⟩, hb2⟩ := hg.none
              have hd2 := desk_later hdk hb2
              have hs2 : w.heap.size + 1 < w2.heap.size := by have := desk_size hd2; omega
              obtain ⟨-, q1', -⟩ := desk_blocks hd2
              obtain ⟨z0, z1, z2, z3, z4⟩ := five_cells q1'
              obtain ⟨g0, g1, g2, g3, g4⟩ := five_free q1'
              clear hg hb2
              go_wp2
              (try simp only [Exit.inBlock, Exit.then])
              refine bodyPost_ret (results_cell_tmp rfl _ _ (w.heap.size + 1) _ _ _ du rfl (five_alloc q1' _ _ _ _ _ _) hu1 (by cases du <;> first | rfl | exact hu2) size_term) rfl ?_

              exact ⟨below_five_alloc (desk_under hd2) (by omega) (by omega) _ _ _ _ _ _, Or.inr ⟨Tm.zero, by rw [HEQ.out, optK_stop hlt HX2.out]; rfl, rfl, rfl⟩⟩
            · rw [if_neg hbig] at hstep
              rw [hstep] at CALL
              have hbig' : c ≤ 4611686018427387904 := by omega
              clear hstep
              go_wp2_with (go_at_call 82; refine (refbinds_any _ _ _).mono ?_; rintro e w' ⟨rfl, rfl⟩)
              refine CALL.out.mono ?_
              intro e w2 hg
              obtain ⟨⟨z, rfl⟩, hb2⟩ := hg.none
              have hd2 := desk_later hdk hb2
              have hs2 : w.heap.size + 1 < w2.heap.size := by have := desk_size hd2; omega
              obtain ⟨-, q1', -⟩ := desk_blocks hd2
              obtain ⟨z0, z1, z2, z3, z4⟩ := five_cells q1'
              obtain ⟨g0, g1, g2, g3, g4⟩ := five_free q1'
              clear hg hb2
              go_wp2
              (try simp only [Exit.inBlock, Exit.then])
              refine bodyPost_ret (results_cell_tmp rfl _ _ (w.heap.size + 1) _ _ _ du rfl (five_alloc q1' _ _ _ _ _ _) hu1 (by cases du <;> first | rfl | exact hu2) size_term) rfl ?_

              exact ⟨below_five_alloc (desk_under hd2) (by omega) (by omega) _ _ _ _ _ _, Or.inr ⟨Tm.zero, by rw [HEQ.out, optK_stop hlt HX2.out]; rfl, rfl, rfl⟩⟩
          | some u =>
            rw [hx2] at CALL
            have hfu := rlift_fine hk0 (HFI.out _ HM.out) hx2
            have HFU := Lib.hid hfu
            have HX2 := Lib.hid hx2
            clear hx2 hfu
            by_cases hbig : 4611686018427387904 < c
            · rw [if_pos hbig, Int.add_zero] at hstep
              rw [hstep] at CALL
              clear hstep
              go_wp2_with (go_at_call 82; refine (refbinds_any _ _ _).mono ?_; rintro e w' ⟨rfl, rfl⟩)
              refine CALL.out.mono ?_
              intro e w2 hg
              obtain ⟨⟨s2, rfl, hl2⟩, hb2⟩ := hg.some
              obtain ⟨a2, cap2, rfl, -, -⟩ := hl2.out
              have HL2 := Lib.hid hl2
              have HB2 := Lib.hid hb2
              clear hg hl2 hb2
              have hsB : wr.heap.size ≤ w2.heap.size := HB2.out.size
              go_wp2_with (at_builtin; refine wpList_append_lies _ rfl _ _ 23 rfl (w.heap.size + 3) 25 i0 _ 5 56 (by kernel_rfl) HI.out.1 HI.out.2.1 HI.out.2.2.1 HI.out.2.2.2 rfl (by decide) _ ps.length (cells5 ps) rfl (made_later (made_later (made_later HMD.out HB2.out) ((Below.refl _ _).alloc (Nat.le_refl _) _)) ((Below.refl _ _).alloc (Nat.le_refl _) _)).own ⟨w2.heap.size + 1, 0, none⟩ 1 1 (cells5 [(u, .slice a2 u.kids.length cap2)]) rfl rfl ?news ?one (by decide) ?max ?bytes ?base _ rfl ?next)
              case news => exact news_new2 _ _ _ _ _
              case one => intro v hv; simp [cells5] at hv; rcases hv with rfl | rfl | rfl | rfl | rfl <;> rfl
              case max => have := HPL.out; unfold maxLen; omega
              case bytes => have := HPL.out; omega
              case base => simp; omega
              case next =>
                intro g cap3 w3 hown hgrow hat _
                have hpb := push_after hdk HMD.out HFU.out HB2.out HL2.out _ _ hown hgrow hat
                clear hown hgrow hat
                go_wp2_with fail
                go_roundw
                case rel => exact ⟨q + 1, ps ++ [(u, .slice a2 u.kids.length cap2)], _, rfl, hlt, by go_num, by rw [Hid, optK_next hlt HPS.out HX2.out]; simp, hpb.1, hpb.2⟩
                case measure => simp [intOf]; omega
            · rw [if_neg hbig] at hstep
              rw [hstep] at CALL
              have hbig' : c ≤ 4611686018427387904 := by omega
              clear hstep
              go_wp2_with (go_at_call 82; refine (refbinds_any _ _ _).mono ?_; rintro e w' ⟨rfl, rfl⟩)
              refine CALL.out.mono ?_
              intro e w2 hg
              obtain ⟨⟨s2, rfl, hl2⟩, hb2⟩ := hg.some
              obtain ⟨a2, cap2, rfl, -, -⟩ := hl2.out
              have HL2 := Lib.hid hl2
              have HB2 := Lib.hid hb2
              clear hg hl2 hb2
              have hsB : wr.heap.size ≤ w2.heap.size := HB2.out.size
              go_wp2_with (at_builtin; refine wpList_append_lies _ rfl _ _ 23 rfl (w.heap.size + 3) 25 i0 _ 5 56 (by kernel_rfl) HI.out.1 HI.out.2.1 HI.out.2.2.1 HI.out.2.2.2 rfl (by decide) _ ps.length (cells5 ps) rfl (made_later (made_later (made_later HMD.out HB2.out) ((Below.refl _ _).alloc (Nat.le_refl _) _)) ((Below.refl _ _).alloc (Nat.le_refl _) _)).own ⟨w2.heap.size + 1, 0, none⟩ 1 1 (cells5 [(u, .slice a2 u.kids.length cap2)]) rfl rfl ?news ?one (by decide) ?max ?bytes ?base _ rfl ?next)
              case news => exact news_new2 _ _ _ _ _
              case one => intro v hv; simp [cells5] at hv; rcases hv with rfl | rfl | rfl | rfl | rfl <;> rfl
              case max => have := HPL.out; unfold maxLen; omega
              case bytes => have := HPL.out; omega
              case base => simp; omega
              case next =>
                intro g cap3 w3 hown hgrow hat _
                have hpb := push_after hdk HMD.out HFU.out HB2.out HL2.out _ _ hown hgrow hat
                clear hown hgrow hat
                go_wp2_with fail
                go_roundw
                case rel => exact ⟨q + 1, ps ++ [(u, .slice a2 u.kids.length cap2)], _, rfl, hlt, by go_num, by rw [Hid, optK_next hlt HPS.out HX2.out]; simp, hpb.1, hpb.2⟩
                case measure => simp [intOf]; omega
        · have : q = t.kids.length := by omega
          subst this
          have hd2 := desk_set (v' := vv) hdk
          have hres : t.rlift k c = some (.mk t.k t.i t.j t.n (ps.map (·.1))) := by
            have := HPS.out
            rw [List.take_length] at this
            rw [HEQ.out, this]; rfl
          obtain ⟨-, q1', -⟩ := desk_blocks hd2
          have hll := made_lies hmade
          obtain ⟨a2, cap2, rfl, -, -⟩ := hll.out
          simp only [List.length_map] at hd2 q1' hll
          go_wp2
          (try simp only [Exit.inBlock, Exit.then])
          refine bodyPost_ret (results_cell_tmp rfl _ _ (w.heap.size + 1) _ _ _ du rfl (five_set q1') hu1 (by cases du <;> first | rfl | exact hu2) size_term) rfl ?_
          exact ⟨below_five (desk_under hd2) (by omega) _ _ _ _ _, Or.inl ⟨_, _, hres, rfl, liesP_fives (liesP_set hll (by omega) (Nat.le_refl _) _) (by omega) (by omega) _ _ _ _ _⟩⟩

end Go.Proofs.YtgododpkbiaacaaGreat

namespace Go.Proofs.YtgododpkbiaacaaGreat
open Go.RowKit

set_option maxHeartbeats 2000000 in
theorem reflift_any (t : Tm) (k c : Int) (w : World) (s : Value) (hl : Lies w t.kids s) (hk : I64 k) (hci : I64 c) (hd : t.deep ≤ 100000) : Calls Tryz.prog 50 #[tv t s, .int .i64 k, .int .i64 c] w (Makes (t.liftB k c) w) := by
  obtain ⟨a, cap, S, rfl, hc, hm, -, -, -⟩ := hl.out
  have HL := Lib.hid hl
  obtain ⟨du, hu1, hu2⟩ := under_term
  have H0 := boxes_start w t (.slice a t.kids.length cap)
  clear hl
  unfold tv
  cases hr : t.rightB with
  | false =>
    have hres : t.liftB k c = Tm.zero := by unfold Tm.liftB; rw [if_pos (Or.inr (Or.inr hr))]
    go_enter Tryz.func50, Tryz.ntmps50
    go_wp2_with fail
    refine (refright_any t _ _ (boxes_lies H0 HL.out)).mono ?_
    rw [hr]
    rintro e w2 ⟨rfl, hb2⟩
    have H2 := boxes_call H0 hb2
    have hB2 := boxes_under H2
    obtain ⟨-, q1⟩ := boxes_two H2
    obtain ⟨d0, d1, d2, d3, d4⟩ := held_cells (boxes_held H2)
    obtain ⟨z0, z1, z2, z3, z4⟩ := five_cells q1
    obtain ⟨f0, f1, f2, f3, f4⟩ := five_free q1
    clear hb2
    go_wp2
    refine bodyPost_ret (results_cell_row rfl _ _ (w.heap.size + 1) _ _ _ du rfl (five_set q1) hu1 (by cases du <;> first | rfl | exact hu2) size_term) rfl ?_
    rw [hres]
    exact ⟨.slice none 0 0, rfl, liesP_nil _ _, below_five hB2 (by omega) _ _ _ _ _⟩
  | true =>
    by_cases hk0 : k < 0
    · have e1 : decide (k < 0) = true := by simpa using hk0
      have hres : t.liftB k c = Tm.zero := by unfold Tm.liftB; rw [if_pos (Or.inl hk0)]
      go_enter Tryz.func50, Tryz.ntmps50
      go_wp2_with fail
      refine (refright_any t _ _ (boxes_lies H0 HL.out)).mono ?_
      rw [hr]
      rintro e w2 ⟨rfl, hb2⟩
      have H2 := boxes_call H0 hb2
      have hB2 := boxes_under H2
      obtain ⟨-, q1⟩ := boxes_two H2
      obtain ⟨d0, d1, d2, d3, d4⟩ := held_cells (boxes_held H2)
      obtain ⟨z0, z1, z2, z3, z4⟩ := five_cells q1
      obtain ⟨f0, f1, f2, f3, f4⟩ := five_free q1
      clear hb2
      go_wp2
      refine bodyPost_ret (results_cell_row rfl _ _ (w.heap.size + 1) _ _ _ du rfl (five_set q1) hu1 (by cases du <;> first | rfl | exact hu2) size_term) rfl ?_
      rw [hres]
      exact ⟨.slice none 0 0, rfl, liesP_nil _ _, below_five hB2 (by omega) _ _ _ _ _⟩
    have e1 : decide (k < 0) = false := by simpa using hk0
    by_cases hc0 : c < 0
    · have e2 : decide (c < 0) = true := by simpa using hc0
      have hres : t.liftB k c = Tm.zero := by unfold Tm.liftB; rw [if_pos (Or.inr (Or.inl hc0))]
      go_enter Tryz.func50, Tryz.ntmps50
      go_wp2_with fail
      refine (refright_any t _ _ (boxes_lies H0 HL.out)).mono ?_
      rw [hr]
      rintro e w2 ⟨rfl, hb2⟩
      have H2 := boxes_call H0 hb2
      have hB2 := boxes_under H2
      obtain ⟨-, q1⟩ := boxes_two H2
      obtain ⟨d0, d1, d2, d3, d4⟩ := held_cells (boxes_held H2)
      obtain ⟨z0, z1, z2, z3, z4⟩ := five_cells q1
      obtain ⟨f0, f1, f2, f3, f4⟩ := five_free q1
      clear hb2
      go_wp2
      refine bodyPost_ret (results_cell_row rfl _ _ (w.heap.size + 1) _ _ _ du rfl (five_set q1) hu1 (by cases du <;> first | rfl | exact hu2) size_term) rfl ?_
      rw [hres]
      exact ⟨.slice none 0 0, rfl, liesP_nil _ _, below_five hB2 (by omega) _ _ _ _ _⟩
    have e2 : decide (c < 0) = false := by simpa using hc0
    have hlb : t.liftB k c = (t.rlift k c).getD .zero := by unfold Tm.liftB; rw [if_neg (by rw [hr]; simp; omega), rlift_lift t k c (by omega) (by omega) (by omega) hr]
    have HLB := Lib.hid hlb
    clear hlb
    go_enter Tryz.func50, Tryz.ntmps50
    go_wp2_with fail
    refine (refright_any t _ _ (boxes_lies H0 HL.out)).mono ?_
    rw [hr]
    rintro e w2 ⟨rfl, hb2⟩
    have H2 := boxes_call H0 hb2
    obtain ⟨-, q1⟩ := boxes_two H2
    obtain ⟨d0, d1, d2, d3, d4⟩ := held_cells (boxes_held H2)
    obtain ⟨z0, z1, z2, z3, z4⟩ := five_cells q1
    obtain ⟨f0, f1, f2, f3, f4⟩ := five_free q1
    clear hb2
    go_wp2_with fail
    refine (rlift_any k hk (by omega) t c w2 _ (boxes_lies H2 HL.out) hr (by omega) hci.2).mono ?_
    intro e w3 hg
    cases hx : t.rlift k c with
    | none =>
      rw [hx] at hg HLB
      obtain ⟨⟨z, rfl⟩, hb3⟩ := hg.none
      have H3 := boxes_call H2 hb3
      have hB3 := boxes_under H3
      have hs3 : w.heap.size + 1 < w3.heap.size := by have := Below.size H3; simp at this; omega
      obtain ⟨-, q3⟩ := boxes_two H3
      obtain ⟨z0, z1, z2, z3, z4⟩ := five_cells q3
      obtain ⟨f0, f1, f2, f3, f4⟩ := five_free q3
      clear hb3 hg q1
      go_wp2
      refine bodyPost_ret (results_cell_row rfl _ _ (w.heap.size + 1) _ _ _ du rfl (five_alloc q3 _ _ _ _ _ _) hu1 (by cases du <;> first | rfl | exact hu2) size_term) rfl ?_
      rw [HLB.out]
      exact ⟨.slice none 0 0, rfl, liesP_nil _ _, below_five_alloc hB3 hB3.size (by omega) _ _ _ _ _ _⟩
    | some u =>
      rw [hx] at hg HLB
      obtain ⟨⟨s2, rfl, hl2⟩, hb3⟩ := hg.some
      obtain ⟨a2, cap2, rfl, -, -⟩ := hl2.out
      have H3 := boxes_call H2 hb3
      have hB3 := boxes_under H3
      have hs3 : w.heap.size + 1 < w3.heap.size := by have := Below.size H3; simp at this; omega
      have hs2 : w.heap.size + 2 ≤ w2.heap.size := by have := Below.size H2; simpa using this
      obtain ⟨-, q3⟩ := boxes_two H3
      obtain ⟨z0, z1, z2, z3, z4⟩ := five_cells q3
      obtain ⟨f0, f1, f2, f3, f4⟩ := five_free q3
      clear hb3 hg q1
      go_wp2
      refine bodyPost_ret (results_cell_row rfl _ _ (w.heap.size + 1) _ _ _ du rfl (five_alloc q3 _ _ _ _ _ _) hu1 (by cases du <;> first | rfl | exact hu2) size_term) rfl ?_
      rw [HLB.out]
      exact ⟨.slice a2 u.kids.length cap2, rfl, liesP_fives_alloc hl2 (by omega) (by omega) _ _ _ _ _ _, below_five_alloc hB3 hB3.size (by omega) _ _ _ _ _ _⟩
end Go.Proofs.YtgododpkbiaacaaGreat

namespace Go.Proofs.YtgododpkbiaacaaGreat
open Go.RowKit

theorem results_c2 {P : Program} {fn : Func} {p q r : Tmp} {ty : TypeId} (h : fn.results = #[.cell p ty, .tmp q, .tmp r]) (tmps : Array Value) (w : World) (g : Nat) (t : TypeId) (cs : Array Value) (fr : Nat × Nat) (d : TypeDesc)
    (hp : tmps.getD p undef = .pointer (some ⟨g, 0, none⟩)) (hg : w.heap[g]? = some (.cells cs t fr))
    (hu : P.underlying ty = some d) (hd : (match d with | .struct _ | .array _ _ => true | _ => false) = true) (hi : (P.info? ty).map (·.size) = some cs.size) :
    (results fn tmps).run P w = .ok (.tuple #[.agg cs, tmps.getD q undef, tmps.getD r undef]) w := by
  have hp' : tmps[p]?.getD undef = .pointer (some ⟨g, 0, none⟩) := by simpa using hp
  simp [results, h, hp', asAddr, run_loadVar_row w g t ty cs fr d hg hu hd hi]

/-- What At tells: U of the level I, or nothing. -/
def AtIs (l : List En) (k : Int) (U : Tm) (I : Int) (B : Bool) : Prop :=
  (B = true ∧ ∃ (q : Nat) (hq : q < l.length), k = (q : Int) ∧ rightC l = true ∧ U = (l[l.length - 1 - q]).a.liftB ((q : Int) + 1) 0 ∧ I = (l[l.length - 1 - q]).i) ∨
  (B = false ∧ ¬ (0 ≤ k ∧ k < l.length ∧ rightC l = true) ∧ U = .zero ∧ I = 0)
def GivesC (U : Tm) (I : Int) (B : Bool) (w : World) (e : Ending) (w' : World) : Prop := ∃ s' : Value, e = .returned (.tuple #[tv U s', .int .i64 I, .bool B]) ∧ LiesP w' (Own w.heap.size w') U.kids s' ∧ Below w.heap.size w w'
theorem bn_drew {w w' : World} {g : Nat} {e : En} {s : Value} (h : Kept w w' ∧ BNode w' g e s) : Kept w w'.drew ∧ w'.drew.cell? ⟨g, 0, none⟩ = some (.int .i64 e.a.k) ∧ w'.drew.cell? ⟨g, 1, none⟩ = some (.int .i64 e.a.i) ∧ w'.drew.cell? ⟨g, 2, none⟩ = some (.int .i64 e.a.j) ∧ w'.drew.cell? ⟨g, 3, none⟩ = some (.int .i64 e.a.n) ∧ w'.drew.cell? ⟨g, 4, none⟩ = some (s) ∧ w'.drew.cell? ⟨g, 5, none⟩ = some (.int .i64 e.i) := ⟨kept_drew h.1, h.2⟩
theorem bn_call {w w' wn : World} {g : Nat} {e : En} {s : Value} (h : Kept w w' ∧ w'.cell? ⟨g, 0, none⟩ = some (.int .i64 e.a.k) ∧ w'.cell? ⟨g, 1, none⟩ = some (.int .i64 e.a.i) ∧ w'.cell? ⟨g, 2, none⟩ = some (.int .i64 e.a.j) ∧ w'.cell? ⟨g, 3, none⟩ = some (.int .i64 e.a.n) ∧ w'.cell? ⟨g, 4, none⟩ = some (s) ∧ w'.cell? ⟨g, 5, none⟩ = some (.int .i64 e.i)) (hb : Below w'.heap.size w' wn) : Kept w wn ∧ wn.cell? ⟨g, 0, none⟩ = some (.int .i64 e.a.k) ∧ wn.cell? ⟨g, 1, none⟩ = some (.int .i64 e.a.i) ∧ wn.cell? ⟨g, 2, none⟩ = some (.int .i64 e.a.j) ∧ wn.cell? ⟨g, 3, none⟩ = some (.int .i64 e.a.n) ∧ wn.cell? ⟨g, 4, none⟩ = some (s) ∧ wn.cell? ⟨g, 5, none⟩ = some (.int .i64 e.i) := ⟨kept_call h.1 hb, BNode.keep h.2 hb⟩
theorem bn_five {w w' : World} {g r : Nat} {e : En} {s : Value} (h : Kept w w' ∧ w'.cell? ⟨g, 0, none⟩ = some (.int .i64 e.a.k) ∧ w'.cell? ⟨g, 1, none⟩ = some (.int .i64 e.a.i) ∧ w'.cell? ⟨g, 2, none⟩ = some (.int .i64 e.a.j) ∧ w'.cell? ⟨g, 3, none⟩ = some (.int .i64 e.a.n) ∧ w'.cell? ⟨g, 4, none⟩ = some (s) ∧ w'.cell? ⟨g, 5, none⟩ = some (.int .i64 e.i)) (hr : w.heap.size ≤ r) (hne : g ≠ r) (v0 v1 v2 v3 v4 : Value) : Kept w (five w' r v0 v1 v2 v3 v4) ∧ (five w' r v0 v1 v2 v3 v4).cell? ⟨g, 0, none⟩ = some (.int .i64 e.a.k) ∧ (five w' r v0 v1 v2 v3 v4).cell? ⟨g, 1, none⟩ = some (.int .i64 e.a.i) ∧ (five w' r v0 v1 v2 v3 v4).cell? ⟨g, 2, none⟩ = some (.int .i64 e.a.j) ∧ (five w' r v0 v1 v2 v3 v4).cell? ⟨g, 3, none⟩ = some (.int .i64 e.a.n) ∧ (five w' r v0 v1 v2 v3 v4).cell? ⟨g, 4, none⟩ = some (s) ∧ (five w' r v0 v1 v2 v3 v4).cell? ⟨g, 5, none⟩ = some (.int .i64 e.i) := by
  have hc : ∀ q, (five w' r v0 v1 v2 v3 v4).cell? ⟨g, q, none⟩ = w'.cell? ⟨g, q, none⟩ := fun q => World.cell?_of_block (a := ⟨g, q, none⟩) (five_other _ _ _ _ _ _ _ hne)
  exact ⟨below_five h.1 hr _ _ _ _ _, (hc 0).trans h.2.1, (hc 1).trans h.2.2.1, (hc 2).trans h.2.2.2.1, (hc 3).trans h.2.2.2.2.1, (hc 4).trans h.2.2.2.2.2.1, (hc 5).trans h.2.2.2.2.2.2⟩

def kb0 : Oper := { dst := some 30, op := Go.Op.fieldAddr 45 (Go.Operand.tmp 7) 0, type := 0, pos := "ctx.go:38", after := #[], guard := none }
def kb1 : Oper := { dst := some 31, op := Go.Op.load 25 (Go.Operand.tmp 30), type := 25, pos := "ctx.go:38", after := #[{ on := 0, ground := Go.Ground.data }], guard := none }
def kb2 : Oper := { dst := some 32, op := Go.Op.move (Go.Operand.tmp 1), type := 3, pos := "ctx.go:38", after := #[], guard := none }
def kb3 : Oper := { dst := some 33, op := Go.Op.binOp Go.BinOp.add 3 (Go.Operand.tmp 32) (Go.Operand.const (Go.Value.int Go.IntKind.i64 1)) 3, type := 3, pos := "ctx.go:38", after := #[{ on := 2, ground := Go.Ground.data }], guard := none }
def kb4 : Oper := { dst := some 34, op := Go.Op.call { callee := Go.Callee.value (Go.Operand.func 50), args := #[Go.Operand.tmp 31, Go.Operand.tmp 33, Go.Operand.const (Go.Value.int Go.IntKind.i64 0)], argTypes := #[25, 3, 3] }, type := 25, pos := "ctx.go:38", after := #[{ on := 1, ground := Go.Ground.data }, { on := 3, ground := Go.Ground.data }], guard := none }
def kb5 : Oper := { dst := some 35, op := Go.Op.fieldAddr 45 (Go.Operand.tmp 7) 1, type := 0, pos := "ctx.go:38", after := #[{ on := 7, ground := Go.Ground.gcOnly Go.Departure.lateStores }], guard := none }
def kb6 : Oper := { dst := some 36, op := Go.Op.load 3 (Go.Operand.tmp 35), type := 3, pos := "ctx.go:38", after := #[{ on := 5, ground := Go.Ground.data }, { on := 7, ground := Go.Ground.gcOnly Go.Departure.lateStores }], guard := none }
def kb7 : Oper := { dst := none, op := Go.Op.store 25 (Go.Operand.tmp 4) (Go.Operand.tmp 34), type := 0, pos := "ctx.go:38", after := #[{ on := 4, ground := Go.Ground.data }, { on := 4, ground := Go.Ground.chain }, { on := 0, ground := Go.Ground.phase }, { on := 1, ground := Go.Ground.phase }, { on := 2, ground := Go.Ground.phase }, { on := 3, ground := Go.Ground.phase }, { on := 4, ground := Go.Ground.phase }, { on := 5, ground := Go.Ground.textOnly Go.Departure.lateStores }, { on := 6, ground := Go.Ground.textOnly Go.Departure.lateStores }], guard := none }
def kb8 : Oper := { dst := some 5, op := Go.Op.assign (Go.Operand.tmp 36), type := 3, pos := "ctx.go:38", after := #[{ on := 6, ground := Go.Ground.data }, { on := 7, ground := Go.Ground.chain }, { on := 0, ground := Go.Ground.phase }, { on := 1, ground := Go.Ground.phase }, { on := 2, ground := Go.Ground.phase }, { on := 3, ground := Go.Ground.phase }, { on := 4, ground := Go.Ground.phase }, { on := 5, ground := Go.Ground.phase }, { on := 6, ground := Go.Ground.phase }, { on := 7, ground := Go.Ground.phase }], guard := none }
def kb9 : Oper := { dst := some 6, op := Go.Op.assign (Go.Operand.const (Go.Value.bool true)), type := 4, pos := "ctx.go:38", after := #[{ on := 8, ground := Go.Ground.chain }, { on := 0, ground := Go.Ground.phase }, { on := 1, ground := Go.Ground.phase }, { on := 2, ground := Go.Ground.phase }, { on := 3, ground := Go.Ground.phase }, { on := 4, ground := Go.Ground.phase }, { on := 5, ground := Go.Ground.phase }, { on := 6, ground := Go.Ground.phase }, { on := 7, ground := Go.Ground.phase }, { on := 8, ground := Go.Ground.phase }], guard := none }
set_option maxRecDepth 20000 in
set_option maxHeartbeats 4000000 in
theorem refctxat_any (l : List En) (k : Int) (w : World) (s : Value) (U : Tm) (I : Int) (B : Bool) (hl : LiesE w l s) (hA : AtIs l k U I B) (hlen : l.length ≤ 100000) (hd : ∀ u ∈ l, u.a.deep ≤ 100000) : Calls Tryz.prog 24 #[s, .int .i64 k] w (GivesC U I B w) := by
  obtain ⟨a, cap, S, rfl, hc, hmx, hf, hn, hk⟩ := hl.out
  unfold maxLen at hmx
  obtain ⟨du, hu1, hu2⟩ := under_term
  have hb0 : Below w.heap.size w (w.alloc (.cells #[.int .i64 0, .int .i64 0, .int .i64 0, .int .i64 0, .slice none 0 0] 25)) := (Below.refl _ _).alloc (Nat.le_refl _) _
  have hz0 := alloc_new w (.cells #[.int .i64 0, .int .i64 0, .int .i64 0, .int .i64 0, .slice none 0 0] 25)
  have HLE := Lib.hid (hl.keep hb0)
  have HN := Lib.hid hn
  have HK := Lib.hid hk
  have HDA := Lib.hid hd
  clear hn hk hl hf hd
  rcases hA with ⟨rfl, q, hq, rfl, hr, hU, rfl⟩ | ⟨rfl, hno, rfl, rfl⟩
  · have e1 : decide ((q : Int) < 0) = false := decide_eq_false (by omega)
    have e2 : decide ((l.length : Int) ≤ (q : Int)) = false := decide_eq_false (by omega)
    have e3 : decide (l.length ≤ q) = false := decide_eq_false (by omega)
    have HR := Lib.hid hr
    have HU := Lib.hid hU.symm
    clear hr hU
    have hj : l.length - 1 - q < l.length := by omega
    obtain ⟨b, o, rfl, hx⟩ := HN.out (l.length - 1 - q) hj
    have hqq := HK.out (l.length - 1 - q) hj
    have HDP := Lib.hid (HDA.out _ (List.getElem_mem hj))
    obtain ⟨e, he⟩ : ∃ e, l[l.length - 1 - q] = e := ⟨_, rfl⟩
    rw [he] at hx hqq HU HDP ⊢
    obtain ⟨a', cap', S', hS, -⟩ := hqq.out
    rw [hS] at hx hqq
    have HX := Lib.hid hx
    have HQ := Lib.hid hqq
    have HIQ := Lib.hid (show I64 ((q : Int) + 1) by unfold I64; omega)
    have HI0 := Lib.hid (show I64 0 by unfold I64; omega)
    clear hx hqq hS he
    go_enter Tryz.func24, Tryz.ntmps24
    go_wp2_with fail
    refine (refctxright_any l _ _ HLE.out).mono ?_
    rw [HR.out]
    rintro ee w1 ⟨rfl, hb1⟩
    have hb01 := below_call hb0 hb1 hb0.size
    have hz1 := (hb1.block w.heap.size (block_lt hz0)).trans hz0
    have hsz1 : w.heap.size < w1.heap.size := block_lt hz1
    obtain ⟨x0, x1, x2, x3, x4, x5⟩ := HX.out.below hb01 HX.out.lt
    clear hb1 hb0 hz0
    go_upto_region 4 with fail
    have hX := bnode_new w1 e (.slice a' e.a.kids.length cap')
    have hkV : Kept w (w1.alloc (.cells #[.int .i64 e.a.k, .int .i64 e.a.i, .int .i64 e.a.j, .int .i64 e.a.n, (.slice a' e.a.kids.length cap'), .int .i64 e.i] 45)) := Below.alloc hb01 hb01.size _
    have hzV : (w1.alloc (.cells #[.int .i64 e.a.k, .int .i64 e.a.i, .int .i64 e.a.j, .int .i64 e.a.n, (.slice a' e.a.kids.length cap'), .int .i64 e.i] 45)).heap[w.heap.size]? = some (.cells #[.int .i64 0, .int .i64 0, .int .i64 0, .int .i64 0, .slice none 0 0] 25 (0, 0)) := by rw [Below.heap_alloc _ _ _ (by exact hsz1)]; exact hz1
    obtain ⟨g, hg⟩ : ∃ g, w1.heap.size = g := ⟨_, rfl⟩
    have HNE := Lib.hid (show g ≠ w.heap.size by omega)
    rw [hg] at hX ⊢
    clear x0 x1 x2 x3 x4 x5 hb01 hz1
    generalize w1.alloc (.cells #[.int .i64 e.a.k, .int .i64 e.a.i, .int .i64 e.a.j, .int .i64 e.a.n, (.slice a' e.a.kids.length cap'), .int .i64 e.i] 45) = V at hX hkV hzV ⊢
    have hS0 : Kept w V ∧ BNode V g e (.slice a' e.a.kids.length cap') := ⟨hkV, hX⟩
    have hzx : V.drew.heap[w.heap.size]? = some (.cells #[.int .i64 0, .int .i64 0, .int .i64 0, .int .i64 0, .slice none 0 0] 25 (0, 0)) := hzV
    obtain ⟨x0, x1, x2, x3, x4, x5⟩ := hX
    refine wp_region_held_drew (S := fun w' => Kept w w' ∧ w'.cell? ⟨g, 0, none⟩ = some (.int .i64 e.a.k) ∧ w'.cell? ⟨g, 1, none⟩ = some (.int .i64 e.a.i) ∧ w'.cell? ⟨g, 2, none⟩ = some (.int .i64 e.a.j) ∧ w'.cell? ⟨g, 3, none⟩ = some (.int .i64 e.a.n) ∧ w'.cell? ⟨g, 4, none⟩ = some ((.slice a' e.a.kids.length cap')) ∧ w'.cell? ⟨g, 5, none⟩ = some (.int .i64 e.i)) (by kernel_rfl) ?_ (fun hHeld => ?_)
    · (try dsimp only)
      (first | exact hS7 | exact hS4 | exact bn_drew hS0)
    generalize V.drew = wx at hHeld hzx ⊢
    have eW : IntKind.i64.wrap ((q : Int) + 1) = (q : Int) + 1 := IntWalk.i64_in _ (by omega)
    clear hzV hkV hS0 x0 x1 x2 x3 x4 x5
    refine take_at 0 30 kb0 (v := ?_) (Or.inl ⟨by rfl, ?_⟩) ?_
    rotate_left 1
    · ((intro w hSw; (try dsimp only at hSw); unfold kb0; go_simp) <;> with_reducible rfl)
    (try simp only [Act.put, List.setIfInBounds_toArray, List.set_cons_zero, List.set_cons_succ])
    refine take_at 1 31 kb1 (v := ?_) (Or.inl ⟨by rfl, ?_⟩) ?_
    rotate_left 1
    · ((intro w hSw; (try dsimp only at hSw); unfold kb1; go_simp) <;> with_reducible rfl)
    (try simp only [Act.put, List.setIfInBounds_toArray, List.set_cons_zero, List.set_cons_succ])
    refine take_at 2 32 kb2 (v := ?_) (Or.inl ⟨by rfl, ?_⟩) ?_
    rotate_left 1
    · ((intro w hSw; (try dsimp only at hSw); unfold kb2; go_simp) <;> with_reducible rfl)
    (try simp only [Act.put, List.setIfInBounds_toArray, List.set_cons_zero, List.set_cons_succ])
    refine take_at 3 33 kb3 (v := ?_) (Or.inl ⟨by rfl, ?_⟩) ?_
    rotate_left 1
    · ((intro w hSw; (try dsimp only at hSw); unfold kb3; go_simp) <;> with_reducible rfl)
    (try simp only [Act.put, List.setIfInBounds_toArray, List.set_cons_zero, List.set_cons_succ])
    refine take_at 5 35 kb5 (v := ?_) (Or.inl ⟨by rfl, ?_⟩) ?_
    rotate_left 1
    · ((intro w hSw; (try dsimp only at hSw); unfold kb5; go_simp) <;> with_reducible rfl)
    (try simp only [Act.put, List.setIfInBounds_toArray, List.set_cons_zero, List.set_cons_succ])
    refine take_at 6 36 kb6 (v := ?_) (Or.inl ⟨by rfl, ?_⟩) ?_
    rotate_left 1
    · ((intro w hSw; (try dsimp only at hSw); unfold kb6; go_simp) <;> with_reducible rfl)
    (try simp only [Act.put, List.setIfInBounds_toArray, List.set_cons_zero, List.set_cons_succ])
    refine wpAnyH_ready (rs := [4]) (by kernel_rfl) (by simp) ?_
    refine AllReadyH.cons (o := kb4) rfl (fun K hK => ?_) ?_
    · unfold kb4
      go_simp
      (go_at_call 50; (with_reducible refine Calls.mono (reflift_any e.a _ _ _ _ (kept_lies hHeld.1 HQ.out) HIQ.out HI0.out HDP.out) ?_); rw [HU.out]; rintro ee wn ⟨s2, rfl, hl2, hbn⟩; obtain ⟨a2, cap2, rfl, -, -⟩ := hl2.out; have hS4 := bn_call hHeld hbn; have HL2 := Lib.hid hl2; have hz := (hbn.block w.heap.size (block_lt hzx)).trans hzx; have hlt2 := block_lt hzx; clear hbn hl2 hHeld; obtain ⟨z0, z1, z2, z3, z4⟩ := five_cells hz; obtain ⟨r0, r1, r2, r3, r4⟩ := five_free hz)
      refine hK.out _ _ ?_ (fun hHeld => ?_)
      · (try dsimp only)
        (first | exact hS7 | exact hS4 | exact bn_drew hS0)
      clear hK K
      (try simp only [Act.put, List.setIfInBounds_toArray, List.set_cons_zero, List.set_cons_succ])
      refine wpAnyH_ready (rs := [7]) (by kernel_rfl) (by simp) ?_
      refine AllReadyH.cons (o := kb7) rfl (fun K hK => ?_) ?_
      · unfold kb7
        go_simp
        have hS7 := bn_five hHeld (Nat.le_refl _) HNE.out (.int .i64 U.k) (.int .i64 U.i) (.int .i64 U.j) (.int .i64 U.n) (.slice a2 U.kids.length cap2)
        (try clear hHeld)
        refine hK.out _ _ ?_ (fun hHeld => ?_)
        · (try dsimp only)
          (first | exact hS7 | exact hS4 | exact bn_drew hS0)
        clear hK K
        (try simp only [Act.put, List.setIfInBounds_toArray, List.set_cons_zero, List.set_cons_succ])
        refine take_at 8 5 kb8 (v := ?_) (Or.inl ⟨by rfl, ?_⟩) ?_
        rotate_left 1
        · ((intro w hSw; (try dsimp only at hSw); unfold kb8; go_simp) <;> with_reducible rfl)
        (try simp only [Act.put, List.setIfInBounds_toArray, List.set_cons_zero, List.set_cons_succ])
        refine take_at 9 6 kb9 (v := ?_) (Or.inl ⟨by rfl, ?_⟩) ?_
        rotate_left 1
        · ((intro w hSw; (try dsimp only at hSw); unfold kb9; go_simp) <;> with_reducible rfl)
        (try simp only [Act.put, List.setIfInBounds_toArray, List.set_cons_zero, List.set_cons_succ])
        refine wpAnyH_done (by kernel_rfl) ?_ _
        go_wp2_with fail
        refine bodyPost_ret (results_c2 rfl _ _ w.heap.size _ _ _ du rfl (five_set hz) hu1 (by cases du <;> first | rfl | exact hu2) size_term) rfl ?_
        exact ⟨_, rfl, liesP_fives HL2.out hlt2 (by omega) _ _ _ _ _, hHeld.1⟩
      exact AllReadyH.nil
    exact AllReadyH.nil
  · have H3 : Hid (GivesC .zero 0 false w (.returned (.tuple #[tv .zero (.slice none 0 0), .int .i64 0, .bool false])) (w.alloc (.cells #[.int .i64 0, .int .i64 0, .int .i64 0, .int .i64 0, .slice none 0 0] 25))) := ⟨_, rfl, liesP_nil _ _, hb0⟩
    by_cases h1 : k < 0
    · have e1 : decide (k < 0) = true := decide_eq_true h1
      go_enter Tryz.func24, Tryz.ntmps24
      go_wp2
      refine bodyPost_ret (results_c2 rfl _ _ w.heap.size _ _ _ du rfl hz0 hu1 (by cases du <;> first | rfl | exact hu2) size_term) rfl ?_
      exact H3
    have e1 : decide (k < 0) = false := decide_eq_false h1
    by_cases h2 : (l.length : Int) ≤ k
    · have e2 : decide ((l.length : Int) ≤ k) = true := decide_eq_true h2
      go_enter Tryz.func24, Tryz.ntmps24
      go_wp2
      refine bodyPost_ret (results_c2 rfl _ _ w.heap.size _ _ _ du rfl hz0 hu1 (by cases du <;> first | rfl | exact hu2) size_term) rfl ?_
      exact H3
    have e2 : decide ((l.length : Int) ≤ k) = false := decide_eq_false h2
    have HR : Hid (rightC l = false) := by
      show rightC l = false
      cases hr : rightC l with
      | false => rfl
      | true => exact absurd ⟨by omega, by omega, hr⟩ hno
    clear hno
    go_enter Tryz.func24, Tryz.ntmps24
    go_wp2_with fail
    refine (refctxright_any l _ _ HLE.out).mono ?_
    rw [HR.out]
    rintro ee w1 ⟨rfl, hb1⟩
    have hb01 := below_call hb0 hb1 hb0.size
    have hz1 := (hb1.block w.heap.size (block_lt hz0)).trans hz0
    have hsz1 : w.heap.size < w1.heap.size := block_lt hz1
    obtain ⟨z0, z1, z2, z3, z4⟩ := five_cells hz1
    obtain ⟨r0, r1, r2, r3, r4⟩ := five_free hz1
    clear hb1 hb0 hz0
    go_wp2
    refine bodyPost_ret (results_c2 rfl _ _ w.heap.size _ _ _ du rfl (five_set hz1) hu1 (by cases du <;> first | rfl | exact hu2) size_term) rfl ?_
    exact ⟨_, rfl, liesP_nil _ _, below_five hb01 (Nat.le_refl _) _ _ _ _ _⟩

end Go.Proofs.YtgododpkbiaacaaGreat

namespace Go.Proofs.YtgododpkbiaacaaGreat
open Go.RowKit

theorem put5_below {B : Nat} {w w1 : World} (h : Below B w w1) {g : Nat} (hg : B ≤ g) (o : Nat) (t : Tm) (s : Value) : Below B w (put5 w1 g o t s) := by
  unfold put5
  exact ((((h.setCell hg _).setCell hg _).setCell hg _).setCell hg _).setCell hg _
theorem open_free {w : World} {g : Nat} {cs : Array Value} {T : TypeId} (h : w.heap[g]? = some (.cells cs T (0, 0))) (o : Nat) :
    w.frozen? ⟨g, o, none⟩ = false ∧ w.frozen? ⟨g, o + 1, none⟩ = false ∧ w.frozen? ⟨g, o + 2, none⟩ = false ∧ w.frozen? ⟨g, o + 3, none⟩ = false ∧ w.frozen? ⟨g, o + 4, none⟩ = false ∧ w.frozen? ⟨g, o + 5, none⟩ = false :=
  ⟨open_unfrozen h _, open_unfrozen h _, open_unfrozen h _, open_unfrozen h _, open_unfrozen h _, open_unfrozen h _⟩
theorem take_set_map {α β : Type} (f : β → α) {xs : List β} {l : List α} {k : Nat} (hl : xs.length = l.length) (hk : k < l.length) (h : (xs.map f).take k = l.take k) {y : β} (hy : f y = l[k]) : ((xs.set k y).map f).take (k + 1) = l.take (k + 1) := by
  have hk1 : k < (xs.set k y).length := by simp; omega
  rw [List.take_succ_eq_append_getElem (by simpa using hk1), List.take_succ_eq_append_getElem hk]
  congr 1
  · rw [← h]; apply List.ext_getElem?; intro i
    by_cases hi : i < k
    · simp [List.getElem?_take_of_lt hi, List.getElem?_set_ne (Nat.ne_of_gt hi)]
    · simp [List.getElem?_take, hi]
  · simp [hy]
end Go.Proofs.YtgododpkbiaacaaGreat

namespace Go.Proofs.YtgododpkbiaacaaGreat
open Go.RowKit

set_option maxRecDepth 20000 in
set_option maxHeartbeats 4000000 in
theorem copies_of (l : List Tm) (ih : ∀ x ∈ l, ∀ (w : World) (s : Value), Lies w x.kids s → Calls Tryz.prog 29 #[tv x s] w (Makes x w))
    (w : World) (s : Value) (hl : Lies w l s) (hlen : l.length ≤ 1000000) : Calls Tryz.prog 58 #[s] w (MakesAll l w) := by
  obtain ⟨a, cap, S, rfl, hc, hmx, hf, hn, hk⟩ := hl.out
  unfold maxLen at hmx
  obtain ⟨i0, hi, hz0, hz1, hz2⟩ := info_parts info_term
  have IH := Lib.hid ih
  have HN := Lib.hid hn
  have HK := Lib.hid hk
  have HF := Lib.hid hf
  have HI := Lib.hid (And.intro hi (And.intro hz0 (And.intro hz1 hz2)))
  clear ih hn hk hl hf hi hz0 hz1 hz2
  by_cases h0 : l.length = 0
  · obtain rfl : l = [] := List.eq_nil_of_length_eq_zero h0
    go_enter Tryz.func58, Tryz.ntmps58
    go_wp2
    go_ret
    exact ⟨_, rfl, liesP_nil _ _, Below.refl _ _⟩
  have e1 : ((l.length : Int) == 0) = false := by simpa using h0
  have e2 : (l.length == 0) = false := by simpa using h0
  clear h0
  go_enter Tryz.func58, Tryz.ntmps58
  go_wp2_with (at_make; refine wpList_make_full _ rfl _ _ 23 rfl w.heap.size 25 i0 _ 5 (by kernel_rfl) HI.out.1 HI.out.2.1 HI.out.2.2.1 _ _ _ _ l.length rfl rfl rfl rfl ?bytes ?max ?base ?next)
  case bytes => rw [HI.out.2.2.2]; omega
  case max => unfold maxLen; omega
  case base => exact Nat.le_refl _
  case next =>
  intro w2 hown hgrow
  have hful := full_made hown
  have hbel : Below w.heap.size w w2 := (Below.refl _ _).grown hgrow (Nat.le_refl _) (by simp)
  obtain ⟨g, hg⟩ : ∃ g, w.heap.size = g := ⟨_, rfl⟩
  have HGE := Lib.hid (show w.heap.size ≤ g by omega)
  (try rw [hg] at hful)
  (try rw [hg])
  have hful' : Full w.heap.size w2 g (List.replicate l.length (Tm.zero, .slice none 0 0)) := by rw [hg]; exact hful
  clear hown hgrow hful e1 e2
  have hbel' : Below w.heap.size w w2 := hbel
  clear hbel
  have HG := Lib.hid hg
  clear hg
  go_wp2_with fail
  go_loopw [14] (fun iv wr => ∃ (k : Nat) (xs : List (Tm × Value)), k ≤ l.length ∧ iv = .int .i64 k ∧ Hid (xs.length = l.length) ∧ Hid ((xs.map (·.1)).take k = l.take k) ∧ Full w.heap.size wr g xs ∧ Below w.heap.size w wr) (fun iv _ => l.length - (intOf iv).toNat)
  case atStart => exact ⟨0, _, Nat.zero_le _, rfl, List.length_replicate, rfl, hful', hbel'⟩
  case round =>
    clear hful' hbel'
    obtain ⟨k, xs, hk, rfl, hxl, hxs, hfu, hb⟩ := hrel
    by_cases hlt : k < l.length
    · obtain ⟨b, o, rfl, hx⟩ := HN.out k hlt
      obtain ⟨x0, x1, x2, x3, x4⟩ := hx.below hb hx.lt
      have hq := (HK.out k hlt).keep hb
      obtain ⟨a', cap', S', hS, -⟩ := hq.out
      rw [hS] at x4 hq
      have HXK := Lib.hid (show k < xs.length by have := hxl.out; omega)
      have HM := Lib.hid (List.getElem_mem hlt)
      have hV : Below wr.heap.size wr (wr.alloc (.cells #[.int .i64 l[k].k, .int .i64 l[k].i, .int .i64 l[k].j, .int .i64 l[k].n, .slice a' l[k].kids.length cap'] 25)) := (Below.refl _ _).alloc (Nat.le_refl _) _
      have hqV := hq.keep hV
      have HFV := Lib.hid (hfu.later hV)
      have HKV := Lib.hid (below_call hb hV hb.size)
      have HW := Lib.hid hb.size
      clear hS hq hV hfu hb
      go_wp2_with fail
      refine (IH.out _ HM.out _ _ hqV).mono ?_
      generalize wr.alloc (.cells #[.int .i64 l[k].k, .int .i64 l[k].i, .int .i64 l[k].j, .int .i64 l[k].n, .slice a' l[k].kids.length cap'] 25) = V at HFV HKV hqV ⊢
      rintro ee wn ⟨s2, rfl, hl2, hbn⟩
      obtain ⟨a2, cap2, rfl, -, -⟩ := hl2.out
      have hfn := HFV.out.later hbn
      have HL2 := Lib.hid (HFV.out.fresh HKV.out.size hl2)
      have HKN := Lib.hid (below_call HKV.out hbn HKV.out.size)
      obtain ⟨z0, z1, z2, z3, z4⟩ := hfn.node k HXK.out
      obtain ⟨cs, hcs⟩ := hfn.open'
      obtain ⟨r0, r1, r2, r3, r4, -⟩ := open_free hcs (k * 5)
      have HFN := Lib.hid hfn
      clear hfn hcs hbn hl2 hqV x0 x1 x2 x3 x4
      go_wp2_with fail
      have hFN := HFN.out.fill (t := l[k]) HXK.out (HF.out _ HM.out) HL2.out
      have hkE := put5_below HKN.out HGE.out (k * 5) l[k] (.slice a2 l[k].kids.length cap2)
      clear z0 z1 z2 z3 z4 r0 r1 r2 r3 r4
      go_roundw
      case rel => exact ⟨k + 1, xs.set k (l[k], .slice a2 l[k].kids.length cap2), by omega, by go_num, by show _ = _; rw [List.length_set]; exact hxl.out, take_set_map _ hxl.out hlt hxs.out rfl, hFN, hkE⟩
      case measure => simp [intOf]; omega
    · obtain rfl : k = l.length := by omega
      have hxs' : xs.map (·.1) = l := by
        have h := hxs.out
        rw [List.take_of_length_le (by simp [hxl.out]), List.take_of_length_le (Nat.le_refl _)] at h
        exact h
      have hres := hfu.lies (cap := l.length) (by rw [hxl.out]; exact Nat.le_refl _) (by unfold maxLen; omega)
      rw [hxs', hxl.out] at hres
      go_wp2_with fail
      go_ret
      exact ⟨_, rfl, hres, hb⟩

set_option maxRecDepth 20000 in
set_option maxHeartbeats 4000000 in
theorem copy_any (t : Tm) : ∀ (w : World) (s : Value), Lies w t.kids s → t.size ≤ 1000000 → Calls Tryz.prog 29 #[tv t s] w (Makes t w) := by
  induction t using Tm.ind with
  | h t ih =>
    intro w s hl hsz
    obtain ⟨a, cap, S, rfl, hc, hm, hf, hn, hk⟩ := hl.out
    rw [t.size_eq] at hsz
    have CP : ∀ (w' : World) (s' : Value), Lies w' t.kids s' → Calls Tryz.prog 58 #[s'] w' (MakesAll t.kids w') := fun w' s' h' => copies_of t.kids (fun x hx w2 s2 h2 => ih x hx w2 s2 h2 (by have := size_mem _ x hx; omega)) w' s' h' (by have := len_sizes t.kids; omega)
    unfold tv
    unfold maxLen at hm
    obtain ⟨du, hu1, hu2⟩ := under_term
    have HL := Lib.hid hl
    replace CP := Lib.hid CP
    have H0 := boxes_start w t (.slice a t.kids.length cap)
    clear ih hn hk hf hl
    go_enter Tryz.func29, Tryz.ntmps29
    go_wp2_with fail
    refine (CP.out _ _ (boxes_lies H0 HL.out)).mono ?_
    generalize (w.alloc (.cells #[.int .i64 t.k, .int .i64 t.i, .int .i64 t.j, .int .i64 t.n, .slice a t.kids.length cap] 25)).alloc (.cells #[.int .i64 0, .int .i64 0, .int .i64 0, .int .i64 0, .slice none 0 0] 25) = V at H0 ⊢
    rintro ee wn ⟨s2, rfl, hl2, hb2⟩
    obtain ⟨a2, cap2, rfl, -, -⟩ := hl2.out
    have hs := Below.size H0
    have hh := boxes_call H0 hb2
    have hl3 : LiesP wn (Own (w.heap.size + 2) wn) t.kids (.slice a2 t.kids.length cap2) := hl2.from (by simpa using hs)
    have hbx := boxes_block hh
    have hbo : wn.heap[w.heap.size]? = some (boxOf t (.slice a t.kids.length cap)) := by
      rw [Below.block hh _ (by omega), Below.heap_alloc _ _ _ (by simp)]; exact alloc_new _ _
    obtain ⟨x0, x1, x2, x3, x4, z0, z1, z2, z3, z4, f0, f1, f2, f3, f4⟩ := boxes_cells hh
    obtain ⟨q0, q1, q2, q3, q4⟩ := five_free hbo
    have HL3 := Lib.hid hl3
    have HBX : Hid ((wn.setCell ⟨w.heap.size, 4, none⟩ (.slice a2 t.kids.length cap2)).heap[w.heap.size + 1]? = some (.cells #[.int .i64 0, .int .i64 0, .int .i64 0, .int .i64 0, .slice none 0 0] 25 (0, 0))) := (Below.heap_setCell _ _ _ _ (by show w.heap.size + 1 ≠ w.heap.size; omega)).trans hbx
    have HBL := Lib.hid (held_below (boxes_held hh))
    clear hl2 hb2 hl3 hbx hbo hh hs H0
    go_wp2
    refine bodyPost_ret (results_cell_row rfl _ _ (w.heap.size + 1) _ _ _ du rfl (five_set HBX.out) hu1 (by cases du <;> first | rfl | exact hu2) size_term) rfl ?_
    refine ⟨_, rfl, ?_, ?_⟩
    · exact liesP_fives (liesP_set HL3.out (by omega) (Nat.le_refl _) _) (by omega) (by omega) _ _ _ _ _
    · exact below_five (HBL.out.setCell (Nat.le_refl _) _) (by omega) _ _ _ _ _
end Go.Proofs.YtgododpkbiaacaaGreat

namespace Go.Proofs.YtgododpkbiaacaaGreat
open Go.RowKit

/-- What shape.Head hands back. -/
def Tm.headB (t : Tm) : Tm := if t.markedB = true then t.und else .zero
theorem Pair.call {w w1 w2 : World} {x : Tm} {s : Value} (h : Pair w x s w1) (hb : Below w1.heap.size w1 w2) : Pair w x s w2 :=
  have lt : ∀ {g : Nat} {o : Obj}, w1.heap[g]? = some o → g < w1.heap.size := fun h => (Array.getElem?_eq_some_iff.1 h).1
  ⟨below_call h.under hb h.under.size, (hb.block _ (lt h.box)).trans h.box, (hb.block _ (lt h.res)).trans h.res⟩
set_option maxRecDepth 20000 in
set_option maxHeartbeats 4000000 in
theorem head_any (t : Tm) (w : World) (s : Value) (hl : Lies w t.kids s) (hs : t.size ≤ 1000000) : Calls Tryz.prog 9 #[tv t s] w (Makes t.headB w) := by
  obtain ⟨du, hu1, hu2⟩ := under_term
  have hp0 := pair_start w t s
  obtain ⟨a0, cap0, S0, rfl, -⟩ := hl.out
  have HL := Lib.hid hl
  have HSZ0 := Lib.hid hs
  have HP0 := Lib.hid hp0
  clear hl hs hp0
  unfold tv
  go_enter Tryz.func9, Tryz.ntmps9
  cases hm : t.markedB with
  | false =>
    have HR := Lib.hid (show t.headB = Tm.zero by unfold Tm.headB; rw [if_neg (by rw [hm]; decide)])
    go_wp2_with fail
    refine (marked_any t _ _ (HL.out.keep HP0.out.under)).mono ?_
    rw [hm]
    rintro e w2 ⟨rfl, hb2⟩
    have HP2 := Lib.hid (HP0.out.call hb2)
    clear hb2
    obtain ⟨z0, z1, z2, z3, z4⟩ := five_cells HP2.out.res
    obtain ⟨f0, f1, f2, f3, f4⟩ := five_free HP2.out.res
    go_wp2
    refine bodyPost_ret (results_cell_row rfl _ _ (w.heap.size + 1) _ _ _ du rfl (five_set HP2.out.res) hu1 (by cases du <;> first | rfl | exact hu2) size_term) rfl ?_
    rw [HR.out]
    exact ⟨.slice none 0 0, rfl, liesP_nil _ _, below_five HP2.out.under (by omega) _ _ _ _ _⟩
  | true =>
    have HR := Lib.hid (show t.headB = t.und by unfold Tm.headB; rw [if_pos hm])
    have HM := Lib.hid hm
    go_wp2_with fail
    refine (marked_any t _ _ (HL.out.keep HP0.out.under)).mono ?_
    rw [hm]
    rintro e w2 ⟨rfl, hb2⟩
    have HP2 := Lib.hid (HP0.out.call hb2)
    clear hb2 hm
    obtain ⟨d0, d1, d2, d3, d4⟩ := five_cells HP2.out.box
    go_wp2_with fail
    go_loopg [] t.size (fun g wr => ∃ (x : Tm) (sx : Value), g = x.size ∧ Pair w x sx wr ∧ Lies w x.kids sx ∧ x.markedB = true ∧ Hid (x.und = t.und) ∧ Hid (x.size ≤ 1000000))
    case atStart => exact ⟨t, _, rfl, HP2.out, HL.out, HM.out, rfl, HSZ0.out⟩
    case round =>
      clear d0 d1 d2 d3 d4
      obtain ⟨x, sx, hg, hp, hlx, hmx, hux, hzx⟩ := hrel
      have HG := Lib.hid hg
      have HZX := Lib.hid hzx.out
      obtain ⟨ax, cx, Sx, rfl, hcx, hmaxx, -, hn, hkk⟩ := hlx.out
      have HLX := Lib.hid hlx
      unfold maxLen at hmaxx
      clear hlx hzx
      obtain ⟨d0, d1, d2, d3, d4⟩ := five_cells hp.box
      obtain ⟨e0, e1, e2, e3, e4⟩ := five_free hp.box
      by_cases hk : x.k = 12
      · have ek : (x.k == 12) = true := by simpa using hk
        obtain ⟨a, b, p, y, hkids, -, -, -, hy⟩ := marked_tr hmx hk
        have hund := und_tr hk hkids
        have hsz : y.size < x.size := by rw [x.size_eq, hkids]; simp only [sizes]; omega
        have h3 : 3 < x.kids.length := by rw [hkids]; show 3 < 4; omega
        have hy3 : x.kids[3] = y := by simp [hkids]
        obtain ⟨b', o, rfl, hx⟩ := hn 3 h3
        have hly := hkk 3 h3
        rw [hy3] at hx hly
        obtain ⟨ay, cy, Sy, hSy, -⟩ := hly.out
        rw [hSy] at hly hx
        obtain ⟨c0, c1, c2, c3, c4⟩ : Node _ b' (o + 15) y (.slice ay y.kids.length cy) := hx.below hp.under hx.lt
        have HY := Lib.hid (And.intro hly (And.intro hy (hund.symm.trans hux.out)))
        have HSZ := Lib.hid hsz
        have HP := Lib.hid hp
        clear hg hmx hund hk hkids hn hkk hly hSy hx hy hsz hux HLX hy3
        go_wp2
        go_roundg y.size
        case measure => rw [HG.out]; exact HSZ.out
        case rel => exact ⟨y, _, rfl, HP.out.put y _, HY.out.1, HY.out.2.1, HY.out.2.2, by have h1 := HZX.out; have h2 := HSZ.out; show _ ≤ _; omega⟩
      · have ek : (x.k == 12) = false := by simpa using hk
        have hxu : x = t.und := by rw [← hux.out, und_other hk]
        have HXU := Lib.hid hxu
        have HP := Lib.hid hp
        clear hg hux hxu hk hmx hn hkk hp
        go_wp2_with fail
        refine (copy_any x _ _ (HLX.out.keep HP.out.under) HZX.out).mono ?_
        rintro e w3 ⟨s3, rfl, hl3, hb3⟩
        obtain ⟨a3, cap3, rfl, -, -⟩ := hl3.out
        have HP3 := Lib.hid (HP.out.call hb3)
        have HL3 := Lib.hid hl3
        have hs3 := HP.out.under.size
        have hsr : w.heap.size + 1 < _ := (Array.getElem?_eq_some_iff.1 HP.out.res).1
        clear hb3 hl3 d0 d1 d2 d3 d4 e0 e1 e2 e3 e4
        obtain ⟨z0, z1, z2, z3, z4⟩ := five_cells HP3.out.res
        obtain ⟨f0, f1, f2, f3, f4⟩ := five_free HP3.out.res
        go_wp2
        refine bodyPost_ret (results_cell_row rfl _ _ (w.heap.size + 1) _ _ _ du rfl (five_set HP3.out.res) hu1 (by cases du <;> first | rfl | exact hu2) size_term) rfl ?_
        rw [HR.out, ← HXU.out]
        exact ⟨_, rfl, liesP_fives HL3.out (by omega) (by omega) _ _ _ _ _, below_five HP3.out.under (by omega) _ _ _ _ _⟩
end Go.Proofs.YtgododpkbiaacaaGreat

namespace Go.Proofs.YtgododpkbiaacaaGreat

abbrev varT (v : Int) : Tm := .mk 2 v 0 0 []
end Go.Proofs.YtgododpkbiaacaaGreat

namespace Go.Proofs.YtgododpkbiaacaaGreat

/-- An equality across types. -/
structure He where
  i : Int
  a : Tm
  b : Tm
  x : Tm
  y : Tm
  h : Tm
def He.zero : He := ⟨0, .zero, .zero, .zero, .zero, .zero⟩
def He.fine (h : He) : Prop := I64 h.i ∧ h.a.fine ∧ h.b.fine ∧ h.x.fine ∧ h.y.fine ∧ h.h.fine
/-- A family. -/
structure Fm where
  i : Int
  j : Int
  a : Tm
  c : Tm
  b : Tm
  d : Tm
  e : Tm
  f : Tm
def Fm.fine (g : Fm) : Prop := I64 g.i ∧ I64 g.j ∧ g.a.fine ∧ g.c.fine ∧ g.b.fine ∧ g.d.fine ∧ g.e.fine ∧ g.f.fine

/-- A level, with so many above it. -/
def levN (low i : Int) : Bool := decide (0 ≤ i) && decide (i ≤ 1000 - low)
theorem levN_true {low i : Int} (h : levN low i = true) : 0 ≤ i ∧ i ≤ 1000 - low := by unfold levN at h; simp at h; exact h
/-- All are plain. -/
def plainL (l : List Tm) : Bool := l.all Tm.plainB
theorem plainL_iff {l : List Tm} : plainL l = true ↔ ∀ x ∈ l, x.plainB = true := by unfold plainL; exact List.all_eq_true
def heR2 (i : Int) (l : List Tm) : Bool := levN 2 i && plainL l
def sortT (i : Int) : Tm := .mk 1 i 0 0 []
def nodeT (k : Int) (l : List Tm) : Tm := .mk k 0 0 0 l
def pointT (i : Int) (a x : Tm) : Tm := nodeT 17 [sortT i, varT 0, a, x]
def pointsT (i : Int) : Tm := nodeT 16 [sortT i, varT 0]
def pointB (i : Int) (a x : Tm) : Tm := if heR2 i [a, x] then pointT i a x else .zero
def pointsB (i : Int) : Tm := if heR2 i [] then pointsT i else .zero
def heSelf (i : Int) (a x : Tm) : He := if heR2 i [a, x] then ⟨i, a, a, x, x, nodeT 21 [pointsT i, pointT i a x]⟩ else .zero
theorem heR2_lev {i : Int} {l : List Tm} (h : heR2 i l = true) : levN 2 i = true := by unfold heR2 at h; simp only [Bool.and_eq_true] at h; exact h.1
theorem heR2_pl {i : Int} {l : List Tm} (h : heR2 i l = true) : ∀ x ∈ l, x.plainB = true := by unfold heR2 at h; simp only [Bool.and_eq_true] at h; exact plainL_iff.1 h.2
theorem sort_plain {i : Int} (h : levN 2 i = true) : (sortT i).plainB = true := by
  have := levN_true h
  rw [Tm.plainB_eq]; unfold sortT
  have hl : levelB i = true := by unfold levelB; simp; omega
  simp [Tm.nodeB, mk_k, mk_i, mk_j, mk_n, mk_kids, kidsN, numbersN, hl, plains]
theorem var0_plain : (varT 0).plainB = true := by rw [Tm.plainB_eq]; rfl
theorem points_plain {i : Int} (h : levN 2 i = true) : (pointsT i).plainB = true := by
  have e1 := sort_plain h
  have e2 := var0_plain
  rw [Tm.plainB_eq]; unfold pointsT nodeT
  simp [Tm.nodeB, mk_k, mk_i, mk_j, mk_n, mk_kids, kidsN, numbersN, plains, e1, e2]
theorem point_plain {i : Int} {a x : Tm} (h : levN 2 i = true) (ha : a.plainB = true) (hx : x.plainB = true) : (pointT i a x).plainB = true := by
  have e1 := sort_plain h
  have e2 := var0_plain
  rw [Tm.plainB_eq]; unfold pointT nodeT
  simp [Tm.nodeB, mk_k, mk_i, mk_j, mk_n, mk_kids, kidsN, numbersN, plains, e1, e2, ha, hx]
end Go.Proofs.YtgododpkbiaacaaGreat

namespace Go.Proofs.YtgododpkbiaacaaGreat
open Go.RowKit

/-- What was there is there, but for block g. -/
def Sees (V : World) (g : Nat) (w' : World) : Prop := ∀ k, k < V.heap.size → k ≠ g → w'.heap[k]? = V.heap[k]?
theorem sees_kept {V W : World} (g : Nat) (h : Kept V W) : Sees V g W := fun k hk _ => Below.block h k hk
theorem sees_of {V W w' : World} {g : Nat} (h : Kept V W) (hs : Sees W g w') : Sees V g w' := fun k hk hne => (hs k (Nat.lt_of_lt_of_le hk (Below.size h)) hne).trans (Below.block h k hk)
theorem extract_list {C vs : Array Value} {o : Nat} (h : (C.toList.drop o).take vs.size = vs.toList) : C.extract o (o + vs.size) = vs := by
  apply Array.toList_inj.1
  rw [← h, Array.toList_extract]
  simp
theorem kept_refl (w : World) : Kept w w := Below.refl _ _
theorem kept_trans {w w1 w2 : World} (h : Kept w w1) (h' : Kept w1 w2) : Kept w w2 := kept_call h h'
theorem kept_new (w : World) (o : Obj) : Kept w (w.alloc o) := (Below.refl _ _).alloc (Nat.le_refl _) _

/-- An equality across types by value. -/
abbrev hv (h : He) (sa sb sx sy sh : Value) : Value := .agg #[.int .i64 h.i, .int .i64 h.a.k, .int .i64 h.a.i, .int .i64 h.a.j, .int .i64 h.a.n, sa, .int .i64 h.b.k, .int .i64 h.b.i, .int .i64 h.b.j, .int .i64 h.b.n, sb, .int .i64 h.x.k, .int .i64 h.x.i, .int .i64 h.x.j, .int .i64 h.x.n, sx, .int .i64 h.y.k, .int .i64 h.y.i, .int .i64 h.y.j, .int .i64 h.y.n, sy, .int .i64 h.h.k, .int .i64 h.h.i, .int .i64 h.h.j, .int .i64 h.h.n, sh]
def HLies (w : World) (h : He) (sa sb sx sy sh : Value) : Prop := Lies w h.a.kids sa ∧ Lies w h.b.kids sb ∧ Lies w h.x.kids sx ∧ Lies w h.y.kids sy ∧ Lies w h.h.kids sh
theorem HLies.keep {w w' : World} {h : He} {sa sb sx sy sh : Value} (H : HLies w h sa sb sx sy sh) (hb : Kept w w') : HLies w' h sa sb sx sy sh := ⟨H.1.keep hb, H.2.1.keep hb, H.2.2.1.keep hb, H.2.2.2.1.keep hb, H.2.2.2.2.keep hb⟩
def FLies (w : World) (g : Fm) (sa sc sb sd se sf : Value) : Prop := Lies w g.a.kids sa ∧ Lies w g.c.kids sc ∧ Lies w g.b.kids sb ∧ Lies w g.d.kids sd ∧ Lies w g.e.kids se ∧ Lies w g.f.kids sf
theorem FLies.keep {w w' : World} {g : Fm} {sa sc sb sd se sf : Value} (H : FLies w g sa sc sb sd se sf) (hb : Kept w w') : FLies w' g sa sc sb sd se sf := ⟨H.1.keep hb, H.2.1.keep hb, H.2.2.1.keep hb, H.2.2.2.1.keep hb, H.2.2.2.2.1.keep hb, H.2.2.2.2.2.keep hb⟩

/-- A term is handed back that lies there; nothing else has turned. -/
def GivesO (u : Tm) (w : World) (e : Ending) (w' : World) : Prop := ∃ s' : Value, e = .returned (tv u s') ∧ Lies w' u.kids s' ∧ Kept w w'
theorem Makes.gives {u : Tm} {w w' : World} {e : Ending} (h : Makes u w e w') : GivesO u w e w' := by obtain ⟨s', h1, h2, h3⟩ := h; exact ⟨s', h1, h2.lies, h3⟩
end Go.Proofs.YtgododpkbiaacaaGreat

namespace Go.Proofs.YtgododpkbiaacaaGreat
open Go.RowKit

/-- Terms behind a slice, at whatever place of blocks of which P speaks. -/
inductive LiesQ (w : World) (P : Nat → Prop) : List Tm → Value → Prop
  | mk (l : List Tm) (a : Option Addr) (cap : Nat) (S : Nat → Value) (hc : l.length ≤ cap) (hm : cap ≤ maxLen) (hf : ∀ x ∈ l, x.fine)
      (hn : ∀ i (h : i < l.length), ∃ b o, a = some ⟨b, o, none⟩ ∧ P b ∧ Node w b (o + i * 5) l[i] (S i)) (hk : ∀ i (h : i < l.length), LiesQ w P (l[i]).kids (S i)) : LiesQ w P l (.slice a l.length cap)

theorem LiesQ.lies {w : World} {P : Nat → Prop} {l : List Tm} {s : Value} (h : LiesQ w P l s) : Lies w l s := by
  induction h with
  | mk l a cap S hc hm hf hn hk ih => exact .mk l a cap S hc hm hf (fun i hi => by obtain ⟨b, o, ha, _, hx⟩ := hn i hi; exact ⟨b, o, ha, hx⟩) ih
theorem Lies.q {w : World} {l : List Tm} {s : Value} (h : Lies w l s) : LiesQ w (fun b => b < w.heap.size) l s := by
  induction h with
  | mk l a cap S hc hm hf hn hk ih => exact .mk l a cap S hc hm hf (fun i hi => by obtain ⟨b, o, ha, hx⟩ := hn i hi; exact ⟨b, o, ha, hx.lt, hx⟩) ih
theorem LiesQ.keep {w w' : World} {P Q : Nat → Prop} {l : List Tm} {s : Value} (h : LiesQ w P l s) (hb : ∀ b, P b → b < w.heap.size → w'.heap[b]? = w.heap[b]?) (hq : ∀ b, P b → b < w.heap.size → Q b) : LiesQ w' Q l s := by
  induction h with
  | mk l a cap S hc hm hf hn hk ih =>
    exact .mk l a cap S hc hm hf (fun i hi => by obtain ⟨b, o, ha, hp, hx⟩ := hn i hi; exact ⟨b, o, ha, hq b hp hx.lt, hx.same (hb b hp hx.lt)⟩) ih
theorem LiesQ.later {w w' : World} {P : Nat → Prop} {l : List Tm} {s : Value} (h : LiesQ w P l s) (hb : Below w.heap.size w w') : LiesQ w' P l s := h.keep (fun b _ hlt => hb.block b hlt) (fun _ hp _ => hp)
theorem LiesQ.wide {w : World} {P Q : Nat → Prop} {l : List Tm} {s : Value} (h : LiesQ w P l s) (hq : ∀ b, P b → Q b) : LiesQ w Q l s := h.keep (fun _ _ _ => rfl) (fun b hp _ => hq b hp)
theorem LiesQ.out {w : World} {P : Nat → Prop} {l : List Tm} {s : Value} (h : LiesQ w P l s) : ∃ (a : Option Addr) (cap : Nat) (S : Nat → Value), s = .slice a l.length cap ∧ l.length ≤ cap ∧ cap ≤ maxLen ∧ (∀ x ∈ l, x.fine) ∧
    (∀ i (h : i < l.length), ∃ b o, a = some ⟨b, o, none⟩ ∧ P b ∧ Node w b (o + i * 5) l[i] (S i)) ∧ (∀ i (h : i < l.length), LiesQ w P (l[i]).kids (S i)) := by
  cases h with
  | mk l a cap S hc hm hf hn hk => exact ⟨a, cap, S, rfl, hc, hm, hf, hn, hk⟩
theorem liesQ_nil (w : World) (P : Nat → Prop) : LiesQ w P [] (.slice none 0 0) := .mk [] none 0 (fun _ => .nilIface) (Nat.le_refl _) (by decide) (fun _ h => by cases h) (fun _ h => by cases h) (fun _ h => by cases h)

/-- What lies in a call's own memory. -/
theorem LiesP.q {w : World} {P : Nat → Prop} {l : List Tm} {s : Value} (h : LiesP w P l s) : LiesQ w P l s := by
  induction h with
  | mk l a cap S hc hm hf hn hk ih => exact .mk l a cap S hc hm hf (fun i hi => by obtain ⟨b, ha, hp, hx⟩ := hn i hi; exact ⟨b, 0, ha, hp, by rw [Nat.zero_add]; exact hx⟩) ih

/-- Blocks that were there before E, or that are new since N. -/
def Far (E N b : Nat) : Prop := b < E ∨ N ≤ b
structure MadeQ (E N B : Nat) (w : World) (v : Value) (ps : List (Tm × Value)) : Prop where
  own : w.ownsRow B 25 5 v ps.length (cells5 ps)
  fine : ∀ p ∈ ps, p.1.fine
  kids : ∀ p ∈ ps, LiesQ w (fun b => Far E N b ∧ v.ownBlock ≠ some b) p.1.kids p.2
end Go.Proofs.YtgododpkbiaacaaGreat

namespace Go.Proofs.YtgododpkbiaacaaGreat
open Go.RowKit

/-- A judgment. -/
structure Jd where
  eq : Bool
  u : Tm
  v : Tm
  a : Tm
  i : Int
def Jd.fine (j : Jd) : Prop := j.u.fine ∧ j.v.fine ∧ j.a.fine ∧ I64 j.i
/-- Its three lists lie there. -/
def JLies (w : World) (j : Jd) (su sv sa : Value) : Prop := Lies w j.u.kids su ∧ Lies w j.v.kids sv ∧ Lies w j.a.kids sa
theorem JLies.keep {w w' : World} {j : Jd} {su sv sa : Value} (h : JLies w j su sv sa) (hb : Below w.heap.size w w') : JLies w' j su sv sa := ⟨h.1.keep hb, h.2.1.keep hb, h.2.2.keep hb⟩
/-- Its cells, at the head of a block. -/
def JBox (w : World) (b : Nat) (j : Jd) (su sv sa : Value) : Prop := w.cell? ⟨b, 0, none⟩ = some (.bool j.eq) ∧ w.cell? ⟨b, 1, none⟩ = some (.int .i64 j.u.k) ∧ w.cell? ⟨b, 2, none⟩ = some (.int .i64 j.u.i) ∧ w.cell? ⟨b, 3, none⟩ = some (.int .i64 j.u.j) ∧ w.cell? ⟨b, 4, none⟩ = some (.int .i64 j.u.n) ∧ w.cell? ⟨b, 5, none⟩ = some (su) ∧ w.cell? ⟨b, 6, none⟩ = some (.int .i64 j.v.k) ∧ w.cell? ⟨b, 7, none⟩ = some (.int .i64 j.v.i) ∧ w.cell? ⟨b, 8, none⟩ = some (.int .i64 j.v.j) ∧ w.cell? ⟨b, 9, none⟩ = some (.int .i64 j.v.n) ∧ w.cell? ⟨b, 10, none⟩ = some (sv) ∧ w.cell? ⟨b, 11, none⟩ = some (.int .i64 j.a.k) ∧ w.cell? ⟨b, 12, none⟩ = some (.int .i64 j.a.i) ∧ w.cell? ⟨b, 13, none⟩ = some (.int .i64 j.a.j) ∧ w.cell? ⟨b, 14, none⟩ = some (.int .i64 j.a.n) ∧ w.cell? ⟨b, 15, none⟩ = some (sa) ∧ w.cell? ⟨b, 16, none⟩ = some (.int .i64 j.i)
/-- Its cells, at a place. -/
def JNode (w : World) (b o : Nat) (j : Jd) (su sv sa : Value) : Prop := w.cell? ⟨b, o, none⟩ = some (.bool j.eq) ∧ w.cell? ⟨b, o + 1, none⟩ = some (.int .i64 j.u.k) ∧ w.cell? ⟨b, o + 2, none⟩ = some (.int .i64 j.u.i) ∧ w.cell? ⟨b, o + 3, none⟩ = some (.int .i64 j.u.j) ∧ w.cell? ⟨b, o + 4, none⟩ = some (.int .i64 j.u.n) ∧ w.cell? ⟨b, o + 5, none⟩ = some (su) ∧ w.cell? ⟨b, o + 6, none⟩ = some (.int .i64 j.v.k) ∧ w.cell? ⟨b, o + 7, none⟩ = some (.int .i64 j.v.i) ∧ w.cell? ⟨b, o + 8, none⟩ = some (.int .i64 j.v.j) ∧ w.cell? ⟨b, o + 9, none⟩ = some (.int .i64 j.v.n) ∧ w.cell? ⟨b, o + 10, none⟩ = some (sv) ∧ w.cell? ⟨b, o + 11, none⟩ = some (.int .i64 j.a.k) ∧ w.cell? ⟨b, o + 12, none⟩ = some (.int .i64 j.a.i) ∧ w.cell? ⟨b, o + 13, none⟩ = some (.int .i64 j.a.j) ∧ w.cell? ⟨b, o + 14, none⟩ = some (.int .i64 j.a.n) ∧ w.cell? ⟨b, o + 15, none⟩ = some (sa) ∧ w.cell? ⟨b, o + 16, none⟩ = some (.int .i64 j.i)
theorem JBox.keep {w w' : World} {b : Nat} {j : Jd} {su sv sa : Value} (h : JBox w b j su sv sa) (hb : Below w.heap.size w w') : JBox w' b j su sv sa := by
  obtain ⟨x0, x1, x2, x3, x4, x5, x6, x7, x8, x9, x10, x11, x12, x13, x14, x15, x16⟩ := h
  exact ⟨cell_lat hb x0, cell_lat hb x1, cell_lat hb x2, cell_lat hb x3, cell_lat hb x4, cell_lat hb x5, cell_lat hb x6, cell_lat hb x7, cell_lat hb x8, cell_lat hb x9, cell_lat hb x10, cell_lat hb x11, cell_lat hb x12, cell_lat hb x13, cell_lat hb x14, cell_lat hb x15, cell_lat hb x16⟩
theorem JNode.keep {w w' : World} {b o : Nat} {j : Jd} {su sv sa : Value} (h : JNode w b o j su sv sa) (hb : Below w.heap.size w w') : JNode w' b o j su sv sa := by
  obtain ⟨x0, x1, x2, x3, x4, x5, x6, x7, x8, x9, x10, x11, x12, x13, x14, x15, x16⟩ := h
  exact ⟨cell_lat hb x0, cell_lat hb x1, cell_lat hb x2, cell_lat hb x3, cell_lat hb x4, cell_lat hb x5, cell_lat hb x6, cell_lat hb x7, cell_lat hb x8, cell_lat hb x9, cell_lat hb x10, cell_lat hb x11, cell_lat hb x12, cell_lat hb x13, cell_lat hb x14, cell_lat hb x15, cell_lat hb x16⟩
theorem JNode.lt {w : World} {b o : Nat} {j : Jd} {su sv sa : Value} (h : JNode w b o j su sv sa) : b < w.heap.size := World.block_lt_of_cell? _ _ h.1
theorem JNode.same {w w' : World} {b o : Nat} {j : Jd} {su sv sa : Value} (h : JNode w b o j su sv sa) (hb : w'.heap[b]? = w.heap[b]?) : JNode w' b o j su sv sa := by
  have hc : ∀ q, w'.cell? ⟨b, q, none⟩ = w.cell? ⟨b, q, none⟩ := fun q => World.cell?_of_block (a := ⟨b, q, none⟩) hb
  obtain ⟨x0, x1, x2, x3, x4, x5, x6, x7, x8, x9, x10, x11, x12, x13, x14, x15, x16⟩ := h
  exact ⟨(hc _).trans x0, (hc _).trans x1, (hc _).trans x2, (hc _).trans x3, (hc _).trans x4, (hc _).trans x5, (hc _).trans x6, (hc _).trans x7, (hc _).trans x8, (hc _).trans x9, (hc _).trans x10, (hc _).trans x11, (hc _).trans x12, (hc _).trans x13, (hc _).trans x14, (hc _).trans x15, (hc _).trans x16⟩

end Go.Proofs.YtgododpkbiaacaaGreat

namespace Go.Proofs.YtgododpkbiaacaaGreat
open Go.RowKit

/-- A term is handed back: its lists lie in blocks of P or in new ones. -/
def GivesP (P : Nat → Prop) (u : Tm) (w : World) (e : Ending) (w' : World) : Prop := ∃ s' : Value, e = .returned (tv u s') ∧ LiesQ w' (fun b => P b ∨ w.heap.size ≤ b) u.kids s' ∧ Kept w w'
theorem Makes.givesP {P : Nat → Prop} {u : Tm} {w w' : World} {e : Ending} (h : Makes u w e w') : GivesP P u w e w' := by
  obtain ⟨s', h1, h2, h3⟩ := h
  exact ⟨s', h1, h2.q.wide (fun _ hb => Or.inr hb.1), h3⟩
/-- A list is handed back. -/
def GivesLP (P : Nat → Prop) (l : List Tm) (w : World) (e : Ending) (w' : World) : Prop := ∃ s' : Value, e = .returned s' ∧ LiesQ w' (fun b => P b ∨ w.heap.size ≤ b) l s' ∧ Kept w w'
theorem MakesAll.givesP {P : Nat → Prop} {l : List Tm} {w w' : World} {e : Ending} (h : MakesAll l w e w') : GivesLP P l w e w' := by
  obtain ⟨s', h1, h2, h3⟩ := h
  exact ⟨s', h1, h2.q.wide (fun _ hb => Or.inr hb.1), h3⟩
/-- Blocks of P that were there at w, and those from n on but for X (the body's own variables). -/
def Par (w : World) (n : Nat) (X : List Nat) (P : Nat → Prop) (b : Nat) : Prop := (P b ∧ b < w.heap.size) ∨ (n ≤ b ∧ b ∉ X)
def XLt (X : List Nat) (V : World) : Prop := ∀ x ∈ X, x < V.heap.size
theorem xlt_nil (V : World) : XLt [] V := fun _ h => by cases h
theorem xlt_later {X : List Nat} {V W : World} (h : XLt X V) (hk : Kept V W) : XLt X W := fun x hx => Nat.lt_of_lt_of_le (h x hx) (Below.size hk)
theorem xlt_more {X : List Nat} {V W : World} (h : XLt X V) (hk : Kept V W) (hs : V.heap.size < W.heap.size) : XLt (V.heap.size :: X) W := fun x hx => by
  rcases List.mem_cons.1 hx with rfl | hx
  · exact hs
  · exact Nat.lt_of_lt_of_le (h x hx) (Below.size hk)
theorem xlt_set {X : List Nat} {V W : World} {g : Nat} {cs : Array Value} (h : XLt X V) (hw : V.setRow g cs = W) : XLt X W := fun x hx => by rw [← hw, setRow_size]; exact h x hx
theorem par_in {w : World} {P : Nat → Prop} {l : List Tm} {s : Value} (n : Nat) (X : List Nat) (h : LiesQ w P l s) : LiesQ w (Par w n X P) l s := h.keep (fun _ _ _ => rfl) (fun _ hp hlt => Or.inl ⟨hp, hlt⟩)
theorem par_give {w V w' : World} {n : Nat} {X : List Nat} {P : Nat → Prop} {l : List Tm} {s : Value} (h : LiesQ w' (fun b => Par w n X P b ∨ V.heap.size ≤ b) l s) (hn : n ≤ V.heap.size) (hX : XLt X V) : LiesQ w' (Par w n X P) l s :=
  h.wide (fun b hb => hb.elim id (fun h => Or.inr ⟨Nat.le_trans hn h, fun hx => by have := hX b hx; omega⟩))
theorem par_new {w V : World} {n : Nat} {X : List Nat} {P : Nat → Prop} {g : Nat} (hn : n ≤ V.heap.size) (hX : XLt X V) (hg : V.heap.size ≤ g) : Par w n X P g := Or.inr ⟨Nat.le_trans hn hg, fun hx => by have := hX g hx; omega⟩
/-- A variable of the body's own more. -/
theorem par_more {w V : World} {n : Nat} {X : List Nat} {P : Nat → Prop} {l : List Tm} {s : Value} (h : LiesQ V (Par w n X P) l s) : LiesQ V (Par w n (V.heap.size :: X) P) l s :=
  h.keep (fun _ _ _ => rfl) (fun b hb hlt => hb.imp id (fun hb => ⟨hb.1, fun hx => by rcases List.mem_cons.1 hx with rfl | hx; exact absurd hlt (Nat.lt_irrefl _); exact hb.2 hx⟩))
/-- Such a variable is stored. -/
theorem par_set {w V W : World} {n g : Nat} {X : List Nat} {P : Nat → Prop} {l : List Tm} {s : Value} {cs : Array Value} (h : LiesQ V (Par w n X P) l s) (hw : V.setRow g cs = W) (hg : g ∈ X) (hn : w.heap.size ≤ g) : LiesQ W (Par w n X P) l s := by
  subst hw
  exact h.keep (fun b hb _ => setRow_other _ _ _ _ (by rintro rfl; rcases hb with ⟨-, hb⟩ | hb; omega; exact hb.2 hg)) (fun _ hb _ => hb)
/-- A block of the body's beginning is stored. -/
theorem par_row' {w V W : World} {n g : Nat} {X : List Nat} {P : Nat → Prop} {l : List Tm} {s : Value} {cs : Array Value} (h : LiesQ V (Par w n X P) l s) (hw : V.setRow g cs = W) (hg : w.heap.size ≤ g) (hg2 : g < n) : LiesQ W (Par w n X P) l s := by
  subst hw
  exact h.keep (fun b hb _ => setRow_other _ _ _ _ (by rcases hb with ⟨-, hb⟩ | hb <;> omega)) (fun _ hb _ => hb)
theorem par_end {w V : World} {n : Nat} {X : List Nat} {P : Nat → Prop} {l : List Tm} {s : Value} (h : LiesQ V (Par w n X P) l s) (hn : w.heap.size ≤ n) : LiesQ V (fun b => P b ∨ w.heap.size ≤ b) l s :=
  h.wide (fun _ hb => hb.elim (fun h => Or.inl h.1) (fun h => Or.inr (Nat.le_trans hn h.1)))
theorem kept_set {b V W : World} {g : Nat} {cs : Array Value} (h : Kept b V) (hw : V.setRow g cs = W) (hg : b.heap.size ≤ g) : Kept b W := by subst hw; exact below_setRow h hg _
theorem sees_set {V W W' : World} {g : Nat} {cs : Array Value} (h : Kept V W) (hw : W.setRow g cs = W') : Sees V g W' := by
  subst hw
  exact fun k hk hne => (setRow_other _ _ _ _ hne).trans (Below.block h k hk)
theorem peel {V W : World} {a b : Obj} (h : (V.alloc a).alloc b = W) : ∃ U, V.alloc a = U ∧ U.alloc b = W := ⟨_, rfl, h⟩
theorem blk_same {V W : World} {g : Nat} {old cs : Array Value} {T : TypeId} {fr : Nat × Nat} (h : V.heap[g]? = some (.cells old T fr)) (hw : V.setRow g cs = W) : W.heap[g]? = some (.cells cs T fr) := by subst hw; exact setRow_heap _ _ _ _ _ _ h
theorem blk_other {V W : World} {g k : Nat} {cs : Array Value} {o : Obj} (h : V.heap[k]? = some o) (hw : V.setRow g cs = W) (hne : k ≠ g) : W.heap[k]? = some o := by subst hw; rw [setRow_other _ _ _ _ hne]; exact h
/-- Terms in a row, in a block of Q. -/
theorem q_row {V : World} {Q : Nat → Prop} {g : Nat} {T : TypeId} {fr : Nat × Nat} (ps : List (Tm × Value)) (C : Array Value) (hC : cells5 ps = C.toList) (h : V.heap[g]? = some (.cells C T fr)) (hQ : Q g) (hp : ∀ p ∈ ps, p.1.fine ∧ LiesQ V Q p.1.kids p.2) (hm : ps.length ≤ 1000) :
    LiesQ V Q (ps.map (·.1)) (.slice (some ⟨g, 0, none⟩) ps.length ps.length) := by
  have := LiesQ.mk (w := V) (P := Q) (ps.map (·.1)) (some ⟨g, 0, none⟩) ps.length (fun i => (ps[i]?.map (·.2)).getD (.slice none 0 0)) (by simp) (by unfold maxLen; omega) (fun x hx => by obtain ⟨p, hq, rfl⟩ := List.mem_map.1 hx; exact (hp p hq).1)
    (fun i hi => by
      have hi' : i < ps.length := by simpa using hi
      refine ⟨g, 0, rfl, hQ, ?_⟩
      simp only [List.getElem_map, List.getElem?_eq_getElem hi', Option.map_some, Option.getD_some, Nat.zero_add]
      have cellq : ∀ q, q < 5 → V.cell? ⟨g, i * 5 + q, none⟩ = [Value.int .i64 (ps[i]).1.k, .int .i64 (ps[i]).1.i, .int .i64 (ps[i]).1.j, .int .i64 (ps[i]).1.n, (ps[i]).2][q]? := fun q hq => by
        rw [cell_of_row V g _ C T fr h, ← Array.getElem?_toList, ← hC]; exact cells5_get ps i hi' q hq
      exact ⟨cellq 0 (by omega), cellq 1 (by omega), cellq 2 (by omega), cellq 3 (by omega), cellq 4 (by omega)⟩)
    (fun i hi => by
      have hi' : i < ps.length := by simpa using hi
      simp only [List.getElem_map, List.getElem?_eq_getElem hi', Option.map_some, Option.getD_some]
      exact (hp _ (List.getElem_mem hi')).2)
  simpa using this
theorem mk_fine {k i j n : Int} {l : List Tm} (hk : I64 k) (hi : I64 i) (hj : I64 j) (hn : I64 n) : (Tm.mk k i j n l).fine := ⟨hk, hi, hj, hn⟩
theorem at_world {P : Program} {f : FuncId} {args : Array Value} {V : World} {K : Ending → World → Prop} (h : ∀ W, V = W → Calls P f args W K) : Calls P f args V K := h V rfl
theorem at_code {P : Program} {c : Code} {Q : Exit → Act → World → Prop} {a : Act} {V : World} (h : ∀ W, V = W → c.wp P Q a W) : c.wp P Q a V := h V rfl
theorem at_K {K : Act → World → Prop} {a : Act} {V : World} (h : ∀ W, V = W → K a W) : K a V := h V rfl
theorem stop_store {P : Program} {ops : Array Oper} {rest : List Oper} {o : Oper} {a : Act} {w : World} {Q : Exit → Act → World → Prop} (ty : TypeId) (x y : Operand) (_ : o.op = .store ty x y) (h : True → wpList P ops Q (o :: rest) a w) : wpList P ops Q (o :: rest) a w := h trivial
theorem stop_load {P : Program} {ops : Array Oper} {rest : List Oper} {o : Oper} {a : Act} {w : World} {Q : Exit → Act → World → Prop} (ty : TypeId) (x : Operand) (_ : o.op = .load ty x) (h : True → wpList P ops Q (o :: rest) a w) : wpList P ops Q (o :: rest) a w := h trivial
theorem at_list {P : Program} {ops : Array Oper} {l : List Oper} {a : Act} {V : World} {Q : Exit → Act → World → Prop} (h : ∀ W, V = W → wpList P ops Q l a W) : wpList P ops Q l a V := h V rfl
theorem run_loadAt_part {P : Program} {w : World} {g : Nat} {C : Array Value} {T : TypeId} {fr : Nat × Nat} (hb : w.heap[g]? = some (.cells C T fr)) (o : Nat) (ty : TypeId) (vs : Array Value) (d : TypeDesc) (hv : (C.toList.drop o).take vs.size = vs.toList)
    (hu : P.underlying ty = some d) (hd : (match d with | .struct _ | .array _ _ => true | _ => false) = true) (hi : (P.info? ty).map (·.size) = some vs.size) :
    (Instr.loadAt ty (.pointer (some ⟨g, o, none⟩))).run P w = .ok (.agg vs) w := by
  have hr := World.rangeAt_of_block hb o vs.size
  rw [extract_list hv] at hr
  have := run_loadAt_mid (P := P) w g o ty vs.toList d hr hu (by cases d <;> first | rfl | exact hd) (by simpa using hi)
  simpa using this
theorem wpList_load_part {P : Program} {ops : Array Oper} {rest : List Oper} {op : Oper} {a : Act} {w : World} {Q : Exit → Act → World → Prop} (g o : Nat) (ty : TypeId) (x : Operand) (vs : Array Value) (d : TypeDesc) {C : Array Value} {T : TypeId} {fr : Nat × Nat}
    (hg : w.heap[g]? = some (.cells C T fr)) (hw : Region.wanted op (yielded ops a.tmps) = true) (ho : op.op = .load ty x) (hx : a.eval x = .pointer (some ⟨g, o, none⟩)) (hv : (C.toList.drop o).take vs.size = vs.toList)
    (hu : P.underlying ty = some d) (hd : (match d with | .struct _ | .array _ _ => true | _ => false) = true) (hi : (P.info? ty).map (·.size) = some vs.size)
    (h : wpList P ops Q rest (a.put op.dst (.agg vs)) w) : wpList P ops Q (op :: rest) a w := by
  unfold wpList
  rw [if_pos hw]
  refine .inl ?_
  unfold Oper.wp execOp
  simp only [ho, hx, run_loadAt_part hg o ty vs d hv hu hd hi, Result.andThen_ok, Sem.run_bind, Sem.run_pure]
  exact h
theorem yields_part {P : Program} {ops : Array Oper} {S : World → Prop} {op : Oper} {a : Act} (g o : Nat) (ty : TypeId) (x : Operand) (vs : Array Value) (d : TypeDesc) {C : Array Value} {T : TypeId} {fr : Nat × Nat}
    (hS : ∀ w, S w → w.heap[g]? = some (.cells C T fr)) (hw : Region.wanted op (yielded ops a.tmps) = true) (ho : op.op = .load ty x) (hx : a.eval x = .pointer (some ⟨g, o, none⟩)) (hv : (C.toList.drop o).take vs.size = vs.toList)
    (hu : P.underlying ty = some d) (hd : (match d with | .struct _ | .array _ _ => true | _ => false) = true) (hi : (P.info? ty).map (·.size) = some vs.size) : YieldsIf P ops S op (.agg vs) a := by
  refine .inl ⟨hw, fun w h => ?_⟩
  unfold execOp
  simp only [ho, hx, run_loadAt_part (hS w h) o ty vs d hv hu hd hi, Result.andThen_ok, Sem.run_bind, Sem.run_pure]
theorem sees_blk {V w' : World} {r g : Nat} {o : Obj} (h : V.heap[g]? = some o) (hne : g ≠ r) (hs : Sees V r w') : w'.heap[g]? = some o := (hs g (block_lt h) hne).trans h
theorem row_ok {cells : Array Value} (h : cells.toList.all (·.oneCell') = true) : cells.all (·.oneCell') = true := by rw [← Array.all_toList]; exact h
theorem setCells_row (g : Nat) (t : TypeId) (fr : Nat × Nat) : ∀ (vs : List Value) (o : Nat) (cur : Array Value) (w : World), w.heap[g]? = some (.cells cur t fr) → o + vs.length ≤ cur.size →
    w.setCells g o vs = w.setRow g (cur.toList.take o ++ vs ++ cur.toList.drop (o + vs.length)).toArray
  | [], o, cur, w, hg, _ => by
    have e : (cur.toList.take o ++ ([] : List Value) ++ cur.toList.drop (o + ([] : List Value).length)).toArray = cur := by simp
    rw [e, setRow_self w g cur t fr hg]; rfl
  | v :: r, o, cur, w, hg, hl => by
    have hl' : o + 1 + r.length ≤ (cur.setIfInBounds o v).size := by simp at hl ⊢; omega
    rw [World.setCells, setCell_eq_setRow w g o cur t fr v hg, setCells_row g t fr r (o + 1) (cur.setIfInBounds o v) _ (setRow_heap w g cur _ t _ hg) hl', setRow_setRow]
    congr 2
    simp only [List.length_cons] at hl ⊢
    have ho : o < cur.toList.length := by simp; omega
    rw [Array.toList_setIfInBounds]
    rw [List.take_succ_eq_append_getElem (by simpa using ho), List.take_set_of_le (Nat.le_refl _), List.getElem_set_self, List.drop_set_of_lt (by omega)]
    simp [Nat.add_assoc, Nat.add_comm 1]
theorem run_storeVar_part {P : Program} (w : World) (g o : Nat) (t ty : TypeId) (old cells new : Array Value) (hg : w.heap[g]? = some (.cells old t (0, 0))) (hi : (P.info? ty).map (·.size) = some cells.size)
    (hn : old.toList.take o ++ cells.toList ++ old.toList.drop (o + cells.size) = new.toList) (hl : o + cells.size ≤ old.size) (h1 : cells.all (·.oneCell') = true) :
    (storeVar ty ⟨g, o, none⟩ (.agg cells)).run P w = .ok () (w.setRow g new) := by
  have ht : w.there g o cells.size := fun j hj => by
    rw [cell_of_row w g (o + j) old t _ hg]
    exact ⟨by rw [Array.getElem?_eq_getElem (by omega)]; rfl, by simp [World.frozen?, hg]⟩
  rw [run_storeVar_mid w g o ty cells ht hi h1, setCells_row g t (0, 0) cells.toList o old w hg (by simpa using hl)]
  simp only [Array.length_toList]
  rw [hn]
theorem wp_store_part {P : Program} {o : Oper} {a : Act} {w : World} {K : Act → World → Prop} {Q : Exit → Act → World → Prop} (ty : TypeId) (x y : Operand) (ho : o.op = .store ty x y)
    (g off : Nat) (cells : Array Value) (hx : a.eval x = .pointer (some ⟨g, off, none⟩)) (hy : a.eval y = .agg cells) (t : TypeId) (hi : (P.info? ty).map (·.size) = some cells.size) (h1 : cells.all (·.oneCell') = true)
    (old new : Array Value) (hg : w.heap[g]? = some (.cells old t (0, 0))) (hn : old.toList.take off ++ cells.toList ++ old.toList.drop (off + cells.size) = new.toList) (hl : off + cells.size ≤ old.size)
    (h : K (a.put o.dst undef) (w.setRow g new)) : o.wp P a w K Q := by
  unfold Oper.wp execOp
  simp only [ho, hx, hy, Instr.storeAt, Instr.sureAddr, Sem.run_bind, Sem.run_pure, Result.andThen_ok, run_storeVar_part w g off t ty old cells new hg hi hn hl h1]
  exact h
theorem step_store_part {P : Program} {ops : Array Oper} {o : Oper} {a : Act} {w : World} {K : Act → World → Prop} {Q : Exit → Act → World → Prop} {E : Prop} (hgd : o.guard = none) (ty : TypeId) (x y : Operand) (ho : o.op = .store ty x y)
    (g off : Nat) (cells : Array Value) (hx : a.eval x = .pointer (some ⟨g, off, none⟩)) (hy : a.eval y = .agg cells) (t : TypeId) (hi : (P.info? ty).map (·.size) = some cells.size) (h1 : cells.all (·.oneCell') = true)
    (old new : Array Value) (hg : w.heap[g]? = some (.cells old t (0, 0))) (hn : old.toList.take off ++ cells.toList ++ old.toList.drop (off + cells.size) = new.toList) (hl : off + cells.size ≤ old.size)
    (h : ∀ W, w.setRow g new = W → K (a.put o.dst undef) W) : if Region.wanted o (yielded ops a.tmps) = true then Oper.wp P o a w K Q else E := by
  have hw : Region.wanted o (yielded ops a.tmps) = true := by simp [Region.wanted, hgd]
  rw [if_pos hw]
  exact wp_store_part ty x y ho g off cells hx hy t hi h1 old new hg hn hl (h _ rfl)
theorem wpList_store_part_n {P : Program} {ops : Array Oper} {rest : List Oper} {o : Oper} {a : Act} {w : World} {Q : Exit → Act → World → Prop} (hgd : o.guard = none) (ty : TypeId) (x y : Operand) (ho : o.op = .store ty x y)
    (g off : Nat) (cells : Array Value) (hx : a.eval x = .pointer (some ⟨g, off, none⟩)) (hy : a.eval y = .agg cells) (t : TypeId) (hi : (P.info? ty).map (·.size) = some cells.size) (h1 : cells.all (·.oneCell') = true)
    (h : ∀ W, w = W → ∃ old new : Array Value, W.heap[g]? = some (.cells old t (0, 0)) ∧ old.toList.take off ++ cells.toList ++ old.toList.drop (off + cells.size) = new.toList ∧ off + cells.size ≤ old.size ∧ ∀ W', W.setRow g new = W' → wpList P ops Q rest (a.put o.dst undef) W') : wpList P ops Q (o :: rest) a w := by
  obtain ⟨old, new, hg, hn, hl, h2⟩ := h w rfl
  exact wpList_plain hgd fun _ hK => wp_store_part ty x y ho g off cells hx hy t hi h1 old new hg hn hl (hK _ _ (h2 _ rfl))
theorem blk_at {V W : World} {g : Nat} {o : Obj} (h : V.heap[g]? = some o) (hk : Kept V W) : W.heap[g]? = some o := (Below.block hk g (block_lt h)).trans h
theorem alloc1 {w V : World} {o0 : Obj} (h : w.alloc o0 = V) : Kept w V ∧ V.heap[w.heap.size]? = some o0 ∧ V.heap.size = w.heap.size + 1 := by
  subst h
  exact ⟨kept_new _ _, alloc_new _ _, by simp⟩
theorem alloc2 {w V : World} {o0 o1 : Obj} (h : (w.alloc o0).alloc o1 = V) : Kept w V ∧ V.heap[w.heap.size]? = some o0 ∧ V.heap[w.heap.size + 1]? = some o1 ∧ V.heap.size = w.heap.size + 2 := by
  obtain ⟨W, hW⟩ : ∃ W, w.alloc o0 = W := ⟨_, rfl⟩
  rw [hW] at h
  obtain ⟨hk, h0, hs⟩ := alloc1 hW
  obtain ⟨gk, g0, gs⟩ := alloc1 h
  exact ⟨kept_trans hk gk, blk_at h0 gk, by rw [← hs]; exact g0, by omega⟩
theorem alloc3 {w V : World} {o0 o1 o2 : Obj} (h : ((w.alloc o0).alloc o1).alloc o2 = V) : Kept w V ∧ V.heap[w.heap.size]? = some o0 ∧ V.heap[w.heap.size + 1]? = some o1 ∧ V.heap[w.heap.size + 2]? = some o2 ∧ V.heap.size = w.heap.size + 3 := by
  obtain ⟨W, hW⟩ : ∃ W, (w.alloc o0).alloc o1 = W := ⟨_, rfl⟩
  rw [hW] at h
  obtain ⟨hk, h0, h1, hs⟩ := alloc2 hW
  obtain ⟨gk, g0, gs⟩ := alloc1 h
  exact ⟨kept_trans hk gk, blk_at h0 gk, blk_at h1 gk, by rw [← hs]; exact g0, by omega⟩
theorem alloc4 {w V : World} {o0 o1 o2 o3 : Obj} (h : (((w.alloc o0).alloc o1).alloc o2).alloc o3 = V) : Kept w V ∧ V.heap[w.heap.size]? = some o0 ∧ V.heap[w.heap.size + 1]? = some o1 ∧ V.heap[w.heap.size + 2]? = some o2 ∧ V.heap[w.heap.size + 3]? = some o3 ∧ V.heap.size = w.heap.size + 4 := by
  obtain ⟨W, hW⟩ : ∃ W, ((w.alloc o0).alloc o1).alloc o2 = W := ⟨_, rfl⟩
  rw [hW] at h
  obtain ⟨hk, h0, h1, h2, hs⟩ := alloc3 hW
  obtain ⟨gk, g0, gs⟩ := alloc1 h
  exact ⟨kept_trans hk gk, blk_at h0 gk, blk_at h1 gk, blk_at h2 gk, by rw [← hs]; exact g0, by omega⟩
/-- The five lists of an equality across types. -/
def HQ (w : World) (P : Nat → Prop) (h : He) (sa sb sx sy sh : Value) : Prop := LiesQ w P h.a.kids sa ∧ LiesQ w P h.b.kids sb ∧ LiesQ w P h.x.kids sx ∧ LiesQ w P h.y.kids sy ∧ LiesQ w P h.h.kids sh
theorem HQ.lies {w : World} {P : Nat → Prop} {h : He} {sa sb sx sy sh : Value} (H : HQ w P h sa sb sx sy sh) : HLies w h sa sb sx sy sh := ⟨H.1.lies, H.2.1.lies, H.2.2.1.lies, H.2.2.2.1.lies, H.2.2.2.2.lies⟩
theorem HLies.q {w : World} {h : He} {sa sb sx sy sh : Value} (H : HLies w h sa sb sx sy sh) : HQ w (fun b => b < w.heap.size) h sa sb sx sy sh := ⟨H.1.q, H.2.1.q, H.2.2.1.q, H.2.2.2.1.q, H.2.2.2.2.q⟩
def GivesHP (P : Nat → Prop) (h : He) (w : World) (e : Ending) (w' : World) : Prop := ∃ sa sb sx sy sh : Value, e = .returned (hv h sa sb sx sy sh) ∧ HQ w' (fun b => P b ∨ w.heap.size ≤ b) h sa sb sx sy sh ∧ Kept w w'
def FQ (w : World) (P : Nat → Prop) (g : Fm) (sa sc sb sd se sf : Value) : Prop := LiesQ w P g.a.kids sa ∧ LiesQ w P g.c.kids sc ∧ LiesQ w P g.b.kids sb ∧ LiesQ w P g.d.kids sd ∧ LiesQ w P g.e.kids se ∧ LiesQ w P g.f.kids sf
theorem FLies.q {w : World} {g : Fm} {sa sc sb sd se sf : Value} (H : FLies w g sa sc sb sd se sf) : FQ w (fun b => b < w.heap.size) g sa sc sb sd se sf := ⟨H.1.q, H.2.1.q, H.2.2.1.q, H.2.2.2.1.q, H.2.2.2.2.1.q, H.2.2.2.2.2.q⟩
theorem under_of (t : TypeId) (h : (Tryz.prog.underlying t).map (fun d => match d with | .struct _ | .array _ _ => true | _ => false) = some true) : ∃ d, Tryz.prog.underlying t = some d ∧ (match d with | .struct _ | .array _ _ => true | _ => false) = true := by
  cases e : Tryz.prog.underlying t with
  | none => rw [e] at h; cases h
  | some d => rw [e] at h; exact ⟨d, rfl, Option.some.inj h⟩
end Go.Proofs.YtgododpkbiaacaaGreat

namespace Go.Proofs.YtgododpkbiaacaaGreat
open Go.RowKit

set_option maxRecDepth 20000 in
set_option maxHeartbeats 4000000 in
theorem copyR_any (t : Tm) : ∀ (w : World) (s : Value), Lies w t.kids s → t.rightB = true → Calls Tryz.prog 29 #[tv t s] w (Makes t w) := by
  induction t using Tm.ind with
  | h t ih =>
    intro w s hl hr
    obtain ⟨a, cap, S, rfl, hc, hm, hf, hn, hk⟩ := hl.out
    have CP : ∀ (w' : World) (s' : Value), Lies w' t.kids s' → Calls Tryz.prog 58 #[s'] w' (MakesAll t.kids w') := fun w' s' h' => copies_of t.kids (fun x hx w2 s2 h2 => ih x hx w2 s2 h2 (t.right_kids hr x hx)) w' s' h' (by have := right_len hr; omega)
    unfold tv
    unfold maxLen at hm
    obtain ⟨du, hu1, hu2⟩ := under_term
    have HL := Lib.hid hl
    replace CP := Lib.hid CP
    have H0 := boxes_start w t (.slice a t.kids.length cap)
    clear ih hn hk hf hl hr
    go_enter Tryz.func29, Tryz.ntmps29
    go_wp2_with fail
    refine (CP.out _ _ (boxes_lies H0 HL.out)).mono ?_
    generalize (w.alloc (.cells #[.int .i64 t.k, .int .i64 t.i, .int .i64 t.j, .int .i64 t.n, .slice a t.kids.length cap] 25)).alloc (.cells #[.int .i64 0, .int .i64 0, .int .i64 0, .int .i64 0, .slice none 0 0] 25) = V at H0 ⊢
    rintro ee wn ⟨s2, rfl, hl2, hb2⟩
    obtain ⟨a2, cap2, rfl, -, -⟩ := hl2.out
    have hs := Below.size H0
    have hh := boxes_call H0 hb2
    have hl3 : LiesP wn (Own (w.heap.size + 2) wn) t.kids (.slice a2 t.kids.length cap2) := hl2.from (by simpa using hs)
    have hbx := boxes_block hh
    have hbo : wn.heap[w.heap.size]? = some (boxOf t (.slice a t.kids.length cap)) := by
      rw [Below.block hh _ (by omega), Below.heap_alloc _ _ _ (by simp)]; exact alloc_new _ _
    obtain ⟨x0, x1, x2, x3, x4, z0, z1, z2, z3, z4, f0, f1, f2, f3, f4⟩ := boxes_cells hh
    obtain ⟨q0, q1, q2, q3, q4⟩ := five_free hbo
    have HL3 := Lib.hid hl3
    have HBX : Hid ((wn.setCell ⟨w.heap.size, 4, none⟩ (.slice a2 t.kids.length cap2)).heap[w.heap.size + 1]? = some (.cells #[.int .i64 0, .int .i64 0, .int .i64 0, .int .i64 0, .slice none 0 0] 25 (0, 0))) := (Below.heap_setCell _ _ _ _ (by show w.heap.size + 1 ≠ w.heap.size; omega)).trans hbx
    have HBL := Lib.hid (held_below (boxes_held hh))
    clear hl2 hb2 hl3 hbx hbo hh hs H0
    go_wp2
    refine bodyPost_ret (results_cell_row rfl _ _ (w.heap.size + 1) _ _ _ du rfl (five_set HBX.out) hu1 (by cases du <;> first | rfl | exact hu2) size_term) rfl ?_
    refine ⟨_, rfl, ?_, ?_⟩
    · exact liesP_fives (liesP_set HL3.out (by omega) (Nat.le_refl _) _) (by omega) (by omega) _ _ _ _ _
    · exact below_five (HBL.out.setCell (Nat.le_refl _) _) (by omega) _ _ _ _ _

end Go.Proofs.YtgododpkbiaacaaGreat

namespace Go.Proofs.YtgododpkbiaacaaGreat
open Go

section
variable {P : Program} {ops : Array Oper} {Q : Exit → Act → World → Prop} {md : Region.Mode} {S : World → Prop} {k0 : Nat}

def wpAnyX (P : Program) (md : Region.Mode) (ops : Array Oper) (Q : Exit → Act → World → Prop) (S : World → Prop) (k0 : Nat) : Nat → Array Bool → Act → World → Prop
  | 0, listed, a, w => Region.ready md ops listed = [] ∧ Q .normal a w
  | fuel + 1, listed, a, w =>
    (Region.ready md ops listed = [] → Q .normal a w) ∧
    ∀ i ∈ Region.ready md ops listed, wpOp P ops Q i (fun a' w' => ((listed.setIfInBounds i true).getD k0 true = false → S w') ∧ wpAnyX P md ops Q S k0 fuel (listed.setIfInBounds i true) a' w') a w

theorem wpAny_of_X : ∀ (fuel : Nat) (listed : Array Bool) (a : Act) (w : World), wpAnyX P md ops Q S k0 fuel listed a w → wpAny P md ops Q fuel listed a w
  | 0, _, _, _, h => h
  | fuel + 1, _, _, _, h => ⟨h.1, fun i hi => wpOp_mono (fun a' w' h' => wpAny_of_X fuel _ a' w' h'.2) (h.2 i hi)⟩

theorem getD_set_ne' {l : Array Bool} {i k : Nat} (h : i ≠ k) : (l.setIfInBounds i true).getD k true = l.getD k true := getD_set_ne true h

theorem wpAnyX_first {i : Nat} {oi : Oper} {v : Value} (hi : ops[i]? = some oi) (hsel : ∀ (j : Nat) (o : Oper) cs b, ops[j]? = some o → o.op ≠ .select cs b)
    (hQ : ∀ c a w, Q (.panic c) (a.put oi.dst v) w → Q (.panic c) a w) (hki : i ≠ k0)
    (hwait : ∃ ok, ops[k0]? = some ok ∧ ∃ e ∈ ok.after, Region.binds md e = true ∧ e.on = i) :
    ∀ (fuel : Nat) (listed : Array Bool) (a : Act) (w : World),
      (∀ j oj, ops[j]? = some oj → j ≠ i → listed.getD j true = false → (∀ e ∈ oj.after, Region.binds md e = true → e.on ≠ i) → oi.apart ops oj = true) →
      i ∈ Region.ready md ops listed → listed.getD k0 true = false → YieldsIf P ops S oi v a → S w →
      wpAnyX P md ops Q S k0 fuel (listed.setIfInBounds i true) (a.put oi.dst v) w → wpAnyX P md ops Q S k0 (fuel + 1) listed a w := by
  intro fuel
  induction fuel with
  | zero =>
    intro listed a w _ hr _ hy hS H
    refine ⟨fun h => (by rw [h] at hr; cases hr), fun j hj => ?_⟩
    by_cases hji : j = i
    · subst hji; exact hy.wpOp hi hS ⟨fun _ => hS, H⟩
    · have := ready_mono hj hji
      rw [H.1] at this
      cases this
  | succ fuel ih =>
    intro listed a w hfree hr hun0 hy hS H
    refine ⟨fun h => (by rw [h] at hr; cases hr), fun j hj => ?_⟩
    by_cases hji : j = i
    · subst hji; exact hy.wpOp hi hS ⟨fun _ => hS, H⟩
    · have h1 := H.2 j (ready_mono hj hji)
      obtain ⟨hjun, oj, hoj, hall⟩ := mem_ready.1 hj
      have hnot : ∀ e ∈ oj.after, Region.binds md e = true → e.on ≠ i := fun e he hb heq => by
        have h1 := hall e he hb
        have h0 := (mem_ready.1 hr).1
        rw [heq] at h1
        rcases Nat.lt_or_ge i listed.size with h' | h'
        · simp [h'] at h0 h1; rw [h0] at h1; cases h1
        · simp [Array.getElem?_eq_none h'] at h1
      have hjk : j ≠ k0 := fun e => by
        obtain ⟨ok, hok, e', he', hb', hon⟩ := hwait
        rw [e, hok] at hoj
        exact hnot e' (by rw [← Option.some.inj hoj]; exact he') hb' hon
      have h2 := wpOp_putIf hoj (hfree j oj hoj hji hjun hnot) (fun cs b => hsel i oi cs b hi) (fun cs b => hsel j oj cs b hoj) hQ hy h1
      have hfree' : ∀ k ok, ops[k]? = some ok → k ≠ i → (listed.setIfInBounds j true).getD k true = false →
          (∀ e ∈ ok.after, Region.binds md e = true → e.on ≠ i) → oi.apart ops ok = true := fun k ok hk hki hun hno => by
        refine hfree k ok hk hki ?_ hno
        by_cases hjk : j = k
        · subst hjk; exact hjun
        · rw [getD_set_ne true hjk] at hun; exact hun
      have hun' : (listed.setIfInBounds j true).getD k0 true = false := by rw [getD_set_ne' hjk]; exact hun0
      have hun2 : ((listed.setIfInBounds i true).setIfInBounds j true).getD k0 true = false := by rw [getD_set_ne' hjk, getD_set_ne' hki]; exact hun0
      refine wpOp_mono (fun a' w' h3 => ⟨fun _ => h3.2.1 hun2, ih (listed.setIfInBounds j true) a' w' hfree' (ready_mono hr (Ne.symm hji)) hun' h3.1 (h3.2.1 hun2) ?_⟩) h2
      rw [Array.setIfInBounds_comm _ _ hji]
      exact h3.2.2

/-- What yields in whatever world may be taken at any time. -/
theorem wpAnyX_any {i : Nat} {oi : Oper} {v : Value} (hi : ops[i]? = some oi) (hsel : ∀ (j : Nat) (o : Oper) cs b, ops[j]? = some o → o.op ≠ .select cs b)
    (hQ : ∀ c a w, Q (.panic c) (a.put oi.dst v) w → Q (.panic c) a w) (hki : i ≠ k0) :
    ∀ (fuel : Nat) (listed : Array Bool) (a : Act) (w : World),
      (∀ j oj, ops[j]? = some oj → j ≠ i → listed.getD j true = false → (∀ e ∈ oj.after, Region.binds md e = true → e.on ≠ i) → oi.apart ops oj = true) →
      i ∈ Region.ready md ops listed → YieldsIf P ops (fun _ => True) oi v a → (listed.getD k0 true = false → S w) →
      wpAnyX P md ops Q S k0 fuel (listed.setIfInBounds i true) (a.put oi.dst v) w → wpAnyX P md ops Q S k0 (fuel + 1) listed a w := by
  intro fuel
  induction fuel with
  | zero =>
    intro listed a w _ hr hy hS H
    refine ⟨fun h => (by rw [h] at hr; cases hr), fun j hj => ?_⟩
    by_cases hji : j = i
    · subst hji; exact hy.wpOp hi trivial ⟨fun h => hS (by rw [getD_set_ne' hki] at h; exact h), H⟩
    · have := ready_mono hj hji
      rw [H.1] at this
      cases this
  | succ fuel ih =>
    intro listed a w hfree hr hy hS H
    refine ⟨fun h => (by rw [h] at hr; cases hr), fun j hj => ?_⟩
    by_cases hji : j = i
    · subst hji; exact hy.wpOp hi trivial ⟨fun h => hS (by rw [getD_set_ne' hki] at h; exact h), H⟩
    · have h1 := H.2 j (ready_mono hj hji)
      obtain ⟨hjun, oj, hoj, hall⟩ := mem_ready.1 hj
      have hnot : ∀ e ∈ oj.after, Region.binds md e = true → e.on ≠ i := fun e he hb heq => by
        have h1 := hall e he hb
        have h0 := (mem_ready.1 hr).1
        rw [heq] at h1
        rcases Nat.lt_or_ge i listed.size with h' | h'
        · simp [h'] at h0 h1; rw [h0] at h1; cases h1
        · simp [Array.getElem?_eq_none h'] at h1
      have h2 := wpOp_putIf hoj (hfree j oj hoj hji hjun hnot) (fun cs b => hsel i oi cs b hi) (fun cs b => hsel j oj cs b hoj) hQ hy h1
      have hfree' : ∀ k ok, ops[k]? = some ok → k ≠ i → (listed.setIfInBounds j true).getD k true = false →
          (∀ e ∈ ok.after, Region.binds md e = true → e.on ≠ i) → oi.apart ops ok = true := fun k ok hk hki hun hno => by
        refine hfree k ok hk hki ?_ hno
        by_cases hjk : j = k
        · subst hjk; exact hjun
        · rw [getD_set_ne true hjk] at hun; exact hun
      have hcomm : (listed.setIfInBounds i true).setIfInBounds j true = (listed.setIfInBounds j true).setIfInBounds i true := Array.setIfInBounds_comm _ _ (Ne.symm hji)
      have hget : ((listed.setIfInBounds i true).setIfInBounds j true).getD k0 true = (listed.setIfInBounds j true).getD k0 true := by rw [hcomm, getD_set_ne' hki]
      refine wpOp_mono (fun a' w' h3 => ⟨fun h => h3.2.1 (by rw [hget]; exact h), ih (listed.setIfInBounds j true) a' w' hfree' (ready_mono hr (Ne.symm hji)) h3.1 (fun h => h3.2.1 (by rw [hget]; exact h)) ?_⟩) h2
      rw [Array.setIfInBounds_comm _ _ hji]
      exact h3.2.2

theorem takeX_at (i d : Nat) (oi : Oper) {v : Value} {fuel : Nat} {listed : Array Bool} {a : Act} {w : World} (hy : YieldsIf P ops S oi v a)
    (h : wpAnyX P md ops Q S k0 fuel (listed.setIfInBounds i true) (a.put (some d) v) w)
    (hi : ops[i]? = some oi := by rfl) (hd : oi.dst = some d := by rfl)
    (hs : Region.noSelect ops = true := by kernel_rfl) (hf : Region.free md ops listed i = true := by kernel_rfl) (hr : (Region.ready md ops listed).contains i = true := by kernel_rfl)
    (hw : (ops[k0]?.map fun o => o.after.any fun e => Region.binds md e && e.on == i) = some true := by kernel_rfl) (hne : (i != k0) = true := by kernel_rfl) (hun : listed.getD k0 true = false := by kernel_rfl)
    (hQ : ∀ c a w, Q (.panic c) (a.put (some d) v) w → Q (.panic c) a w := by exact fun _ _ _ h => h) (hS : S w := by assumption) : wpAnyX P md ops Q S k0 (fuel + 1) listed a w := by
  rw [← hd] at hQ h
  refine wpAnyX_first hi (Region.noSelect_spec hs) hQ (by simpa using hne) ?_ fuel listed a w (Region.free_spec hi hf) (by simpa using hr) hun hy hS h
  obtain ⟨ok, hok, h2⟩ := Option.map_eq_some_iff.1 hw
  obtain ⟨e, he, h3⟩ := Array.any_eq_true'.1 h2
  simp only [Bool.and_eq_true, beq_iff_eq] at h3
  exact ⟨ok, hok, e, he, h3.1, h3.2⟩
theorem takeX_any (i d : Nat) (oi : Oper) {v : Value} {fuel : Nat} {listed : Array Bool} {a : Act} {w : World} (hy : YieldsIf P ops (fun _ => True) oi v a)
    (h : wpAnyX P md ops Q S k0 fuel (listed.setIfInBounds i true) (a.put (some d) v) w) (hS : listed.getD k0 true = false → S w)
    (hi : ops[i]? = some oi := by rfl) (hd : oi.dst = some d := by rfl)
    (hs : Region.noSelect ops = true := by kernel_rfl) (hf : Region.free md ops listed i = true := by kernel_rfl) (hr : (Region.ready md ops listed).contains i = true := by kernel_rfl) (hne : (i != k0) = true := by kernel_rfl)
    (hQ : ∀ c a w, Q (.panic c) (a.put (some d) v) w → Q (.panic c) a w := by exact fun _ _ _ h => h) : wpAnyX P md ops Q S k0 (fuel + 1) listed a w := by
  rw [← hd] at hQ h
  exact wpAnyX_any hi (Region.noSelect_spec hs) hQ (by simpa using hne) fuel listed a w (Region.free_spec hi hf) (by simpa using hr) hy hS h

def AllReadyX (P : Program) (md : Region.Mode) (ops : Array Oper) (Q : Exit → Act → World → Prop) (S : World → Prop) (k0 : Nat) (fuel : Nat) (listed : Array Bool) (a : Act) (w : World) (rs : List Nat) : Prop :=
  ∀ i ∈ rs, wpOp P ops Q i (fun a' w' => ((listed.setIfInBounds i true).getD k0 true = false → S w') ∧ wpAnyX P md ops Q S k0 fuel (listed.setIfInBounds i true) a' w') a w
theorem AllReadyX.nil {fuel : Nat} {listed : Array Bool} {a : Act} {w : World} : AllReadyX P md ops Q S k0 fuel listed a w [] := fun _ h => by cases h
theorem AllReadyX.cons {fuel : Nat} {listed : Array Bool} {a : Act} {w : World} {i : Nat} {o : Oper} {rs : List Nat} (ho : ops[i]? = some o)
    (h : ∀ K' : Act → World → Prop, Shut (∀ a w, ((listed.setIfInBounds i true).getD k0 true = false → S w) → (((listed.setIfInBounds i true).getD k0 true = false → S w) → wpAnyX P md ops Q S k0 fuel (listed.setIfInBounds i true) a w) → K' a w) → if Region.wanted o (yielded ops a.tmps) = true then Oper.wp P o a w K' Q else K' (a.put o.dst undef) w)
    (hs : AllReadyX P md ops Q S k0 fuel listed a w rs) : AllReadyX P md ops Q S k0 fuel listed a w (i :: rs) := fun j hj => by
  rcases List.mem_cons.1 hj with rfl | hj
  · exact wpOp_step ho (fun K' hK => h K' (fun a w hS hW => hK a w ⟨hS, hW hS⟩))
  · exact hs j hj
theorem wpAnyX_ready {rs : List Nat} {fuel : Nat} {listed : Array Bool} {a : Act} {w : World} (hr : Region.ready md ops listed = rs) (hne : rs ≠ [])
    (h : AllReadyX P md ops Q S k0 fuel listed a w rs) : wpAnyX P md ops Q S k0 (fuel + 1) listed a w := ⟨fun h0 => absurd (hr ▸ h0) hne, hr ▸ h⟩
theorem wpAnyX_done {listed : Array Bool} {a : Act} {w : World} (hr : Region.ready md ops listed = []) (h : Q .normal a w) :
    ∀ fuel, wpAnyX P md ops Q S k0 fuel listed a w
  | 0 => ⟨hr, h⟩
  | _ + 1 => ⟨fun _ => h, by rw [hr]; simp⟩
theorem wp_region_X {id : Nat} {a : Act} {w : World} (k0 : Nat) (hm : P.follows .mixedOrders = true) (hS : S w.drew)
    (h : S w.drew → wpAnyX P .any ops Q S k0 ops.size (Array.replicate ops.size false) a w.drew) : (Code.region id ops true).wp P Q a w :=
  wp_region_any hm (wpAny_of_X _ _ _ _ (h hS))
end
end Go.Proofs.YtgododpkbiaacaaGreat
