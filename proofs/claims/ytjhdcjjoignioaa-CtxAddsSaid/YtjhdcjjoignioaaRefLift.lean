/-
  The page's own lift.
-/
import Derived.Test.YtjhdcjjoignioaaEnds
import Derived.Test.YtjhdcjjoignioaaRefKids
namespace Go.Proofs.Ytjhdcjjoignioaa
open Go.RowKit

theorem rlift_fine {k c : Int} (hk : 0 ≤ k) {t u : Tm} (hf : t.fine) (h : t.rlift k c = some u) : u.fine := by
  rw [Tm.rlift_eq] at h
  split at h
  · cases h
  · rename_i h1
    simp only [Option.map_eq_some_iff] at h
    obtain ⟨l, -, rfl⟩ := h
    obtain ⟨a1, a2, a3, a4⟩ := hf
    refine ⟨a1, ?_, a3, a4⟩
    show I64 (if t.k = 2 ∧ c ≤ t.i then t.i + k else t.i)
    split
    · rename_i h2
      have : ¬ (k > 2147483647 - t.i) := fun h => h1 ⟨h2.1, h2.2, h⟩
      unfold I64 at a2 ⊢; omega
    · exact a2
theorem step62_range {c : Int} (hc : 0 ≤ c) (hc2 : c ≤ 9223372036854775807) (k q : Int) : 0 ≤ step62 c k q ∧ step62 c k q ≤ 9223372036854775807 := by
  unfold step62; have := binds_range k q; split <;> omega

def big62 (c : Int) : Bool := decide (4611686018427387904 < c)

set_option maxRecDepth 20000 in
set_option maxHeartbeats 4000000 in
theorem rlift_any (k : Int) (hk : I64 k) (hk0 : 0 ≤ k) (t : Tm) : ∀ (c : Int) (w : World) (s : Value), Lies w t.kids s → t.rightB = true → 0 ≤ c → c ≤ 9223372036854775807 →
    Calls Try.prog 55 #[tv t s, .int .i64 k, .int .i64 c] w (Gives (t.rlift k c) w) := by
  induction t using Tm.ind with
  | h t ih =>
    intro c w s hl hr hc0 hc9
    obtain ⟨a, cap, S, rfl, hc, hm, hf, hn, hkk⟩ := hl.out
    have hlen := right_len hr
    unfold tv
    unfold maxLen at hm
    unfold I64 at hk
    obtain ⟨hk1, hk9⟩ := hk
    obtain ⟨du, hu1, hu2⟩ := under_term
    have hd0 := desk_start w t t (.slice a t.kids.length cap) (.slice none 0 0)
    have heq := Tm.rlift_eq k t c
    by_cases hk2 : t.k = 2
    · have e2 : (t.k == 2) = true := by simpa using hk2
      have hv := t.right_var hr hk2
      have hnil : t.kids = [] := (sorts_two (t.right_node hr) (by omega)).2
      have h1 : t.kids.length < 1 := by rw [hnil]; exact Nat.zero_lt_one
      have HNIL := Lib.hid hnil
      have HK2 := Lib.hid hk2
      clear hnil hk2 ih hn hkk hf hl
      by_cases hci : c ≤ t.i
      · have e3 : decide (c ≤ t.i) = true := by simpa using hci
        by_cases hov : k > 2147483647 - t.i
        · have e4 : decide (2147483647 - t.i < k) = true := by simpa using hov
          rw [if_pos ⟨HK2.out, hci, hov⟩] at heq
          have HEQ := Lib.hid heq
          clear heq hov hci
          go_enter Try.func55, Try.ntmps55
          go_wp2
          (try simp only [Exit.inBlock, Exit.then])
          refine bodyPost_ret (results_cell_tmp rfl _ _ (w.heap.size + 1) _ _ _ du rfl (heap_three _ _ _ _).2.1 hu1 (by cases du <;> first | rfl | exact hu2) size_term) rfl ?_
          exact ⟨below_three _ _ _ _, Or.inr ⟨Tm.zero, HEQ.out, rfl, rfl⟩⟩
        · have e4 : decide (2147483647 - t.i < k) = false := by simpa using hov
          have h5 : k ≤ 2147483647 - t.i := by omega
          rw [if_neg (fun h => hov h.2.2), if_pos ⟨HK2.out, hci⟩] at heq
          have HEQ := Lib.hid heq
          clear heq hov hci
          go_enter Try.func55, Try.ntmps55
          go_wp2_with fail
          go_loopw [9, 10] (fun v i wr => v = .slice none 0 0 ∧ i = .int .i64 0 ∧ Desk w t (.mk t.k (t.i + k) t.j t.n []) (.slice a t.kids.length cap) (.slice none 0 0) wr) (fun _ _ _ => 0)
          case atStart => exact ⟨rfl, rfl, desk_start w t (.mk t.k (t.i + k) t.j t.n []) (.slice a t.kids.length cap) (.slice none 0 0)⟩
          case round =>
            obtain ⟨rfl, rfl, hdk⟩ := hrel
            obtain ⟨q0, q1, q2⟩ := desk_blocks hdk
            obtain ⟨d0, d1, d2, d3, d4⟩ := five_cells q0
            obtain ⟨f0, f1, f2, f3, f4⟩ := five_free q2
            obtain ⟨y0, y1, y2, y3, y4⟩ := five_cells q2
            obtain ⟨z0, z1, z2, z3, z4⟩ := five_cells q1
            obtain ⟨g0, g1, g2, g3, g4⟩ := five_free q1
            have hd2 := desk_set (v' := .slice none 0 0) hdk
            obtain ⟨-, q1', -⟩ := desk_blocks hd2
            clear q0 q1 q2
            go_wp2
            (try simp only [Exit.inBlock, Exit.then])
            refine bodyPost_ret (results_cell_tmp rfl _ _ (w.heap.size + 1) _ _ _ du rfl (five_set q1') hu1 (by cases du <;> first | rfl | exact hu2) size_term) rfl ?_
            exact ⟨below_five (desk_under hd2) (by omega) _ _ _ _ _, Or.inl ⟨(.mk t.k (t.i + k) t.j t.n []), .slice none 0 0, by rw [HEQ.out, HNIL.out]; rfl, rfl, liesP_nil _ _⟩⟩
      · have e3 : decide (c ≤ t.i) = false := by simpa using hci
        rw [if_neg (fun h => hci h.2.1), if_neg (fun h => hci h.2)] at heq
        have HEQ := Lib.hid heq
        clear heq hci
        go_enter Try.func55, Try.ntmps55
        go_wp2_with fail
        go_loopw [9, 10] (fun v i wr => v = .slice none 0 0 ∧ i = .int .i64 0 ∧ Desk w t (.mk t.k t.i t.j t.n []) (.slice a t.kids.length cap) (.slice none 0 0) wr) (fun _ _ _ => 0)
        case atStart => exact ⟨rfl, rfl, desk_start w t (.mk t.k t.i t.j t.n []) (.slice a t.kids.length cap) (.slice none 0 0)⟩
        case round =>
          obtain ⟨rfl, rfl, hdk⟩ := hrel
          obtain ⟨q0, q1, q2⟩ := desk_blocks hdk
          obtain ⟨d0, d1, d2, d3, d4⟩ := five_cells q0
          obtain ⟨f0, f1, f2, f3, f4⟩ := five_free q2
          obtain ⟨y0, y1, y2, y3, y4⟩ := five_cells q2
          obtain ⟨z0, z1, z2, z3, z4⟩ := five_cells q1
          obtain ⟨g0, g1, g2, g3, g4⟩ := five_free q1
          have hd2 := desk_set (v' := .slice none 0 0) hdk
          obtain ⟨-, q1', -⟩ := desk_blocks hd2
          clear q0 q1 q2
          go_wp2
          (try simp only [Exit.inBlock, Exit.then])
          refine bodyPost_ret (results_cell_tmp rfl _ _ (w.heap.size + 1) _ _ _ du rfl (five_set q1') hu1 (by cases du <;> first | rfl | exact hu2) size_term) rfl ?_
          exact ⟨below_five (desk_under hd2) (by omega) _ _ _ _ _, Or.inl ⟨(.mk t.k t.i t.j t.n []), .slice none 0 0, by rw [HEQ.out, HNIL.out]; rfl, rfl, liesP_nil _ _⟩⟩
    · have e2 : (t.k == 2) = false := by simpa using hk2
      rw [if_neg (fun h => hk2 h.1), if_neg (fun h => hk2 h.1)] at heq
      have HEQ := Lib.hid heq
      have HRK := Lib.hid (t.right_kids hr)
      have HFI := Lib.hid hf
      have IH := Lib.hid ih
      have HN := Lib.hid hn
      have HK := Lib.hid hkk
      clear heq hk2 ih hn hkk hf hr hl
      obtain ⟨i0, hi, hz0, hz1, hz2⟩ := info_parts info_term
      have HI := Lib.hid (And.intro hi (And.intro hz0 (And.intro hz1 hz2)))
      clear hi hz0 hz1 hz2
      go_enter Try.func55, Try.ntmps55
      go_wp2_with fail
      go_loopw [9, 10] (fun v i wr => ∃ (q : Nat) (ps : List (Tm × Value)) (vv : Value), vv = v ∧ q ≤ t.kids.length ∧ i = .int .i64 q ∧ Hid (optK (fun q x => x.rlift k (step62 c t.k q)) 0 (t.kids.take q) = some (ps.map (·.1))) ∧ Made (w.heap.size + 3) wr v ps ∧ Desk w t t (.slice a t.kids.length cap) (.slice none 0 0) wr) (fun _ i _ => t.kids.length - (intOf i).toNat)
      case atStart => exact ⟨0, [], _, rfl, Nat.zero_le _, rfl, rfl, made_nil _ _, hd0⟩
      case round =>
        clear hd0
        obtain ⟨q, ps, vv, rfl, hq0, rfl, hps, hmade, hdk⟩ := hrel
        have HPS := Lib.hid hps.out
        clear hps
        obtain ⟨q0, q1, q2⟩ := desk_blocks hdk
        obtain ⟨d0, d1, d2, d3, d4⟩ := five_cells q0
        obtain ⟨y0, y1, y2, y3, y4⟩ := five_cells q2
        obtain ⟨f0, f1, f2, f3, f4⟩ := five_free q2
        obtain ⟨z0, z1, z2, z3, z4⟩ := five_cells q1
        obtain ⟨g0, g1, g2, g3, g4⟩ := five_free q1
        have hsz := desk_size hdk
        clear q0 q2
        by_cases hlt : q < t.kids.length
        · obtain ⟨b', o, rfl, hx⟩ := HN.out q hlt
          have hy := hx.below (desk_under hdk) hx.lt
          obtain ⟨c0, c1, c2, c3, c4⟩ := hy
          have hq := HK.out q hlt
          obtain ⟨a', cap', S', hS, -⟩ := hq.out
          rw [hS] at c4 hq
          have HM := Lib.hid (List.getElem_mem hlt)
          have hbd := binds_range t.k q
          have hst := step62_range hc0 hc9 t.k q
          have hpl : ps.length = q := by have := optK_length HPS.out; simp at this; omega
          have HPL := Lib.hid hpl
          have HMD := Lib.hid hmade
          have CALL := Lib.hid (IH.out _ HM.out (step62 c t.k q) wr _ (hq.keep (desk_under hdk)) (HRK.out _ HM.out) hst.1 hst.2)
          have hstep : step62 c t.k q = c + (if 4611686018427387904 < c then 0 else bindsN t.k q) := rfl
          clear hS hq hx hpl hmade hst
          cases hx2 : t.kids[q].rlift k (step62 c t.k q) with
          | none =>
            rw [hx2] at CALL
            have HX2 := Lib.hid hx2
            clear hx2
            by_cases hbig : 4611686018427387904 < c
            · rw [if_pos hbig, Int.add_zero] at hstep
              rw [hstep] at CALL
              clear hstep
              go_wp2_with (go_at_call 78; refine (refbinds_any _ _ _).mono ?_; rintro e w' ⟨rfl, rfl⟩)
              refine CALL.out.mono ?_
              intro e w2 hg
              obtain ⟨⟨z, rfl⟩, hb2⟩ := hg.none
              have hd2 := desk_later hdk hb2
              have hs2 : w.heap.size + 1 < w2.heap.size := by have := desk_size hd2; omega
              obtain ⟨-, q1', -⟩ := desk_blocks hd2
              obtain ⟨z0, z1, z2, z3, z4⟩ := five_cells q1'
              obtain ⟨g0, g1, g2, g3, g4⟩ := five_free q1'
              clear hg hb2
              go_wp2
              (try simp only [Exit.inBlock, Exit.then])
              refine bodyPost_ret (results_cell_tmp rfl _ _ (w.heap.size + 1) _ _ _ du rfl (five_alloc q1' _ _ _ _ _ _) hu1 (by cases du <;> first | rfl | exact hu2) size_term) rfl ?_

              exact ⟨below_five_alloc (desk_under hd2) (by omega) (by omega) _ _ _ _ _ _, Or.inr ⟨Tm.zero, by rw [HEQ.out, optK_stop hlt HX2.out]; rfl, rfl, rfl⟩⟩
            · rw [if_neg hbig] at hstep
              rw [hstep] at CALL
              have hbig' : c ≤ 4611686018427387904 := by omega
              clear hstep
              go_wp2_with (go_at_call 78; refine (refbinds_any _ _ _).mono ?_; rintro e w' ⟨rfl, rfl⟩)
              refine CALL.out.mono ?_
              intro e w2 hg
              obtain ⟨⟨z, rfl⟩, hb2⟩ := hg.none
              have hd2 := desk_later hdk hb2
              have hs2 : w.heap.size + 1 < w2.heap.size := by have := desk_size hd2; omega
              obtain ⟨-, q1', -⟩ := desk_blocks hd2
              obtain ⟨z0, z1, z2, z3, z4⟩ := five_cells q1'
              obtain ⟨g0, g1, g2, g3, g4⟩ := five_free q1'
              clear hg hb2
              go_wp2
              (try simp only [Exit.inBlock, Exit.then])
              refine bodyPost_ret (results_cell_tmp rfl _ _ (w.heap.size + 1) _ _ _ du rfl (five_alloc q1' _ _ _ _ _ _) hu1 (by cases du <;> first | rfl | exact hu2) size_term) rfl ?_

              exact ⟨below_five_alloc (desk_under hd2) (by omega) (by omega) _ _ _ _ _ _, Or.inr ⟨Tm.zero, by rw [HEQ.out, optK_stop hlt HX2.out]; rfl, rfl, rfl⟩⟩
          | some u =>
            rw [hx2] at CALL
            have hfu := rlift_fine hk0 (HFI.out _ HM.out) hx2
            have HFU := Lib.hid hfu
            have HX2 := Lib.hid hx2
            clear hx2 hfu
            by_cases hbig : 4611686018427387904 < c
            · rw [if_pos hbig, Int.add_zero] at hstep
              rw [hstep] at CALL
              clear hstep
              go_wp2_with (go_at_call 78; refine (refbinds_any _ _ _).mono ?_; rintro e w' ⟨rfl, rfl⟩)
              refine CALL.out.mono ?_
              intro e w2 hg
              obtain ⟨⟨s2, rfl, hl2⟩, hb2⟩ := hg.some
              obtain ⟨a2, cap2, rfl, -, -⟩ := hl2.out
              have HL2 := Lib.hid hl2
              have HB2 := Lib.hid hb2
              clear hg hl2 hb2
              have hsB : wr.heap.size ≤ w2.heap.size := HB2.out.size
              go_wp2_with (at_builtin; refine wpList_append_lies _ rfl _ _ 24 rfl (w.heap.size + 3) 26 i0 _ 5 56 (by kernel_rfl) HI.out.1 HI.out.2.1 HI.out.2.2.1 HI.out.2.2.2 rfl (by decide) _ ps.length (cells5 ps) rfl (made_later (made_later (made_later HMD.out HB2.out) ((Below.refl _ _).alloc (Nat.le_refl _) _)) ((Below.refl _ _).alloc (Nat.le_refl _) _)).own ⟨w2.heap.size + 1, 0, none⟩ 1 1 (cells5 [(u, .slice a2 u.kids.length cap2)]) rfl rfl ?news ?one (by decide) ?max ?bytes ?base _ rfl ?next)
              case news => exact news_new2 _ _ _ _ _
              case one => intro v hv; simp [cells5] at hv; rcases hv with rfl | rfl | rfl | rfl | rfl <;> rfl
              case max => have := HPL.out; unfold maxLen; omega
              case bytes => have := HPL.out; omega
              case base => simp; omega
              case next =>
                intro g cap3 w3 hown hgrow hat _
                have hpb := push_after hdk HMD.out HFU.out HB2.out HL2.out _ _ hown hgrow hat
                clear hown hgrow hat
                go_wp2_with fail
                go_roundw
                case rel => exact ⟨q + 1, ps ++ [(u, .slice a2 u.kids.length cap2)], _, rfl, hlt, by go_num, by rw [Hid, optK_next hlt HPS.out HX2.out]; simp, hpb.1, hpb.2⟩
                case measure => simp [intOf]; omega
            · rw [if_neg hbig] at hstep
              rw [hstep] at CALL
              have hbig' : c ≤ 4611686018427387904 := by omega
              clear hstep
              go_wp2_with (go_at_call 78; refine (refbinds_any _ _ _).mono ?_; rintro e w' ⟨rfl, rfl⟩)
              refine CALL.out.mono ?_
              intro e w2 hg
              obtain ⟨⟨s2, rfl, hl2⟩, hb2⟩ := hg.some
              obtain ⟨a2, cap2, rfl, -, -⟩ := hl2.out
              have HL2 := Lib.hid hl2
              have HB2 := Lib.hid hb2
              clear hg hl2 hb2
              have hsB : wr.heap.size ≤ w2.heap.size := HB2.out.size
              go_wp2_with (at_builtin; refine wpList_append_lies _ rfl _ _ 24 rfl (w.heap.size + 3) 26 i0 _ 5 56 (by kernel_rfl) HI.out.1 HI.out.2.1 HI.out.2.2.1 HI.out.2.2.2 rfl (by decide) _ ps.length (cells5 ps) rfl (made_later (made_later (made_later HMD.out HB2.out) ((Below.refl _ _).alloc (Nat.le_refl _) _)) ((Below.refl _ _).alloc (Nat.le_refl _) _)).own ⟨w2.heap.size + 1, 0, none⟩ 1 1 (cells5 [(u, .slice a2 u.kids.length cap2)]) rfl rfl ?news ?one (by decide) ?max ?bytes ?base _ rfl ?next)
              case news => exact news_new2 _ _ _ _ _
              case one => intro v hv; simp [cells5] at hv; rcases hv with rfl | rfl | rfl | rfl | rfl <;> rfl
              case max => have := HPL.out; unfold maxLen; omega
              case bytes => have := HPL.out; omega
              case base => simp; omega
              case next =>
                intro g cap3 w3 hown hgrow hat _
                have hpb := push_after hdk HMD.out HFU.out HB2.out HL2.out _ _ hown hgrow hat
                clear hown hgrow hat
                go_wp2_with fail
                go_roundw
                case rel => exact ⟨q + 1, ps ++ [(u, .slice a2 u.kids.length cap2)], _, rfl, hlt, by go_num, by rw [Hid, optK_next hlt HPS.out HX2.out]; simp, hpb.1, hpb.2⟩
                case measure => simp [intOf]; omega
        · have : q = t.kids.length := by omega
          subst this
          have hd2 := desk_set (v' := vv) hdk
          have hres : t.rlift k c = some (.mk t.k t.i t.j t.n (ps.map (·.1))) := by
            have := HPS.out
            rw [List.take_length] at this
            rw [HEQ.out, this]; rfl
          obtain ⟨-, q1', -⟩ := desk_blocks hd2
          have hll := made_lies hmade
          obtain ⟨a2, cap2, rfl, -, -⟩ := hll.out
          simp only [List.length_map] at hd2 q1' hll
          go_wp2
          (try simp only [Exit.inBlock, Exit.then])
          refine bodyPost_ret (results_cell_tmp rfl _ _ (w.heap.size + 1) _ _ _ du rfl (five_set q1') hu1 (by cases du <;> first | rfl | exact hu2) size_term) rfl ?_
          exact ⟨below_five (desk_under hd2) (by omega) _ _ _ _ _, Or.inl ⟨_, _, hres, rfl, liesP_fives (liesP_set hll (by omega) (Nat.le_refl _) _) (by omega) (by omega) _ _ _ _ _⟩⟩

/-- The page's Lift. -/
theorem dummy_reflift : True := trivial
end Go.Proofs.Ytjhdcjjoignioaa
