/-
  Texts that AllExact stands on, in one: RefStripT, RefLift, RefPutA, RefPut, RefPutT.
-/
import Derived.Test.YtmhmengbhdaodaaRefStrip
import Derived.Test.YtmhmengbhdaodaaRefPlain
import Derived.Test.YtmhmengbhdaodaaEnds
import Derived.Test.YtmhmengbhdaodaaRefKids
import Derived.Test.YtmhmengbhdaodaaPutFacts
import Derived.Test.YtmhmengbhdaodaaRefMore
import Derived.Test.YtmhmengbhdaodaaIn
import Derived.Test.YtmhmengbhdaodaaPut
import Derived.Test.YtmhmengbhdaodaaLawKit
import Derived.Deep.RegionLaw
/-! The page's own Strip: whatever is told lies there; it may share what was handed in. -/
namespace Go.Proofs.Ytmhmengbhdaodaa
open Go.RowKit

/-- What a call hands back that gives a term, new or not. -/
def GivesT (u : Tm) (w : World) (e : Ending) (w' : World) : Prop := ∃ s' : Value, e = .returned (tv u s') ∧ Lies w' u.kids s' ∧ Below w.heap.size w w'

theorem lies_five {w w1 : World} {l : List Tm} {s : Value} (h : Lies w l s) {g : Nat} (hb : Below w.heap.size w w1) (hg : w.heap.size ≤ g) (v0 v1 v2 v3 v4 : Value) : Lies (five w1 g v0 v1 v2 v3 v4) l s := h.keep (below_five hb hg v0 v1 v2 v3 v4)

theorem stripB_ofPlain {t : Tm} (h : t.plainB = true) : t.stripB = t := by unfold Tm.stripB; rw [if_pos (plain_right h), plain_bare t h]
theorem stripB_ofMarked {t : Tm} (h : t.markedB = true) : t.stripB = t.bare := by unfold Tm.stripB; rw [if_pos (marked_right h)]
theorem stripB_ofNone {t : Tm} (h : t.plainB = false) (h' : t.markedB = false) : t.stripB = .zero := by unfold Tm.stripB; rw [if_neg (by unfold Tm.rightB; rw [h, h']; decide)]

set_option maxHeartbeats 2000000 in
theorem refStripT_any (t : Tm) (w : World) (s : Value) (hl : Lies w t.kids s) : Calls Try.prog 9 #[tv t s] w (GivesT t.stripB w) := by
  obtain ⟨a, cap, S, rfl, hc, hm, -, -, -⟩ := hl.out
  have HL := Lib.hid hl
  obtain ⟨du, hu1, hu2⟩ := under_term
  have H0 := boxes_start w t (.slice a t.kids.length cap)
  clear hl
  unfold tv
  cases hp : t.plainB with
  | true =>
    have hres := Lib.hid (stripB_ofPlain hp)
    go_enter Try.func9, Try.ntmps9
    go_wp2_with fail
    refine (refplain_any t _ _ (boxes_lies H0 HL.out)).mono ?_
    rw [hp]
    rintro e w2 ⟨rfl, hb2⟩
    have H2 := boxes_call H0 hb2
    obtain ⟨-, q1⟩ := boxes_two H2
    obtain ⟨d0, d1, d2, d3, d4⟩ := held_cells (boxes_held H2)
    obtain ⟨z0, z1, z2, z3, z4⟩ := five_cells q1
    obtain ⟨f0, f1, f2, f3, f4⟩ := five_free q1
    clear hb2 H0
    go_wp2
    refine bodyPost_ret (results_cell_row rfl _ _ (w.heap.size + 1) _ _ _ du rfl (five_set q1) hu1 (by cases du <;> first | rfl | exact hu2) size_term) rfl ?_
    rw [hres.out]
    exact ⟨_, rfl, lies_five HL.out (boxes_under H2) (by omega) _ _ _ _ _, below_five (boxes_under H2) (by omega) _ _ _ _ _⟩
  | false =>
    cases hr : t.markedB with
    | false =>
      have hres := Lib.hid (stripB_ofNone hp hr)
      go_enter Try.func9, Try.ntmps9
      go_wp2_with fail
      refine (refplain_any t _ _ (boxes_lies H0 HL.out)).mono ?_
      rw [hp]
      rintro e w1 ⟨rfl, hb1⟩
      have H1 := boxes_call H0 hb1
      obtain ⟨d0, d1, d2, d3, d4⟩ := held_cells (boxes_held H1)
      clear hb1 H0
      go_wp2_with fail
      refine (refmarked_any t _ _ (boxes_lies H1 HL.out)).mono ?_
      rw [hr]
      rintro e w2 ⟨rfl, hb2⟩
      have H2 := boxes_call H1 hb2
      obtain ⟨-, q1⟩ := boxes_two H2
      obtain ⟨z0, z1, z2, z3, z4⟩ := five_cells q1
      obtain ⟨f0, f1, f2, f3, f4⟩ := five_free q1
      clear hb2 d0 d1 d2 d3 d4
      obtain ⟨d0, d1, d2, d3, d4⟩ := held_cells (boxes_held H2)
      go_wp2
      refine bodyPost_ret (results_cell_row rfl _ _ (w.heap.size + 1) _ _ _ du rfl (five_set q1) hu1 (by cases du <;> first | rfl | exact hu2) size_term) rfl ?_
      rw [hres.out]
      exact ⟨.slice none 0 0, rfl, (liesP_nil _ (fun _ => True)).lies, below_five (boxes_under H2) (by omega) _ _ _ _ _⟩
    | true =>
      have hres := Lib.hid (stripB_ofMarked hr)
      go_enter Try.func9, Try.ntmps9
      go_wp2_with fail
      refine (refplain_any t _ _ (boxes_lies H0 HL.out)).mono ?_
      rw [hp]
      rintro e w1 ⟨rfl, hb1⟩
      have H1 := boxes_call H0 hb1
      obtain ⟨d0, d1, d2, d3, d4⟩ := held_cells (boxes_held H1)
      clear hb1 H0
      go_wp2_with fail
      refine (refmarked_any t _ _ (boxes_lies H1 HL.out)).mono ?_
      rw [hr]
      rintro e w2 ⟨rfl, hb2⟩
      have H2 := boxes_call H1 hb2
      have hs2 : w.heap.size + 2 ≤ w2.heap.size := by have := Below.size H2; simpa using this
      clear hb2 d0 d1 d2 d3 d4
      obtain ⟨d0, d1, d2, d3, d4⟩ := held_cells (boxes_held H2)
      go_wp2_with fail
      refine (refstrip_any t w.heap.size w2 _ (by omega) (HL.out.q.later (boxes_under H2)) hr).mono ?_
      rintro e w3 ⟨s3, rfl, hl3, hb3⟩
      obtain ⟨a3, cap3, S3, rfl, -⟩ := hl3.out
      have H3 := boxes_call H2 hb3
      obtain ⟨-, q1⟩ := boxes_two H3
      obtain ⟨z0, z1, z2, z3, z4⟩ := five_cells q1
      obtain ⟨f0, f1, f2, f3, f4⟩ := five_free q1
      have HL3 := Lib.hid hl3
      clear hb3 hl3 d0 d1 d2 d3 d4
      go_wp2
      refine bodyPost_ret (results_cell_row rfl _ _ (w.heap.size + 1) _ _ _ du rfl (five_set q1) hu1 (by cases du <;> first | rfl | exact hu2) size_term) rfl ?_
      rw [hres.out]
      exact ⟨_, rfl, (liesQ_fives (N := w2.heap.size) HL3.out (by omega) (by omega) (Nat.le_refl _) _ _ _ _ _).lies, below_five (boxes_under H3) (by omega) _ _ _ _ _⟩
end Go.Proofs.Ytmhmengbhdaodaa

/-! The page's own lift. -/
namespace Go.Proofs.Ytmhmengbhdaodaa
open Go.RowKit

theorem rlift_fine {k c : Int} (hk : 0 ≤ k) {t u : Tm} (hf : t.fine) (h : t.rlift k c = some u) : u.fine := by
  rw [Tm.rlift_eq] at h
  split at h
  · cases h
  · rename_i h1
    simp only [Option.map_eq_some_iff] at h
    obtain ⟨l, -, rfl⟩ := h
    obtain ⟨a1, a2, a3, a4⟩ := hf
    refine ⟨a1, ?_, a3, a4⟩
    show I64 (if t.k = 2 ∧ c ≤ t.i then t.i + k else t.i)
    split
    · rename_i h2
      have : ¬ (k > 2147483647 - t.i) := fun h => h1 ⟨h2.1, h2.2, h⟩
      unfold I64 at a2 ⊢; omega
    · exact a2
theorem step62_range {c : Int} (hc : 0 ≤ c) (hc2 : c ≤ 9223372036854775807) (k q : Int) : 0 ≤ step62 c k q ∧ step62 c k q ≤ 9223372036854775807 := by
  unfold step62; have := binds_range k q; split <;> omega

def big62 (c : Int) : Bool := decide (4611686018427387904 < c)

set_option maxRecDepth 20000 in
set_option maxHeartbeats 4000000 in
theorem rlift_any (k : Int) (hk : I64 k) (hk0 : 0 ≤ k) (t : Tm) : ∀ (c : Int) (w : World) (s : Value), Lies w t.kids s → t.rightB = true → 0 ≤ c → c ≤ 9223372036854775807 →
    Calls Try.prog 57 #[tv t s, .int .i64 k, .int .i64 c] w (Gives (t.rlift k c) w) := by
  induction t using Tm.ind with
  | h t ih =>
    intro c w s hl hr hc0 hc9
    obtain ⟨a, cap, S, rfl, hc, hm, hf, hn, hkk⟩ := hl.out
    have hlen := right_len hr
    unfold tv
    unfold maxLen at hm
    unfold I64 at hk
    obtain ⟨hk1, hk9⟩ := hk
    obtain ⟨du, hu1, hu2⟩ := under_term
    have hd0 := desk_start w t t (.slice a t.kids.length cap) (.slice none 0 0)
    have heq := Tm.rlift_eq k t c
    by_cases hk2 : t.k = 2
    · have e2 : (t.k == 2) = true := by simpa using hk2
      have hv := t.right_var hr hk2
      have hnil : t.kids = [] := (sorts_two (t.right_node hr) (by omega)).2
      have h1 : t.kids.length < 1 := by rw [hnil]; exact Nat.zero_lt_one
      have HNIL := Lib.hid hnil
      have HK2 := Lib.hid hk2
      clear hnil hk2 ih hn hkk hf hl
      by_cases hci : c ≤ t.i
      · have e3 : decide (c ≤ t.i) = true := by simpa using hci
        by_cases hov : k > 2147483647 - t.i
        · have e4 : decide (2147483647 - t.i < k) = true := by simpa using hov
          rw [if_pos ⟨HK2.out, hci, hov⟩] at heq
          have HEQ := Lib.hid heq
          clear heq hov hci
          go_enter Try.func57, Try.ntmps57
          go_wp2
          (try simp only [Exit.inBlock, Exit.then])
          refine bodyPost_ret (results_cell_tmp rfl _ _ (w.heap.size + 1) _ _ _ du rfl (heap_three _ _ _ _).2.1 hu1 (by cases du <;> first | rfl | exact hu2) size_term) rfl ?_
          exact ⟨below_three _ _ _ _, Or.inr ⟨Tm.zero, HEQ.out, rfl, rfl⟩⟩
        · have e4 : decide (2147483647 - t.i < k) = false := by simpa using hov
          have h5 : k ≤ 2147483647 - t.i := by omega
          rw [if_neg (fun h => hov h.2.2), if_pos ⟨HK2.out, hci⟩] at heq
          have HEQ := Lib.hid heq
          clear heq hov hci
          go_enter Try.func57, Try.ntmps57
          go_wp2_with fail
          go_loopw [9, 10] (fun v i wr => v = .slice none 0 0 ∧ i = .int .i64 0 ∧ Desk w t (.mk t.k (t.i + k) t.j t.n []) (.slice a t.kids.length cap) (.slice none 0 0) wr) (fun _ _ _ => 0)
          case atStart => exact ⟨rfl, rfl, desk_start w t (.mk t.k (t.i + k) t.j t.n []) (.slice a t.kids.length cap) (.slice none 0 0)⟩
          case round =>
            obtain ⟨rfl, rfl, hdk⟩ := hrel
            obtain ⟨q0, q1, q2⟩ := desk_blocks hdk
            obtain ⟨d0, d1, d2, d3, d4⟩ := five_cells q0
            obtain ⟨f0, f1, f2, f3, f4⟩ := five_free q2
            obtain ⟨y0, y1, y2, y3, y4⟩ := five_cells q2
            obtain ⟨z0, z1, z2, z3, z4⟩ := five_cells q1
            obtain ⟨g0, g1, g2, g3, g4⟩ := five_free q1
            have hd2 := desk_set (v' := .slice none 0 0) hdk
            obtain ⟨-, q1', -⟩ := desk_blocks hd2
            clear q0 q1 q2
            go_wp2
            (try simp only [Exit.inBlock, Exit.then])
            refine bodyPost_ret (results_cell_tmp rfl _ _ (w.heap.size + 1) _ _ _ du rfl (five_set q1') hu1 (by cases du <;> first | rfl | exact hu2) size_term) rfl ?_
            exact ⟨below_five (desk_under hd2) (by omega) _ _ _ _ _, Or.inl ⟨(.mk t.k (t.i + k) t.j t.n []), .slice none 0 0, by rw [HEQ.out, HNIL.out]; rfl, rfl, liesP_nil _ _⟩⟩
      · have e3 : decide (c ≤ t.i) = false := by simpa using hci
        rw [if_neg (fun h => hci h.2.1), if_neg (fun h => hci h.2)] at heq
        have HEQ := Lib.hid heq
        clear heq hci
        go_enter Try.func57, Try.ntmps57
        go_wp2_with fail
        go_loopw [9, 10] (fun v i wr => v = .slice none 0 0 ∧ i = .int .i64 0 ∧ Desk w t (.mk t.k t.i t.j t.n []) (.slice a t.kids.length cap) (.slice none 0 0) wr) (fun _ _ _ => 0)
        case atStart => exact ⟨rfl, rfl, desk_start w t (.mk t.k t.i t.j t.n []) (.slice a t.kids.length cap) (.slice none 0 0)⟩
        case round =>
          obtain ⟨rfl, rfl, hdk⟩ := hrel
          obtain ⟨q0, q1, q2⟩ := desk_blocks hdk
          obtain ⟨d0, d1, d2, d3, d4⟩ := five_cells q0
          obtain ⟨f0, f1, f2, f3, f4⟩ := five_free q2
          obtain ⟨y0, y1, y2, y3, y4⟩ := five_cells q2
          obtain ⟨z0, z1, z2, z3, z4⟩ := five_cells q1
          obtain ⟨g0, g1, g2, g3, g4⟩ := five_free q1
          have hd2 := desk_set (v' := .slice none 0 0) hdk
          obtain ⟨-, q1', -⟩ := desk_blocks hd2
          clear q0 q1 q2
          go_wp2
          (try simp only [Exit.inBlock, Exit.then])
          refine bodyPost_ret (results_cell_tmp rfl _ _ (w.heap.size + 1) _ _ _ du rfl (five_set q1') hu1 (by cases du <;> first | rfl | exact hu2) size_term) rfl ?_
          exact ⟨below_five (desk_under hd2) (by omega) _ _ _ _ _, Or.inl ⟨(.mk t.k t.i t.j t.n []), .slice none 0 0, by rw [HEQ.out, HNIL.out]; rfl, rfl, liesP_nil _ _⟩⟩
    · have e2 : (t.k == 2) = false := by simpa using hk2
      rw [if_neg (fun h => hk2 h.1), if_neg (fun h => hk2 h.1)] at heq
      have HEQ := Lib.hid heq
      have HRK := Lib.hid (t.right_kids hr)
      have HFI := Lib.hid hf
      have IH := Lib.hid ih
      have HN := Lib.hid hn
      have HK := Lib.hid hkk
      clear heq hk2 ih hn hkk hf hr hl
      obtain ⟨i0, hi, hz0, hz1, hz2⟩ := info_parts info_term
      have HI := Lib.hid (And.intro hi (And.intro hz0 (And.intro hz1 hz2)))
      clear hi hz0 hz1 hz2
      go_enter Try.func57, Try.ntmps57
      go_wp2_with fail
      go_loopw [9, 10] (fun v i wr => ∃ (q : Nat) (ps : List (Tm × Value)) (vv : Value), vv = v ∧ q ≤ t.kids.length ∧ i = .int .i64 q ∧ Hid (optK (fun q x => x.rlift k (step62 c t.k q)) 0 (t.kids.take q) = some (ps.map (·.1))) ∧ Made (w.heap.size + 3) wr v ps ∧ Desk w t t (.slice a t.kids.length cap) (.slice none 0 0) wr) (fun _ i _ => t.kids.length - (intOf i).toNat)
      case atStart => exact ⟨0, [], _, rfl, Nat.zero_le _, rfl, rfl, made_nil _ _, hd0⟩
      case round =>
        clear hd0
        obtain ⟨q, ps, vv, rfl, hq0, rfl, hps, hmade, hdk⟩ := hrel
        have HPS := Lib.hid hps.out
        clear hps
        obtain ⟨q0, q1, q2⟩ := desk_blocks hdk
        obtain ⟨d0, d1, d2, d3, d4⟩ := five_cells q0
        obtain ⟨y0, y1, y2, y3, y4⟩ := five_cells q2
        obtain ⟨f0, f1, f2, f3, f4⟩ := five_free q2
        obtain ⟨z0, z1, z2, z3, z4⟩ := five_cells q1
        obtain ⟨g0, g1, g2, g3, g4⟩ := five_free q1
        have hsz := desk_size hdk
        clear q0 q2
        by_cases hlt : q < t.kids.length
        · obtain ⟨b', o, rfl, hx⟩ := HN.out q hlt
          have hy := hx.below (desk_under hdk) hx.lt
          obtain ⟨c0, c1, c2, c3, c4⟩ := hy
          have hq := HK.out q hlt
          obtain ⟨a', cap', S', hS, -⟩ := hq.out
          rw [hS] at c4 hq
          have HM := Lib.hid (List.getElem_mem hlt)
          have hbd := binds_range t.k q
          have hst := step62_range hc0 hc9 t.k q
          have hpl : ps.length = q := by have := optK_length HPS.out; simp at this; omega
          have HPL := Lib.hid hpl
          have HMD := Lib.hid hmade
          have CALL := Lib.hid (IH.out _ HM.out (step62 c t.k q) wr _ (hq.keep (desk_under hdk)) (HRK.out _ HM.out) hst.1 hst.2)
          have hstep : step62 c t.k q = c + (if 4611686018427387904 < c then 0 else bindsN t.k q) := rfl
          clear hS hq hx hpl hmade hst
          cases hx2 : t.kids[q].rlift k (step62 c t.k q) with
          | none =>
            rw [hx2] at CALL
            have HX2 := Lib.hid hx2
            clear hx2
            by_cases hbig : 4611686018427387904 < c
            · rw [if_pos hbig, Int.add_zero] at hstep
              rw [hstep] at CALL
              clear hstep
              go_wp2_with (go_at_call 48; refine (refbinds_any _ _ _).mono ?_; rintro e w' ⟨rfl, rfl⟩)
              refine CALL.out.mono ?_
              intro e w2 hg
              obtain ⟨⟨z, rfl⟩, hb2⟩ := hg.none
              have hd2 := desk_later hdk hb2
              have hs2 : w.heap.size + 1 < w2.heap.size := by have := desk_size hd2; omega
              obtain ⟨-, q1', -⟩ := desk_blocks hd2
              obtain ⟨z0, z1, z2, z3, z4⟩ := five_cells q1'
              obtain ⟨g0, g1, g2, g3, g4⟩ := five_free q1'
              clear hg hb2
              go_wp2
              (try simp only [Exit.inBlock, Exit.then])
              refine bodyPost_ret (results_cell_tmp rfl _ _ (w.heap.size + 1) _ _ _ du rfl (five_alloc q1' _ _ _ _ _ _) hu1 (by cases du <;> first | rfl | exact hu2) size_term) rfl ?_

              exact ⟨below_five_alloc (desk_under hd2) (by omega) (by omega) _ _ _ _ _ _, Or.inr ⟨Tm.zero, by rw [HEQ.out, optK_stop hlt HX2.out]; rfl, rfl, rfl⟩⟩
            · rw [if_neg hbig] at hstep
              rw [hstep] at CALL
              have hbig' : c ≤ 4611686018427387904 := by omega
              clear hstep
              go_wp2_with (go_at_call 48; refine (refbinds_any _ _ _).mono ?_; rintro e w' ⟨rfl, rfl⟩)
              refine CALL.out.mono ?_
              intro e w2 hg
              obtain ⟨⟨z, rfl⟩, hb2⟩ := hg.none
              have hd2 := desk_later hdk hb2
              have hs2 : w.heap.size + 1 < w2.heap.size := by have := desk_size hd2; omega
              obtain ⟨-, q1', -⟩ := desk_blocks hd2
              obtain ⟨z0, z1, z2, z3, z4⟩ := five_cells q1'
              obtain ⟨g0, g1, g2, g3, g4⟩ := five_free q1'
              clear hg hb2
              go_wp2
              (try simp only [Exit.inBlock, Exit.then])
              refine bodyPost_ret (results_cell_tmp rfl _ _ (w.heap.size + 1) _ _ _ du rfl (five_alloc q1' _ _ _ _ _ _) hu1 (by cases du <;> first | rfl | exact hu2) size_term) rfl ?_

              exact ⟨below_five_alloc (desk_under hd2) (by omega) (by omega) _ _ _ _ _ _, Or.inr ⟨Tm.zero, by rw [HEQ.out, optK_stop hlt HX2.out]; rfl, rfl, rfl⟩⟩
          | some u =>
            rw [hx2] at CALL
            have hfu := rlift_fine hk0 (HFI.out _ HM.out) hx2
            have HFU := Lib.hid hfu
            have HX2 := Lib.hid hx2
            clear hx2 hfu
            by_cases hbig : 4611686018427387904 < c
            · rw [if_pos hbig, Int.add_zero] at hstep
              rw [hstep] at CALL
              clear hstep
              go_wp2_with (go_at_call 48; refine (refbinds_any _ _ _).mono ?_; rintro e w' ⟨rfl, rfl⟩)
              refine CALL.out.mono ?_
              intro e w2 hg
              obtain ⟨⟨s2, rfl, hl2⟩, hb2⟩ := hg.some
              obtain ⟨a2, cap2, rfl, -, -⟩ := hl2.out
              have HL2 := Lib.hid hl2
              have HB2 := Lib.hid hb2
              clear hg hl2 hb2
              have hsB : wr.heap.size ≤ w2.heap.size := HB2.out.size
              go_wp2_with (at_builtin; refine wpList_append_lies _ rfl _ _ 22 rfl (w.heap.size + 3) 24 i0 _ 5 56 (by kernel_rfl) HI.out.1 HI.out.2.1 HI.out.2.2.1 HI.out.2.2.2 rfl (by decide) _ ps.length (cells5 ps) rfl (made_later (made_later (made_later HMD.out HB2.out) ((Below.refl _ _).alloc (Nat.le_refl _) _)) ((Below.refl _ _).alloc (Nat.le_refl _) _)).own ⟨w2.heap.size + 1, 0, none⟩ 1 1 (cells5 [(u, .slice a2 u.kids.length cap2)]) rfl rfl ?news ?one (by decide) ?max ?bytes ?base _ rfl ?next)
              case news => exact news_new2 _ _ _ _ _
              case one => intro v hv; simp [cells5] at hv; rcases hv with rfl | rfl | rfl | rfl | rfl <;> rfl
              case max => have := HPL.out; unfold maxLen; omega
              case bytes => have := HPL.out; omega
              case base => simp; omega
              case next =>
                intro g cap3 w3 hown hgrow hat _
                have hpb := push_after hdk HMD.out HFU.out HB2.out HL2.out _ _ hown hgrow hat
                clear hown hgrow hat
                go_wp2_with fail
                go_roundw
                case rel => exact ⟨q + 1, ps ++ [(u, .slice a2 u.kids.length cap2)], _, rfl, hlt, by go_num, by rw [Hid, optK_next hlt HPS.out HX2.out]; simp, hpb.1, hpb.2⟩
                case measure => simp [intOf]; omega
            · rw [if_neg hbig] at hstep
              rw [hstep] at CALL
              have hbig' : c ≤ 4611686018427387904 := by omega
              clear hstep
              go_wp2_with (go_at_call 48; refine (refbinds_any _ _ _).mono ?_; rintro e w' ⟨rfl, rfl⟩)
              refine CALL.out.mono ?_
              intro e w2 hg
              obtain ⟨⟨s2, rfl, hl2⟩, hb2⟩ := hg.some
              obtain ⟨a2, cap2, rfl, -, -⟩ := hl2.out
              have HL2 := Lib.hid hl2
              have HB2 := Lib.hid hb2
              clear hg hl2 hb2
              have hsB : wr.heap.size ≤ w2.heap.size := HB2.out.size
              go_wp2_with (at_builtin; refine wpList_append_lies _ rfl _ _ 22 rfl (w.heap.size + 3) 24 i0 _ 5 56 (by kernel_rfl) HI.out.1 HI.out.2.1 HI.out.2.2.1 HI.out.2.2.2 rfl (by decide) _ ps.length (cells5 ps) rfl (made_later (made_later (made_later HMD.out HB2.out) ((Below.refl _ _).alloc (Nat.le_refl _) _)) ((Below.refl _ _).alloc (Nat.le_refl _) _)).own ⟨w2.heap.size + 1, 0, none⟩ 1 1 (cells5 [(u, .slice a2 u.kids.length cap2)]) rfl rfl ?news ?one (by decide) ?max ?bytes ?base _ rfl ?next)
              case news => exact news_new2 _ _ _ _ _
              case one => intro v hv; simp [cells5] at hv; rcases hv with rfl | rfl | rfl | rfl | rfl <;> rfl
              case max => have := HPL.out; unfold maxLen; omega
              case bytes => have := HPL.out; omega
              case base => simp; omega
              case next =>
                intro g cap3 w3 hown hgrow hat _
                have hpb := push_after hdk HMD.out HFU.out HB2.out HL2.out _ _ hown hgrow hat
                clear hown hgrow hat
                go_wp2_with fail
                go_roundw
                case rel => exact ⟨q + 1, ps ++ [(u, .slice a2 u.kids.length cap2)], _, rfl, hlt, by go_num, by rw [Hid, optK_next hlt HPS.out HX2.out]; simp, hpb.1, hpb.2⟩
                case measure => simp [intOf]; omega
        · have : q = t.kids.length := by omega
          subst this
          have hd2 := desk_set (v' := vv) hdk
          have hres : t.rlift k c = some (.mk t.k t.i t.j t.n (ps.map (·.1))) := by
            have := HPS.out
            rw [List.take_length] at this
            rw [HEQ.out, this]; rfl
          obtain ⟨-, q1', -⟩ := desk_blocks hd2
          have hll := made_lies hmade
          obtain ⟨a2, cap2, rfl, -, -⟩ := hll.out
          simp only [List.length_map] at hd2 q1' hll
          go_wp2
          (try simp only [Exit.inBlock, Exit.then])
          refine bodyPost_ret (results_cell_tmp rfl _ _ (w.heap.size + 1) _ _ _ du rfl (five_set q1') hu1 (by cases du <;> first | rfl | exact hu2) size_term) rfl ?_
          exact ⟨below_five (desk_under hd2) (by omega) _ _ _ _ _, Or.inl ⟨_, _, hres, rfl, liesP_fives (liesP_set hll (by omega) (Nat.le_refl _) _) (by omega) (by omega) _ _ _ _ _⟩⟩

/-- The page's Lift. -/
theorem dummy_reflift : True := trivial
end Go.Proofs.Ytmhmengbhdaodaa

/-! What the page's own put calls: raised, plainly, may. -/
namespace Go.Proofs.Ytmhmengbhdaodaa
open Go.RowKit

set_option maxHeartbeats 2000000 in
theorem refStripS_any (t : Tm) (E : Nat) (w : World) (s : Value) (hE : E ≤ w.heap.size) (hl : LiesQ w (· < E) t.kids s) : Calls Try.prog 9 #[tv t s] w (Shares E t.stripB w) := by
  obtain ⟨a, cap, S, rfl, hc, hm, -, -, -⟩ := hl.out
  have HL := Lib.hid hl
  obtain ⟨du, hu1, hu2⟩ := under_term
  have H0 := boxes_start w t (.slice a t.kids.length cap)
  clear hl
  unfold tv
  cases hp : t.plainB with
  | true =>
    have hres := Lib.hid (stripB_ofPlain hp)
    go_enter Try.func9, Try.ntmps9
    go_wp2_with fail
    refine (refplain_any t _ _ (boxes_lies H0 HL.out.lies)).mono ?_
    rw [hp]
    rintro e w2 ⟨rfl, hb2⟩
    have H2 := boxes_call H0 hb2
    obtain ⟨-, q1⟩ := boxes_two H2
    obtain ⟨d0, d1, d2, d3, d4⟩ := held_cells (boxes_held H2)
    obtain ⟨z0, z1, z2, z3, z4⟩ := five_cells q1
    obtain ⟨f0, f1, f2, f3, f4⟩ := five_free q1
    clear hb2 H0
    go_wp2
    refine bodyPost_ret (results_cell_row rfl _ _ (w.heap.size + 1) _ _ _ du rfl (five_set q1) hu1 (by cases du <;> first | rfl | exact hu2) size_term) rfl ?_
    rw [hres.out]
    exact ⟨_, rfl, (HL.out.later (below_five (boxes_under H2) (by omega) _ _ _ _ _)).wide (fun b hb => Or.inl hb), below_five (boxes_under H2) (by omega) _ _ _ _ _⟩
  | false =>
    cases hr : t.markedB with
    | false =>
      have hres := Lib.hid (stripB_ofNone hp hr)
      go_enter Try.func9, Try.ntmps9
      go_wp2_with fail
      refine (refplain_any t _ _ (boxes_lies H0 HL.out.lies)).mono ?_
      rw [hp]
      rintro e w1 ⟨rfl, hb1⟩
      have H1 := boxes_call H0 hb1
      obtain ⟨d0, d1, d2, d3, d4⟩ := held_cells (boxes_held H1)
      clear hb1 H0
      go_wp2_with fail
      refine (refmarked_any t _ _ (boxes_lies H1 HL.out.lies)).mono ?_
      rw [hr]
      rintro e w2 ⟨rfl, hb2⟩
      have H2 := boxes_call H1 hb2
      obtain ⟨-, q1⟩ := boxes_two H2
      obtain ⟨z0, z1, z2, z3, z4⟩ := five_cells q1
      obtain ⟨f0, f1, f2, f3, f4⟩ := five_free q1
      clear hb2 d0 d1 d2 d3 d4
      obtain ⟨d0, d1, d2, d3, d4⟩ := held_cells (boxes_held H2)
      go_wp2
      refine bodyPost_ret (results_cell_row rfl _ _ (w.heap.size + 1) _ _ _ du rfl (five_set q1) hu1 (by cases du <;> first | rfl | exact hu2) size_term) rfl ?_
      rw [hres.out]
      exact ⟨.slice none 0 0, rfl, liesQ_nil _ _, below_five (boxes_under H2) (by omega) _ _ _ _ _⟩
    | true =>
      have hres := Lib.hid (stripB_ofMarked hr)
      go_enter Try.func9, Try.ntmps9
      go_wp2_with fail
      refine (refplain_any t _ _ (boxes_lies H0 HL.out.lies)).mono ?_
      rw [hp]
      rintro e w1 ⟨rfl, hb1⟩
      have H1 := boxes_call H0 hb1
      obtain ⟨d0, d1, d2, d3, d4⟩ := held_cells (boxes_held H1)
      clear hb1 H0
      go_wp2_with fail
      refine (refmarked_any t _ _ (boxes_lies H1 HL.out.lies)).mono ?_
      rw [hr]
      rintro e w2 ⟨rfl, hb2⟩
      have H2 := boxes_call H1 hb2
      have hs2 : w.heap.size + 2 ≤ w2.heap.size := by have := Below.size H2; simpa using this
      clear hb2 d0 d1 d2 d3 d4
      obtain ⟨d0, d1, d2, d3, d4⟩ := held_cells (boxes_held H2)
      go_wp2_with fail
      refine (refstrip_any t E w2 _ (by omega) (HL.out.later (boxes_under H2)) hr).mono ?_
      rintro e w3 ⟨s3, rfl, hl3, hb3⟩
      obtain ⟨a3, cap3, S3, rfl, -⟩ := hl3.out
      have H3 := boxes_call H2 hb3
      obtain ⟨-, q1⟩ := boxes_two H3
      obtain ⟨z0, z1, z2, z3, z4⟩ := five_cells q1
      obtain ⟨f0, f1, f2, f3, f4⟩ := five_free q1
      have HL3 := Lib.hid hl3
      clear hb3 hl3 d0 d1 d2 d3 d4
      go_wp2
      refine bodyPost_ret (results_cell_row rfl _ _ (w.heap.size + 1) _ _ _ du rfl (five_set q1) hu1 (by cases du <;> first | rfl | exact hu2) size_term) rfl ?_
      rw [hres.out]
      exact ⟨_, rfl, liesQ_fives HL3.out (by omega) (by omega) (by omega) _ _ _ _ _, below_five (boxes_under H3) (by omega) _ _ _ _ _⟩

def plainlyB (t : Tm) (q : Int) : Bool := decide (12 < t.k) || (t.k == 12 && q == 2)
theorem refplainly_any (t : Tm) (q : Int) (w : World) (a : Option Addr) (n cap : Nat) : Calls Try.prog 49 #[tv t (.slice a n cap), .int .i64 q] w fun e w' => e = .returned (.bool (plainlyB t q)) ∧ Below w.heap.size w w' := by
  unfold tv
  go_enter Try.func49, Try.ntmps49
  go_wp2
  all_goals go_ret
  all_goals exact ⟨ret_bool (by unfold plainlyB; simp_all), (Below.refl _ _).alloc (Nat.le_refl _) _⟩

theorem gives_pick {r : Option Tm} {w w' : World} {e : Ending} (h : Gives r w e w') : GivesY r w e w' := by
  obtain ⟨hb, ⟨u, s', h1, h2, h3⟩ | ⟨z, h1, -, h2⟩⟩ := h
  · obtain ⟨a, cap, rfl, -, -⟩ := h3.out
    exact ⟨u, a, _, cap, true, h2, hb, Or.inl ⟨rfl, h1, rfl, h3⟩⟩
  · exact ⟨z, none, 0, 0, false, h2, hb, Or.inr ⟨rfl, h1⟩⟩

theorem below_two (w : World) (a b : Obj) : Below w.heap.size w ((w.alloc a).alloc b) := ((Below.refl _ _).alloc (Nat.le_refl _) _).alloc (by simp) _
theorem heap_two (w : World) (a b : Obj) : ((w.alloc a).alloc b).heap[w.heap.size]? = some a ∧ ((w.alloc a).alloc b).heap[w.heap.size + 1]? = some b := by
  refine ⟨by rw [Below.heap_alloc _ _ _ (by simp), alloc_new], heap_alloc2_new _ _ _⟩

set_option maxRecDepth 20000 in
set_option maxHeartbeats 2000000 in
/-- A term that is put beneath so many binders. -/
theorem refraised_any (u : Tm) (b : Int) (pl : Bool) (w : World) (s : Value) (hl : Lies w u.kids s) (hr : u.rightB = true) (hd : u.deep ≤ 100000) (hb0 : 0 ≤ b) (hb1 : b ≤ 9223372036854775807) :
    Calls Try.prog 47 #[tv u s, .int .i64 b, .bool pl] w (GivesY ((if pl = true then u.bare else u).each (liftF b 0) 0) w) := by
  obtain ⟨a, cap, S, rfl, -⟩ := hl.out
  obtain ⟨du, hu1, hu2⟩ := under_term
  have hB := below_two w (.cells #[.int .i64 u.k, .int .i64 u.i, .int .i64 u.j, .int .i64 u.n, .slice a u.kids.length cap] 24) (.cells #[.int .i64 0, .int .i64 0, .int .i64 0, .int .i64 0, .slice none 0 0] 24)
  obtain ⟨q0, q1⟩ := heap_two w (.cells #[.int .i64 u.k, .int .i64 u.i, .int .i64 u.j, .int .i64 u.n, .slice a u.kids.length cap] 24) (.cells #[.int .i64 0, .int .i64 0, .int .i64 0, .int .i64 0, .slice none 0 0] 24)
  have HQ := Lib.hid (hl.q.later hB)
  have hs2 : w.heap.size + 1 < ((w.alloc (.cells #[.int .i64 u.k, .int .i64 u.i, .int .i64 u.j, .int .i64 u.n, .slice a u.kids.length cap] 24)).alloc (.cells #[.int .i64 0, .int .i64 0, .int .i64 0, .int .i64 0, .slice none 0 0] 24)).heap.size := by simp
  clear hl
  unfold tv
  have hi64 : I64 b := by unfold I64; omega
  cases pl with
  | false =>
    have CL := rlift_any b hi64 hb0 u 0
    have hre := rlift_lift u b 0 hb0 (Int.le_refl 0) (by omega) hr
    go_enter Try.func47, Try.ntmps47
    go_upto_region 1 with fail
    generalize (w.alloc (.cells #[.int .i64 u.k, .int .i64 u.i, .int .i64 u.j, .int .i64 u.n, .slice a u.kids.length cap] 24)).alloc (.cells #[.int .i64 0, .int .i64 0, .int .i64 0, .int .i64 0, .slice none 0 0] 24) = w2 at hB q0 q1 HQ hs2 ⊢
    obtain ⟨d0, d1, d2, d3, d4⟩ := five_cells q0
    have CL2 := CL w2 _ HQ.out.lies hr (Int.le_refl 0) (by omega)
    rw [hre] at CL2
    have CL3 := Lib.hid CL2
    have HQ1 := Lib.hid q1
    clear CL CL2 hre hr q0 q1
    simp only [Bool.false_eq_true, if_false]
    go_wp2_with fail
    refine CL3.out.mono ?_
    intro e w3 hg
    obtain ⟨x, xa, xn, xc, ok, rfl, hb3, hans⟩ := gives_pick hg
    have HANS := Lib.hid hans
    have q1' := (hb3.block _ hs2).trans HQ1.out
    obtain ⟨z0, z1, z2, z3, z4⟩ := five_cells q1'
    obtain ⟨f0, f1, f2, f3, f4⟩ := five_free q1'
    have hs3 : w.heap.size + 1 < w3.heap.size := block_lt q1'
    have HB3 := Lib.hid (hB.trans (hb3.mono hB.size))
    clear hg hans hb3 d0 d1 d2 d3 d4
    go_wp2
    refine bodyPost_ret (results_cell_tmp rfl _ _ (w.heap.size + 1) _ _ _ du rfl (five_set q1') hu1 (by cases du <;> first | rfl | exact hu2) size_term) rfl ?_
    refine ⟨x, xa, xn, xc, ok, rfl, below_five HB3.out (by omega) _ _ _ _ _, ?_⟩
    rcases HANS.out with ⟨rfl, h1, h2, h3⟩ | ⟨rfl, h1⟩
    · exact Or.inl ⟨rfl, h1, h2, liesP_fives h3 (by omega) (by have := hB.size; omega) _ _ _ _ _⟩
    · exact Or.inr ⟨rfl, h1⟩
  | true =>
    have hbr : u.bare.rightB = true := bareIf_right hr true
    have hbd : u.bare.deep ≤ 100000 := by have := bareIf_deep u true; simp at this; omega
    have CL := rlift_any b hi64 hb0 u.bare 0
    have hre := rlift_lift u.bare b 0 hb0 (Int.le_refl 0) (by omega) hbr
    have hst : u.stripB = u.bare := by unfold Tm.stripB; rw [if_pos hr]
    go_enter Try.func47, Try.ntmps47
    go_upto_region 1 with fail
    generalize (w.alloc (.cells #[.int .i64 u.k, .int .i64 u.i, .int .i64 u.j, .int .i64 u.n, .slice a u.kids.length cap] 24)).alloc (.cells #[.int .i64 0, .int .i64 0, .int .i64 0, .int .i64 0, .slice none 0 0] 24) = w2 at hB q0 q1 HQ hs2 ⊢
    obtain ⟨d0, d1, d2, d3, d4⟩ := five_cells q0
    have CS := refStripS_any u w.heap.size w2 _ hB.size HQ.out
    rw [hst] at CS
    have HRE := Lib.hid hre
    have HCL := Lib.hid CL
    have HCS := Lib.hid CS
    have HBR := Lib.hid hbr
    have HQ0 := Lib.hid q0
    have HQ1 := Lib.hid q1
    clear CL CS hre hr hbr hst q0 q1
    simp only [if_true]
    go_wp2_with fail
    refine HCS.out.mono ?_
    rintro e w3 ⟨s3, rfl, hl3, hb3⟩
    obtain ⟨a3, cap3, S3, rfl, -⟩ := hl3.out
    have q0' := (hb3.block _ (by omega)).trans HQ0.out
    have q1' := (hb3.block _ hs2).trans HQ1.out
    obtain ⟨z0, z1, z2, z3, z4⟩ := five_cells q0'
    obtain ⟨f0, f1, f2, f3, f4⟩ := five_free q0'
    have hl4 : Lies (((((w3.setCell ⟨w.heap.size, 0, none⟩ (.int .i64 u.bare.k)).setCell ⟨w.heap.size, 1, none⟩ (.int .i64 u.bare.i)).setCell ⟨w.heap.size, 2, none⟩ (.int .i64 u.bare.j)).setCell ⟨w.heap.size, 3, none⟩ (.int .i64 u.bare.n)).setCell ⟨w.heap.size, 4, none⟩ (.slice a3 u.bare.kids.length cap3)) u.bare.kids (.slice a3 u.bare.kids.length cap3) := (liesQ_fives (E := w.heap.size) (N := w2.heap.size) hl3 (Nat.le_refl _) (by omega) (Nat.le_refl _) _ _ _ _ _).lies
    have hb4 : Below w.heap.size w (((((w3.setCell ⟨w.heap.size, 0, none⟩ (.int .i64 u.bare.k)).setCell ⟨w.heap.size, 1, none⟩ (.int .i64 u.bare.i)).setCell ⟨w.heap.size, 2, none⟩ (.int .i64 u.bare.j)).setCell ⟨w.heap.size, 3, none⟩ (.int .i64 u.bare.n)).setCell ⟨w.heap.size, 4, none⟩ (.slice a3 u.bare.kids.length cap3)) := below_five (hB.trans (hb3.mono hB.size)) (Nat.le_refl _) _ _ _ _ _
    have q1f : (((((w3.setCell ⟨w.heap.size, 0, none⟩ (.int .i64 u.bare.k)).setCell ⟨w.heap.size, 1, none⟩ (.int .i64 u.bare.i)).setCell ⟨w.heap.size, 2, none⟩ (.int .i64 u.bare.j)).setCell ⟨w.heap.size, 3, none⟩ (.int .i64 u.bare.n)).setCell ⟨w.heap.size, 4, none⟩ (.slice a3 u.bare.kids.length cap3)).heap[w.heap.size + 1]? = some (.cells #[.int .i64 0, .int .i64 0, .int .i64 0, .int .i64 0, .slice none 0 0] 24 (0, 0)) := (five_other _ _ _ _ _ _ _ (by omega)).trans q1'
    have hs4 : w.heap.size + 1 < (((((w3.setCell ⟨w.heap.size, 0, none⟩ (.int .i64 u.bare.k)).setCell ⟨w.heap.size, 1, none⟩ (.int .i64 u.bare.i)).setCell ⟨w.heap.size, 2, none⟩ (.int .i64 u.bare.j)).setCell ⟨w.heap.size, 3, none⟩ (.int .i64 u.bare.n)).setCell ⟨w.heap.size, 4, none⟩ (.slice a3 u.bare.kids.length cap3)).heap.size := block_lt q1f
    have q0f : (((((w3.setCell ⟨w.heap.size, 0, none⟩ (.int .i64 u.bare.k)).setCell ⟨w.heap.size, 1, none⟩ (.int .i64 u.bare.i)).setCell ⟨w.heap.size, 2, none⟩ (.int .i64 u.bare.j)).setCell ⟨w.heap.size, 3, none⟩ (.int .i64 u.bare.n)).setCell ⟨w.heap.size, 4, none⟩ (.slice a3 u.bare.kids.length cap3)).heap[w.heap.size]? = some (.cells #[.int .i64 u.bare.k, .int .i64 u.bare.i, .int .i64 u.bare.j, .int .i64 u.bare.n, .slice a3 u.bare.kids.length cap3] 24 (0, 0)) := five_set (v0 := .int .i64 u.bare.k) (v1 := .int .i64 u.bare.i) (v2 := .int .i64 u.bare.j) (v3 := .int .i64 u.bare.n) (v4 := .slice a3 u.bare.kids.length cap3) q0'
    have HL4 := Lib.hid hl4
    have HB4 := Lib.hid hb4
    have HQ1F := Lib.hid q1f
    have HQ0F := Lib.hid q0f
    have HS4 := Lib.hid hs4
    clear hl3 hb3 q0' q1' d0 d1 d2 d3 d4 hl4 hb4 q1f q0f hs4 HQ HQ0 HQ1 HCS hB hs2
    go_upto_region 3 with fail
    generalize ((((w3.setCell ⟨w.heap.size, 0, none⟩ (.int .i64 u.bare.k)).setCell ⟨w.heap.size, 1, none⟩ (.int .i64 u.bare.i)).setCell ⟨w.heap.size, 2, none⟩ (.int .i64 u.bare.j)).setCell ⟨w.heap.size, 3, none⟩ (.int .i64 u.bare.n)).setCell ⟨w.heap.size, 4, none⟩ (.slice a3 u.bare.kids.length cap3) = w4 at HL4 HB4 HQ1F HQ0F HS4 ⊢
    obtain ⟨d0, d1, d2, d3, d4⟩ := five_cells HQ0F.out
    have CL2 := HCL.out w4 _ HL4.out HBR.out (Int.le_refl 0) (by omega)
    rw [HRE.out] at CL2
    have CL3 := Lib.hid CL2
    clear CL2 HRE HCL z0 z1 z2 z3 z4 f0 f1 f2 f3 f4
    go_wp2_with fail
    refine CL3.out.mono ?_
    intro e w5 hg
    obtain ⟨x, xa, xn, xc, ok, rfl, hb5, hans⟩ := gives_pick hg
    have HANS := Lib.hid hans
    have q1' := (hb5.block _ HS4.out).trans HQ1F.out
    obtain ⟨z0, z1, z2, z3, z4⟩ := five_cells q1'
    obtain ⟨f0, f1, f2, f3, f4⟩ := five_free q1'
    have hs5 : w.heap.size + 1 < w5.heap.size := block_lt q1'
    have HB5 := Lib.hid (HB4.out.trans (hb5.mono HB4.out.size))
    clear hg hans hb5 d0 d1 d2 d3 d4
    go_wp2
    refine bodyPost_ret (results_cell_tmp rfl _ _ (w.heap.size + 1) _ _ _ du rfl (five_set q1') hu1 (by cases du <;> first | rfl | exact hu2) size_term) rfl ?_
    refine ⟨x, xa, xn, xc, ok, rfl, below_five HB5.out (by omega) _ _ _ _ _, ?_⟩
    rcases HANS.out with ⟨rfl, h1, h2, h3⟩ | ⟨rfl, h1⟩
    · exact Or.inl ⟨rfl, h1, h2, liesP_fives h3 (by have := HS4.out; omega) (by have := HB4.out.size; omega) _ _ _ _ _⟩
    · exact Or.inr ⟨rfl, h1⟩
end Go.Proofs.Ytmhmengbhdaodaa

/-! The page's own put. -/
namespace Go.Proofs.Ytmhmengbhdaodaa
open Go.RowKit

theorem kept_set {w w1 : World} (h : Kept w w1) {p : Addr} (hp : w.heap.size ≤ p.block) (v : Value) : Kept w (w1.setCell p v) := Below.setCell h hp v
def Five (v : World) (b : Nat) (t : Tm) (s : Value) : Prop := v.cell? ⟨b, 0, none⟩ = some (.int .i64 t.k) ∧ v.cell? ⟨b, 1, none⟩ = some (.int .i64 t.i) ∧ v.cell? ⟨b, 2, none⟩ = some (.int .i64 t.j) ∧ v.cell? ⟨b, 3, none⟩ = some (.int .i64 t.n) ∧ v.cell? ⟨b, 4, none⟩ = some s
theorem Five.keep {v w' : World} {b : Nat} {t : Tm} {s : Value} (h : Five v b t s) (hk : Below v.heap.size v w') : Five w' b t s :=
  ⟨cell_lat hk h.1, cell_lat hk h.2.1, cell_lat hk h.2.2.1, cell_lat hk h.2.2.2.1, cell_lat hk h.2.2.2.2⟩
theorem put_and {v w' : World} {b0 b1 b2 o2 : Nat} {t u x : Tm} {st su sx : Value} (h : Kept v w') (ht : Five v b0 t st) (hu : Five v b1 u su) (hx : Node v b2 o2 x sx) : Kept v w' ∧ w'.cell? ⟨b0, 0, none⟩ = some (.int .i64 t.k) ∧ w'.cell? ⟨b0, 1, none⟩ = some (.int .i64 t.i) ∧ w'.cell? ⟨b0, 2, none⟩ = some (.int .i64 t.j) ∧ w'.cell? ⟨b0, 3, none⟩ = some (.int .i64 t.n) ∧ w'.cell? ⟨b0, 4, none⟩ = some (st) ∧ w'.cell? ⟨b1, 0, none⟩ = some (.int .i64 u.k) ∧ w'.cell? ⟨b1, 1, none⟩ = some (.int .i64 u.i) ∧ w'.cell? ⟨b1, 2, none⟩ = some (.int .i64 u.j) ∧ w'.cell? ⟨b1, 3, none⟩ = some (.int .i64 u.n) ∧ w'.cell? ⟨b1, 4, none⟩ = some (su) ∧ w'.cell? ⟨b2, o2, none⟩ = some (.int .i64 x.k) ∧ w'.cell? ⟨b2, o2 + 1, none⟩ = some (.int .i64 x.i) ∧ w'.cell? ⟨b2, o2 + 2, none⟩ = some (.int .i64 x.j) ∧ w'.cell? ⟨b2, o2 + 3, none⟩ = some (.int .i64 x.n) ∧ w'.cell? ⟨b2, o2 + 4, none⟩ = some (sx) := by
  obtain ⟨t0, t1, t2, t3, t4⟩ := ht.keep h
  obtain ⟨u0, u1, u2, u3, u4⟩ := hu.keep h
  obtain ⟨x0, x1, x2, x3, x4⟩ := hx.below h hx.lt
  exact ⟨h, t0, t1, t2, t3, t4, u0, u1, u2, u3, u4, x0, x1, x2, x3, x4⟩

set_option maxRecDepth 20000 in
set_option maxHeartbeats 8000000 in
theorem refput_any (u : Tm) (hur : u.rightB = true) (hud : u.deep ≤ 100000) (t : Tm) : ∀ (b : Int) (pl : Bool) (wi : World) (s su : Value), Lies wi t.kids s → Lies wi u.kids su → t.rightB = true → 0 ≤ b → b + 2 * t.deep ≤ 1000000 →
    Calls Try.prog 36 #[tv t s, tv u su, .int .i64 b, .bool pl] wi (GivesY (t.putG (gPut u) b (pl || decide (12 < t.k))) wi) := by
  induction t using Tm.ind with
  | h t ih =>
    intro b pl wi s su hl hlu hr hb hd
    obtain ⟨a, cap, S, rfl, hc, hm, hf, hn, hkk⟩ := hl.out
    obtain ⟨au, capu, SU, rfl, -⟩ := hlu.out
    have hlen := right_len hr
    unfold maxLen at hm
    obtain ⟨du, hu1, hu2⟩ := under_term
    have hde := t.deep_eq
    have HUR := Lib.hid hur
    have hN : (wi.alloc (.cells #[.int .i64 t.k, .int .i64 t.i, .int .i64 t.j, .int .i64 t.n, .slice a t.kids.length cap] 24)).heap.size = wi.heap.size + 1 := by simp
    have hbP : Below wi.heap.size wi (wi.alloc (.cells #[.int .i64 t.k, .int .i64 t.i, .int .i64 t.j, .int .i64 t.n, .slice a t.kids.length cap] 24)) := (Below.refl _ _).alloc (Nat.le_refl _) _
    have hTc : Five (wi.alloc (.cells #[.int .i64 t.k, .int .i64 t.i, .int .i64 t.j, .int .i64 t.n, .slice a t.kids.length cap] 24)) wi.heap.size t (.slice a t.kids.length cap) := five_cells (alloc_new _ _)
    have HLU := Lib.hid (hlu.keep hbP)
    have HLT := Lib.hid (hl.keep hbP)
    clear hlu
    unfold tv
    by_cases hk2 : t.k = 2
    · have e2 : (t.k == 2) = true := by simpa using hk2
      have hv := t.right_var hr hk2
      have hve := right_var_eq hr hk2
      have hflag : (pl || decide (12 < t.k)) = pl := by rw [decide_eq_false (by omega), Bool.or_false]
      rw [hflag, t.putG_var _ _ _ hk2]
      have HV := Lib.hid hve
      clear hflag hk2 ih hn hkk hf hl hve
      by_cases hib : t.i = b
      · have e3 : (t.i == b) = true := by simpa using hib
        have hg : gPut u t.i b pl = (if pl = true then u.bare else u).each (liftF b 0) 0 := by unfold gPut; rw [if_neg (by omega), if_pos hib]
        obtain ⟨R, hRR⟩ : ∃ R, (if pl = true then u.bare else u).each (liftF b 0) 0 = R := ⟨_, rfl⟩
        have CR : Hid (∀ w' s', Lies w' u.kids s' → Calls Try.prog 47 #[tv u s', .int .i64 b, .bool pl] w' (GivesY R w')) := fun w' s' h => by rw [← hRR]; exact refraised_any u b pl w' s' h hur hud hb (by omega)
        rw [hg, hRR]
        clear hg hib hRR
        go_enter Try.func36, Try.ntmps36
        go_upto_region 1 with fail
        generalize wi.alloc (.cells #[.int .i64 t.k, .int .i64 t.i, .int .i64 t.j, .int .i64 t.n, .slice a t.kids.length cap] 24) = w at hN hbP hTc HLU HLT ⊢
        rw [← hN]
        have HBP := Lib.hid hbP
        have hplt : wi.heap.size < w.heap.size := by omega
        have hplt1 : wi.heap.size < w.heap.size + 1 := by omega
        have hplt2 : wi.heap.size < w.heap.size + 1 + 1 := by omega
        clear hbP hN
        have H0 := boxes_start w u (.slice au u.kids.length capu)
        obtain ⟨d0, d1, d2, d3, d4⟩ := hTc
        go_wp2_with fail
        refine (CR.out _ _ (boxes_lies H0 HLU.out)).mono ?_
        rintro e w3 ⟨x, xa, xn, xc, ok, rfl, hb3, hans⟩
        have H3 := boxes_call H0 hb3
        obtain ⟨-, q1⟩ := boxes_two H3
        obtain ⟨z0, z1, z2, z3, z4⟩ := five_cells q1
        obtain ⟨f0, f1, f2, f3, f4⟩ := five_free q1
        have HANS := Lib.hid hans
        clear hans hb3 d0 d1 d2 d3 d4
        go_wp2
        (try simp only [Exit.inBlock, Exit.then])
        refine bodyPost_ret (results_cell_tmp rfl _ _ (w.heap.size + 1) _ _ _ du rfl (five_set q1) hu1 (by cases du <;> first | rfl | exact hu2) size_term) rfl ?_
        refine ⟨x, xa, xn, xc, ok, rfl, HBP.out.trans ((below_five (boxes_under H3) (by omega) _ _ _ _ _).mono HBP.out.size), ?_⟩
        rcases HANS.out with ⟨rfl, h1, h2, h3⟩ | ⟨rfl, h1⟩
        · exact Or.inl ⟨rfl, h1, h2, liesP_fives h3 (by simp) (by have := HBP.out.size; simp; omega) _ _ _ _ _⟩
        · exact Or.inr ⟨rfl, h1⟩
      have e3 : (t.i == b) = false := by simpa using hib
      by_cases hgt : b < t.i
      · have e4 : decide (b < t.i) = true := decide_eq_true hgt
        have hg : gPut u t.i b pl = some (varT (t.i - 1)) := by unfold gPut; rw [if_neg (by omega), if_neg hib]
        have hwr : IntKind.i64.wrap (t.i - 1) = t.i - 1 := IntWalk.i64_in _ (by omega)
        rw [hg]
        clear hg hib
        go_enter Try.func36, Try.ntmps36
        go_upto_region 1 with fail
        generalize wi.alloc (.cells #[.int .i64 t.k, .int .i64 t.i, .int .i64 t.j, .int .i64 t.n, .slice a t.kids.length cap] 24) = w at hN hbP hTc HLU HLT ⊢
        rw [← hN]
        have HBP := Lib.hid hbP
        have hplt : wi.heap.size < w.heap.size := by omega
        have hplt1 : wi.heap.size < w.heap.size + 1 := by omega
        have hplt2 : wi.heap.size < w.heap.size + 1 + 1 := by omega
        clear hbP hN
        obtain ⟨d0, d1, d2, d3, d4⟩ := hTc
        go_wp2
        (try simp only [Exit.inBlock, Exit.then])
        refine bodyPost_ret (results_cell_tmp rfl _ _ (w.heap.size + 1) _ _ _ du rfl (heap_alloc2_new _ _ _) hu1 (by cases du <;> first | rfl | exact hu2) size_term) rfl ?_
        exact ⟨varT (t.i - 1), none, 0, 0, true, rfl, HBP.out.trans ((below_two w _ _).mono HBP.out.size), Or.inl ⟨rfl, rfl, rfl, liesP_nil _ _⟩⟩
      · have e4 : decide (b < t.i) = false := decide_eq_false hgt
        have hg : gPut u t.i b pl = some (varT t.i) := by unfold gPut; rw [if_pos (by omega)]
        rw [hg]
        clear hg hib
        go_enter Try.func36, Try.ntmps36
        go_upto_region 1 with fail
        generalize wi.alloc (.cells #[.int .i64 t.k, .int .i64 t.i, .int .i64 t.j, .int .i64 t.n, .slice a t.kids.length cap] 24) = w at hN hbP hTc HLU HLT ⊢
        rw [← hN]
        have HBP := Lib.hid hbP
        have hplt : wi.heap.size < w.heap.size := by omega
        have hplt1 : wi.heap.size < w.heap.size + 1 := by omega
        have hplt2 : wi.heap.size < w.heap.size + 1 + 1 := by omega
        clear hbP hN
        obtain ⟨d0, d1, d2, d3, d4⟩ := hTc
        go_wp2
        (try simp only [Exit.inBlock, Exit.then])
        refine bodyPost_ret (results_cell_tmp rfl _ _ (w.heap.size + 1) _ _ _ du rfl (heap_alloc2_new _ _ _) hu1 (by cases du <;> first | rfl | exact hu2) size_term) rfl ?_
        have hvk : t.kids = [] := by have := HV.out; rw [this]; rfl
        refine ⟨t, a, t.kids.length, cap, true, rfl, HBP.out.trans ((below_two w _ _).mono HBP.out.size), Or.inl ⟨rfl, by rw [HV.out]; rfl, rfl, ?_⟩⟩
        rw [hvk]
        exact .mk [] a cap (fun _ => .nilIface) (Nat.zero_le _) (by unfold maxLen; omega) (fun _ h => by cases h) (fun _ h => by cases h) (fun _ h => by cases h)
    · have e2 : (t.k == 2) = false := by simpa using hk2
      obtain ⟨F, hF⟩ : ∃ F, (pl || decide (12 < t.k)) = F := ⟨_, rfl⟩
      have heq := t.putG_node (gPut u) b F hk2
      rw [hF]
      have HF := Lib.hid hF
      have HEQ := Lib.hid heq
      have HR := Lib.hid hr
      have HRK := Lib.hid (t.right_kids hr)
      have HFI := Lib.hid hf
      have IH := Lib.hid ih
      have HN := Lib.hid hn
      have HK := Lib.hid hkk
      have HDE := Lib.hid hde
      clear heq hk2 ih hn hkk hf hr hl hF hde
      obtain ⟨i0, hi, hz0, hz1, hz2⟩ := info_parts info_term
      have HI := Lib.hid (And.intro hi (And.intro hz0 (And.intro hz1 hz2)))
      clear hi hz0 hz1 hz2
      go_enter Try.func36, Try.ntmps36
      go_upto_region 1 with fail
      generalize wi.alloc (.cells #[.int .i64 t.k, .int .i64 t.i, .int .i64 t.j, .int .i64 t.n, .slice a t.kids.length cap] 24) = w at hN hbP hTc HLU HLT ⊢
      rw [← hN]
      have HBP := Lib.hid hbP
      have hplt : wi.heap.size < w.heap.size := by omega
      have hplt1 : wi.heap.size < w.heap.size + 1 := by omega
      have hplt2 : wi.heap.size < w.heap.size + 1 + 1 := by omega
      clear hbP hN
      have hd0 := desk_start w u t (.slice au u.kids.length capu) (.slice none 0 0)
      have HTC0 := Lib.hid hTc
      obtain ⟨d0, d1, d2, d3, d4⟩ := hTc
      go_wp2_with fail
      go_loopw [11, 12] (fun v i wr => ∃ (q : Nat) (ps : List (Tm × Value)) (vv : Value), vv = v ∧ q ≤ t.kids.length ∧ i = .int .i64 q ∧ Hid (optK (fun q x => x.putG (gPut u) (b + bindsN t.k q) (F || (t.k == 12 && q == 2))) 0 (t.kids.take q) = some (ps.map (·.1))) ∧ Made (w.heap.size + 3) wr v ps ∧ Desk w u t (.slice au u.kids.length capu) (.slice none 0 0) wr) (fun _ i _ => t.kids.length - (intOf i).toNat)
      case atStart => exact ⟨0, [], _, rfl, Nat.zero_le _, rfl, rfl, made_nil _ _, hd0⟩
      case round =>
        clear hd0 d0 d1 d2 d3 d4
        obtain ⟨q, ps, vv, rfl, hq0, rfl, hps, hmade, hdk⟩ := hrel
        have HPS := Lib.hid hps.out
        clear hps
        obtain ⟨q0, q1, q2⟩ := desk_blocks hdk
        have hsz := desk_size hdk
        have hTw : Five wr wi.heap.size t (.slice a t.kids.length cap) := HTC0.out.keep (desk_under hdk)
        have hUw : Five wr w.heap.size u (.slice au u.kids.length capu) := five_cells q0
        obtain ⟨d0, d1, d2, d3, d4⟩ := hTw
        by_cases hlt : q < t.kids.length
        · obtain ⟨b', o, rfl, hx⟩ := HN.out q hlt
          have hxw := hx.below HBP.out hx.lt
          have hy := hxw.below (desk_under hdk) hxw.lt
          have hq := (HK.out q hlt).keep HBP.out
          obtain ⟨a', cap', S', hS, -⟩ := hq.out
          rw [hS] at hy hq
          have HM := Lib.hid (List.getElem_mem hlt)
          have hbd := binds_range t.k q
          have hwrap : IntKind.i64.wrap (b + bindsN t.k q) = b + bindsN t.k q := IntWalk.i64_in _ (by omega)
          have hj1 : (q : Int) < (t.kids.length : Int) := by omega
          have hpl : ps.length = q := by have := optK_length HPS.out; simp at this; omega
          have hkd : (t.kids[q]).deep + 1 ≤ t.deep := by have := deep_mem (List.getElem_mem hlt); rw [HDE.out]; omega
          have CALL0 : Hid (∀ w', Kept wr w' → ∀ fl : Bool, fl = (pl || plainlyB t q) → Calls Try.prog 36 #[tv t.kids[q] (.slice a' t.kids[q].kids.length cap'), tv u (.slice au u.kids.length capu), .int .i64 (b + bindsN t.k q), .bool fl] w' (GivesY (t.kids[q].putG (gPut u) (b + bindsN t.k q) (F || (t.k == 12 && q == 2))) w')) := fun w' hk fl hfl => by
            have h1 := IH.out _ HM.out (b + bindsN t.k q) fl w' _ _ ((hq.keep (desk_under hdk)).keep hk) ((HLU.out.keep (desk_under hdk)).keep hk) (HRK.out _ HM.out) (by omega) (by omega)
            have h2 : (fl || decide (12 < (t.kids[q]).k)) = (F || (t.k == 12 && q == 2)) := by
              rw [hfl, ← HF.out]
              have := flag_kid' HR.out q hlt pl
              rw [int_two q] at this ⊢
              rw [← this]
              unfold plainlyB
              generalize decide (12 < t.k) = d1
              generalize ((t.k == 12) && ((q : Int) == 2)) = d2
              generalize decide (12 < (t.kids[q]).k) = d3
              cases pl <;> cases d1 <;> cases d2 <;> cases d3 <;> rfl
            rw [h2] at h1
            exact h1
          have HTC := Lib.hid (show Five wr wi.heap.size t (.slice (some ⟨b', o, none⟩) t.kids.length cap) from ⟨d0, d1, d2, d3, d4⟩)
          have HUC := Lib.hid hUw
          have HXC := Lib.hid hy
          have HPL := Lib.hid hpl
          have HMD := Lib.hid hmade
          have HDK := Lib.hid hdk
          have hk0 := kept_start wr
          obtain ⟨c0, c1, c2, c3, c4⟩ := hy
          obtain ⟨y0, y1, y2, y3, y4⟩ := hUw
          clear hS hq hx hxw hpl hmade hdk hkd q0 q1 q2
          cases pl with
          | true =>
            have CALL := Lib.hid (fun w' (h : Kept wr w') => CALL0.out w' h true rfl)
            clear CALL0
            go_wp2_with fail
            refine wp_region_held_drew (S := fun w' => Kept wr w' ∧ w'.cell? ⟨wi.heap.size, 0, none⟩ = some (.int .i64 t.k) ∧ w'.cell? ⟨wi.heap.size, 1, none⟩ = some (.int .i64 t.i) ∧ w'.cell? ⟨wi.heap.size, 2, none⟩ = some (.int .i64 t.j) ∧ w'.cell? ⟨wi.heap.size, 3, none⟩ = some (.int .i64 t.n) ∧ w'.cell? ⟨wi.heap.size, 4, none⟩ = some (.slice (some ⟨b', o, none⟩) t.kids.length cap) ∧ w'.cell? ⟨w.heap.size, 0, none⟩ = some (.int .i64 u.k) ∧ w'.cell? ⟨w.heap.size, 1, none⟩ = some (.int .i64 u.i) ∧ w'.cell? ⟨w.heap.size, 2, none⟩ = some (.int .i64 u.j) ∧ w'.cell? ⟨w.heap.size, 3, none⟩ = some (.int .i64 u.n) ∧ w'.cell? ⟨w.heap.size, 4, none⟩ = some (.slice au u.kids.length capu) ∧ w'.cell? ⟨b', o + q * 5, none⟩ = some (.int .i64 t.kids[q].k) ∧ w'.cell? ⟨b', o + q * 5 + 1, none⟩ = some (.int .i64 t.kids[q].i) ∧ w'.cell? ⟨b', o + q * 5 + 2, none⟩ = some (.int .i64 t.kids[q].j) ∧ w'.cell? ⟨b', o + q * 5 + 3, none⟩ = some (.int .i64 t.kids[q].n) ∧ w'.cell? ⟨b', o + q * 5 + 4, none⟩ = some (.slice a' t.kids[q].kids.length cap')) (by kernel_rfl) ?_ (fun hHeld => ?_)
            · (try dsimp only)
              (((with_reducible refine put_and ?_ HTC.out HUC.out HXC.out); repeat (first | with_reducible assumption | with_reducible exact hk0 | with_reducible refine kept_drew ?_ | with_reducible refine kept_alloc ?_ _ | ((with_reducible refine kept_set ?_ ?hh _); (case hh => first | exact Nat.le_refl _ | exact hszp)))))
            refine wpAnyH_take (i := 0) (oi := { dst := some 54, op := Go.Op.fieldAddr 24 (Go.Operand.tmp 4) 4, type := 0, pos := "ref.go:284", after := #[], guard := none }) (v := ?_) rfl (by kernel_rfl) (by kernel_rfl) (by kernel_rfl) (fun _ _ _ h => h) (Or.inl ⟨by rfl, ?_⟩) (by assumption) ?_
            rotate_left 1
            · ((intro w hSw; (try dsimp only at hSw); go_simp) <;> with_reducible rfl)
            (try simp only [Act.put, List.setIfInBounds_toArray, List.set_cons_zero, List.set_cons_succ])
            refine wpAnyH_take (i := 1) (oi := { dst := some 55, op := Go.Op.load 22 (Go.Operand.tmp 54), type := 22, pos := "ref.go:284", after := #[{ on := 0, ground := Go.Ground.data }], guard := none }) (v := ?_) rfl (by kernel_rfl) (by kernel_rfl) (by kernel_rfl) (fun _ _ _ h => h) (Or.inl ⟨by rfl, ?_⟩) (by assumption) ?_
            rotate_left 1
            · ((intro w hSw; (try dsimp only at hSw); go_simp) <;> with_reducible rfl)
            (try simp only [Act.put, List.setIfInBounds_toArray, List.set_cons_zero, List.set_cons_succ])
            refine wpAnyH_take (i := 2) (oi := { dst := some 56, op := Go.Op.move (Go.Operand.tmp 12), type := 3, pos := "ref.go:284", after := #[], guard := none }) (v := ?_) rfl (by kernel_rfl) (by kernel_rfl) (by kernel_rfl) (fun _ _ _ h => h) (Or.inl ⟨by rfl, ?_⟩) (by assumption) ?_
            rotate_left 1
            · ((intro w hSw; (try dsimp only at hSw); go_simp) <;> with_reducible rfl)
            (try simp only [Act.put, List.setIfInBounds_toArray, List.set_cons_zero, List.set_cons_succ])
            refine wpAnyH_take (i := 3) (oi := { dst := some 57, op := Go.Op.indexAddr 22 (Go.Operand.tmp 55) (Go.Operand.tmp 56), type := 0, pos := "ref.go:284", after := #[{ on := 1, ground := Go.Ground.data }, { on := 2, ground := Go.Ground.data }], guard := none }) (v := ?_) rfl (by kernel_rfl) (by kernel_rfl) (by kernel_rfl) (fun _ _ _ h => h) (Or.inl ⟨by rfl, ?_⟩) (by assumption) ?_
            rotate_left 1
            · ((intro w hSw; (try dsimp only at hSw); go_simp) <;> with_reducible rfl)
            (try simp only [Act.put, List.setIfInBounds_toArray, List.set_cons_zero, List.set_cons_succ])
            refine wpAnyH_take (i := 4) (oi := { dst := some 58, op := Go.Op.load 24 (Go.Operand.tmp 57), type := 24, pos := "ref.go:284", after := #[{ on := 3, ground := Go.Ground.data }], guard := none }) (v := ?_) rfl (by kernel_rfl) (by kernel_rfl) (by kernel_rfl) (fun _ _ _ h => h) (Or.inl ⟨by rfl, ?_⟩) (by assumption) ?_
            rotate_left 1
            · ((intro w hSw; (try dsimp only at hSw); go_simp) <;> with_reducible rfl)
            (try simp only [Act.put, List.setIfInBounds_toArray, List.set_cons_zero, List.set_cons_succ])
            refine wpAnyH_take (i := 5) (oi := { dst := some 59, op := Go.Op.load 24 (Go.Operand.tmp 5), type := 24, pos := "ref.go:284", after := #[], guard := none }) (v := ?_) rfl (by kernel_rfl) (by kernel_rfl) (by kernel_rfl) (fun _ _ _ h => h) (Or.inl ⟨by rfl, ?_⟩) (by assumption) ?_
            rotate_left 1
            · ((intro w hSw; (try dsimp only at hSw); go_simp) <;> with_reducible rfl)
            (try simp only [Act.put, List.setIfInBounds_toArray, List.set_cons_zero, List.set_cons_succ])
            refine wpAnyH_take (i := 6) (oi := { dst := some 60, op := Go.Op.move (Go.Operand.tmp 2), type := 3, pos := "ref.go:284", after := #[], guard := none }) (v := ?_) rfl (by kernel_rfl) (by kernel_rfl) (by kernel_rfl) (fun _ _ _ h => h) (Or.inl ⟨by rfl, ?_⟩) (by assumption) ?_
            rotate_left 1
            · ((intro w hSw; (try dsimp only at hSw); go_simp) <;> with_reducible rfl)
            (try simp only [Act.put, List.setIfInBounds_toArray, List.set_cons_zero, List.set_cons_succ])
            refine wpAnyH_take (i := 7) (oi := { dst := some 61, op := Go.Op.fieldAddr 24 (Go.Operand.tmp 4) 0, type := 0, pos := "ref.go:284", after := #[], guard := none }) (v := ?_) rfl (by kernel_rfl) (by kernel_rfl) (by kernel_rfl) (fun _ _ _ h => h) (Or.inl ⟨by rfl, ?_⟩) (by assumption) ?_
            rotate_left 1
            · ((intro w hSw; (try dsimp only at hSw); go_simp) <;> with_reducible rfl)
            (try simp only [Act.put, List.setIfInBounds_toArray, List.set_cons_zero, List.set_cons_succ])
            refine wpAnyH_take (i := 8) (oi := { dst := some 62, op := Go.Op.load 3 (Go.Operand.tmp 61), type := 3, pos := "ref.go:284", after := #[{ on := 7, ground := Go.Ground.data }], guard := none }) (v := ?_) rfl (by kernel_rfl) (by kernel_rfl) (by kernel_rfl) (fun _ _ _ h => h) (Or.inl ⟨by rfl, ?_⟩) (by assumption) ?_
            rotate_left 1
            · ((intro w hSw; (try dsimp only at hSw); go_simp) <;> with_reducible rfl)
            (try simp only [Act.put, List.setIfInBounds_toArray, List.set_cons_zero, List.set_cons_succ])
            refine wpAnyH_take (i := 9) (oi := { dst := some 63, op := Go.Op.move (Go.Operand.tmp 12), type := 3, pos := "ref.go:284", after := #[], guard := none }) (v := ?_) rfl (by kernel_rfl) (by kernel_rfl) (by kernel_rfl) (fun _ _ _ h => h) (Or.inl ⟨by rfl, ?_⟩) (by assumption) ?_
            rotate_left 1
            · ((intro w hSw; (try dsimp only at hSw); go_simp) <;> with_reducible rfl)
            (try simp only [Act.put, List.setIfInBounds_toArray, List.set_cons_zero, List.set_cons_succ])
            refine wpAnyH_take (i := 12) (oi := { dst := some 66, op := Go.Op.move (Go.Operand.tmp 3), type := 4, pos := "ref.go:284", after := #[], guard := none }) (v := ?_) rfl (by kernel_rfl) (by kernel_rfl) (by kernel_rfl) (fun _ _ _ h => h) (Or.inl ⟨by rfl, ?_⟩) (by assumption) ?_
            rotate_left 1
            · ((intro w hSw; (try dsimp only at hSw); go_simp) <;> with_reducible rfl)
            (try simp only [Act.put, List.setIfInBounds_toArray, List.set_cons_zero, List.set_cons_succ])
            refine wpAnyH_ready (rs := [10, 22]) (by kernel_rfl) (by simp) ?_
            refine AllReadyH.cons (o := { dst := some 64, op := Go.Op.call { callee := Go.Callee.value (Go.Operand.func 48), args := #[Go.Operand.tmp 62, Go.Operand.tmp 63], argTypes := #[3, 3] }, type := 3, pos := "ref.go:284", after := #[{ on := 8, ground := Go.Ground.data }, { on := 9, ground := Go.Ground.data }], guard := none }) rfl (fun K hK => ?_) ?_
            · go_simp
              (go_at_call 48; refine (refbinds_any _ _ _).mono ?_; rintro e w' ⟨rfl, rfl⟩)
              refine hK.out _ _ ?_ (fun hHeld => ?_)
              · (try dsimp only)
                (((with_reducible refine put_and ?_ HTC.out HUC.out HXC.out); repeat (first | with_reducible assumption | with_reducible exact hk0 | with_reducible refine kept_drew ?_ | with_reducible refine kept_alloc ?_ _ | ((with_reducible refine kept_set ?_ ?hh _); (case hh => first | exact Nat.le_refl _ | exact hszp)))))
              clear hK K
              (try simp only [Act.put, List.setIfInBounds_toArray, List.set_cons_zero, List.set_cons_succ])
              refine wpAnyH_take (i := 11) (oi := { dst := some 65, op := Go.Op.binOp Go.BinOp.add 3 (Go.Operand.tmp 60) (Go.Operand.tmp 64) 3, type := 3, pos := "ref.go:284", after := #[{ on := 6, ground := Go.Ground.data }, { on := 10, ground := Go.Ground.data }], guard := none }) (v := ?_) rfl (by kernel_rfl) (by kernel_rfl) (by kernel_rfl) (fun _ _ _ h => h) (Or.inl ⟨by rfl, ?_⟩) (by assumption) ?_
              rotate_left 1
              · ((intro w hSw; (try dsimp only at hSw); go_simp) <;> with_reducible rfl)
              (try simp only [Act.put, List.setIfInBounds_toArray, List.set_cons_zero, List.set_cons_succ])
              refine wpAnyH_take (i := 13) (oi := { dst := some 67, op := Go.Op.move (Go.Operand.tmp 66), type := 4, pos := "ref.go:284", after := #[{ on := 12, ground := Go.Ground.data }, { on := 10, ground := Go.Ground.chain }], guard := none }) (v := ?_) rfl (by kernel_rfl) (by kernel_rfl) (by kernel_rfl) (fun _ _ _ h => h) (Or.inl ⟨by rfl, ?_⟩) (by assumption) ?_
              rotate_left 1
              · ((intro w hSw; (try dsimp only at hSw); go_simp) <;> with_reducible rfl)
              (try simp only [Act.put, List.setIfInBounds_toArray, List.set_cons_zero, List.set_cons_succ])
              refine wpAnyH_take (i := 14) (oi := { dst := some 68, op := Go.Op.load 24 (Go.Operand.tmp 4), type := 24, pos := "ref.go:284", after := #[{ on := 13, ground := Go.Ground.guard }], guard := some (13, false) }) (v := undef) rfl (by kernel_rfl) (by kernel_rfl) (by kernel_rfl) (fun _ _ _ h => h) (Or.inr ⟨by rfl, rfl⟩) (by assumption) ?_
              (try simp only [Act.put, List.setIfInBounds_toArray, List.set_cons_zero, List.set_cons_succ])
              refine wpAnyH_take (i := 15) (oi := { dst := some 69, op := Go.Op.move (Go.Operand.tmp 12), type := 3, pos := "ref.go:284", after := #[{ on := 13, ground := Go.Ground.guard }], guard := some (13, false) }) (v := undef) rfl (by kernel_rfl) (by kernel_rfl) (by kernel_rfl) (fun _ _ _ h => h) (Or.inr ⟨by rfl, rfl⟩) (by assumption) ?_
              (try simp only [Act.put, List.setIfInBounds_toArray, List.set_cons_zero, List.set_cons_succ])
              refine wpAnyH_take (i := 16) (oi := { dst := some 70, op := Go.Op.call { callee := Go.Callee.value (Go.Operand.func 49), args := #[Go.Operand.tmp 68, Go.Operand.tmp 69], argTypes := #[24, 3] }, type := 4, pos := "ref.go:284", after := #[{ on := 14, ground := Go.Ground.data }, { on := 15, ground := Go.Ground.data }, { on := 13, ground := Go.Ground.chain }, { on := 13, ground := Go.Ground.guard }], guard := some (13, false) }) (v := undef) rfl (by kernel_rfl) (by kernel_rfl) (by kernel_rfl) (fun _ _ _ h => h) (Or.inr ⟨by rfl, rfl⟩) (by assumption) ?_
              (try simp only [Act.put, List.setIfInBounds_toArray, List.set_cons_zero, List.set_cons_succ])
              refine wpAnyH_take (i := 17) (oi := { dst := some 71, op := Go.Op.pick (Go.Operand.tmp 67) (Go.Operand.const (Go.Value.bool true)) (Go.Operand.tmp 70), type := 4, pos := "ref.go:284", after := #[{ on := 13, ground := Go.Ground.data }, { on := 16, ground := Go.Ground.data }], guard := none }) (v := ?_) rfl (by kernel_rfl) (by kernel_rfl) (by kernel_rfl) (fun _ _ _ h => h) (Or.inl ⟨by rfl, ?_⟩) (by assumption) ?_
              rotate_left 1
              · ((intro w hSw; (try dsimp only at hSw); go_simp) <;> with_reducible rfl)
              (try simp only [Act.put, List.setIfInBounds_toArray, List.set_cons_zero, List.set_cons_succ])
              refine wpAnyH_ready (rs := [18, 22]) (by kernel_rfl) (by simp) ?_
              refine AllReadyH.cons (o := { dst := some 72, op := Go.Op.call { callee := Go.Callee.value (Go.Operand.func 36), args := #[Go.Operand.tmp 58, Go.Operand.tmp 59, Go.Operand.tmp 65, Go.Operand.tmp 71], argTypes := #[24, 24, 3, 4] }, type := 33, pos := "ref.go:284", after := #[{ on := 4, ground := Go.Ground.data }, { on := 5, ground := Go.Ground.data }, { on := 11, ground := Go.Ground.data }, { on := 17, ground := Go.Ground.data }, { on := 16, ground := Go.Ground.chain }], guard := none }) rfl (fun K hK => ?_) ?_
              · go_simp
                (go_at_call 36; have hS := hHeld.1; have hnc := Below.size hS; ((with_reducible refine Calls.mono (CALL.out _ hS) ?_); rintro e wn ⟨x, a2, n2, cap2, ok, rfl, hbn, hans⟩; have HANS := Lib.hid hans; have hhn := kept_call hS hbn; clear hans hbn hS))
                refine hK.out _ _ ?_ (fun hHeld => ?_)
                · (try dsimp only)
                  (((with_reducible refine put_and ?_ HTC.out HUC.out HXC.out); repeat (first | with_reducible assumption | with_reducible exact hk0 | with_reducible refine kept_drew ?_ | with_reducible refine kept_alloc ?_ _ | ((with_reducible refine kept_set ?_ ?hh _); (case hh => first | exact Nat.le_refl _ | exact hszp)))))
                clear hK K
                (try simp only [Act.put, List.setIfInBounds_toArray, List.set_cons_zero, List.set_cons_succ])
                refine wpAnyH_take (i := 19) (oi := { dst := some 53, op := Go.Op.move (Go.Operand.tmp 72), type := 33, pos := "ref.go:284", after := #[{ on := 18, ground := Go.Ground.data }], guard := none }) (v := ?_) rfl (by kernel_rfl) (by kernel_rfl) (by kernel_rfl) (fun _ _ _ h => h) (Or.inl ⟨by rfl, ?_⟩) (by assumption) ?_
                rotate_left 1
                · ((intro w hSw; (try dsimp only at hSw); go_simp) <;> with_reducible rfl)
                (try simp only [Act.put, List.setIfInBounds_toArray, List.set_cons_zero, List.set_cons_succ])
                refine wpAnyH_take (i := 20) (oi := { dst := some 73, op := Go.Op.extract (Go.Operand.tmp 53) 0, type := 24, pos := "ref.go:284", after := #[{ on := 19, ground := Go.Ground.data }], guard := none }) (v := ?_) rfl (by kernel_rfl) (by kernel_rfl) (by kernel_rfl) (fun _ _ _ h => h) (Or.inl ⟨by rfl, ?_⟩) (by assumption) ?_
                rotate_left 1
                · ((intro w hSw; (try dsimp only at hSw); go_simp) <;> with_reducible rfl)
                (try simp only [Act.put, List.setIfInBounds_toArray, List.set_cons_zero, List.set_cons_succ])
                refine wpAnyH_take (i := 21) (oi := { dst := some 74, op := Go.Op.extract (Go.Operand.tmp 53) 1, type := 4, pos := "ref.go:284", after := #[{ on := 19, ground := Go.Ground.data }, { on := 23, ground := Go.Ground.gcOnly Go.Departure.lateStores }], guard := none }) (v := ?_) rfl (by kernel_rfl) (by kernel_rfl) (by kernel_rfl) (fun _ _ _ h => h) (Or.inl ⟨by rfl, ?_⟩) (by assumption) ?_
                rotate_left 1
                · ((intro w hSw; (try dsimp only at hSw); go_simp) <;> with_reducible rfl)
                (try simp only [Act.put, List.setIfInBounds_toArray, List.set_cons_zero, List.set_cons_succ])
                refine wpAnyH_ready (rs := [22]) (by kernel_rfl) (by simp) ?_
                refine AllReadyH.cons (o := { dst := some 13, op := Go.Op.alloc 24, type := 0, pos := "ref.go:284", after := #[], guard := none }) rfl (fun K hK => ?_) ?_
                · go_simp
                  refine hK.out _ _ ?_ (fun hHeld => ?_)
                  · (try dsimp only)
                    (((with_reducible refine put_and ?_ HTC.out HUC.out HXC.out); repeat (first | with_reducible assumption | with_reducible exact hk0 | with_reducible refine kept_drew ?_ | with_reducible refine kept_alloc ?_ _ | ((with_reducible refine kept_set ?_ ?hh _); (case hh => first | exact Nat.le_refl _ | exact hszp)))))
                  clear hK K
                  (try simp only [Act.put, List.setIfInBounds_toArray, List.set_cons_zero, List.set_cons_succ])
                  refine wpAnyH_ready (rs := [23]) (by kernel_rfl) (by simp) ?_
                  refine AllReadyH.cons (o := { dst := none, op := Go.Op.store 24 (Go.Operand.tmp 13) (Go.Operand.tmp 73), type := 0, pos := "ref.go:284", after := #[{ on := 22, ground := Go.Ground.data }, { on := 20, ground := Go.Ground.data }, { on := 18, ground := Go.Ground.chain }, { on := 0, ground := Go.Ground.phase }, { on := 1, ground := Go.Ground.phase }, { on := 2, ground := Go.Ground.phase }, { on := 3, ground := Go.Ground.phase }, { on := 4, ground := Go.Ground.phase }, { on := 5, ground := Go.Ground.phase }, { on := 6, ground := Go.Ground.phase }, { on := 7, ground := Go.Ground.phase }, { on := 8, ground := Go.Ground.phase }, { on := 9, ground := Go.Ground.phase }, { on := 10, ground := Go.Ground.phase }, { on := 11, ground := Go.Ground.phase }, { on := 12, ground := Go.Ground.phase }, { on := 13, ground := Go.Ground.phase }, { on := 14, ground := Go.Ground.phase }, { on := 15, ground := Go.Ground.phase }, { on := 16, ground := Go.Ground.phase }, { on := 17, ground := Go.Ground.phase }, { on := 18, ground := Go.Ground.phase }, { on := 19, ground := Go.Ground.phase }, { on := 20, ground := Go.Ground.phase }, { on := 21, ground := Go.Ground.textOnly Go.Departure.lateStores }, { on := 22, ground := Go.Ground.phase }], guard := none }) rfl (fun K hK => ?_) ?_
                  · go_simp
                    refine hK.out _ _ ?_ (fun hHeld => ?_)
                    · (try dsimp only)
                      (((with_reducible refine put_and ?_ HTC.out HUC.out HXC.out); repeat (first | with_reducible assumption | with_reducible exact hk0 | with_reducible refine kept_drew ?_ | with_reducible refine kept_alloc ?_ _ | ((with_reducible refine kept_set ?_ ?hh _); (case hh => first | exact Nat.le_refl _ | exact hszp)))))
                    clear hK K
                    (try simp only [Act.put, List.setIfInBounds_toArray, List.set_cons_zero, List.set_cons_succ])
                    refine wpAnyH_take (i := 24) (oi := { dst := some 14, op := Go.Op.assign (Go.Operand.tmp 74), type := 4, pos := "ref.go:284", after := #[{ on := 21, ground := Go.Ground.data }, { on := 23, ground := Go.Ground.chain }, { on := 0, ground := Go.Ground.phase }, { on := 1, ground := Go.Ground.phase }, { on := 2, ground := Go.Ground.phase }, { on := 3, ground := Go.Ground.phase }, { on := 4, ground := Go.Ground.phase }, { on := 5, ground := Go.Ground.phase }, { on := 6, ground := Go.Ground.phase }, { on := 7, ground := Go.Ground.phase }, { on := 8, ground := Go.Ground.phase }, { on := 9, ground := Go.Ground.phase }, { on := 10, ground := Go.Ground.phase }, { on := 11, ground := Go.Ground.phase }, { on := 12, ground := Go.Ground.phase }, { on := 13, ground := Go.Ground.phase }, { on := 14, ground := Go.Ground.phase }, { on := 15, ground := Go.Ground.phase }, { on := 16, ground := Go.Ground.phase }, { on := 17, ground := Go.Ground.phase }, { on := 18, ground := Go.Ground.phase }, { on := 19, ground := Go.Ground.phase }, { on := 20, ground := Go.Ground.phase }, { on := 21, ground := Go.Ground.phase }, { on := 22, ground := Go.Ground.phase }, { on := 23, ground := Go.Ground.phase }], guard := none }) (v := ?_) rfl (by kernel_rfl) (by kernel_rfl) (by kernel_rfl) (fun _ _ _ h => h) (Or.inl ⟨by rfl, ?_⟩) (by assumption) ?_
                    rotate_left 1
                    · ((intro w hSw; (try dsimp only at hSw); go_simp) <;> with_reducible rfl)
                    (try simp only [Act.put, List.setIfInBounds_toArray, List.set_cons_zero, List.set_cons_succ])
                    refine wpAnyH_done (by kernel_rfl) ?_ _
                    have hHold := True.intro
                    clear hHold
                    rcases HANS.out with ⟨rfl, hr, rfl, hl2⟩ | ⟨rfl, hr⟩
                    · have HKW := Lib.hid hHeld.1
                      have hN : (wn.alloc (.cells #[.int .i64 x.k, .int .i64 x.i, .int .i64 x.j, .int .i64 x.n, .slice a2 x.kids.length cap2] 24)).heap[wn.heap.size]? = some (boxOf x (.slice a2 x.kids.length cap2)) := alloc_new _ _
                      have hLW : LiesP (wn.alloc (.cells #[.int .i64 x.k, .int .i64 x.i, .int .i64 x.j, .int .i64 x.n, .slice a2 x.kids.length cap2] 24)) (Own wr.heap.size (wn.alloc (.cells #[.int .i64 x.k, .int .i64 x.i, .int .i64 x.j, .int .i64 x.n, .slice a2 x.kids.length cap2] 24))) x.kids (.slice a2 x.kids.length cap2) := (hl2.from hnc).later ((Below.refl _ _).alloc (Nat.le_refl _) _)
                      generalize wn.alloc (.cells #[.int .i64 x.k, .int .i64 x.i, .int .i64 x.j, .int .i64 x.n, .slice a2 x.kids.length cap2] 24) = W at HKW hN hLW ⊢
                      have HFX := Lib.hid (putG_fine (gPut_fine HUR.out) (HRK.out _ HM.out) (by omega) hr)
                      have HRS := Lib.hid hr
                      obtain ⟨p0, p1, p2, p3, p4⟩ := five_cells hN
                      have HLW := Lib.hid hLW
                      clear hN hLW hr
                      go_wp2_with (at_builtin; refine wpList_append_lies _ rfl _ _ 22 rfl (w.heap.size + 3) 24 i0 _ 5 56 (by kernel_rfl) HI.out.1 HI.out.2.1 HI.out.2.2.1 HI.out.2.2.2 rfl (by decide) _ ps.length (cells5 ps) rfl (made_later (made_later HMD.out HKW.out) ((Below.refl _ _).alloc (Nat.le_refl _) _)).own ⟨W.heap.size, 0, none⟩ 1 1 (cells5 [(x, .slice a2 x.kids.length cap2)]) rfl rfl ?news ?one (by decide) ?max ?bytes ?base _ rfl ?next)
                      case news => first | exact news_new _ _ _ _ | exact fun j u h => h
                      case one => exact one5 _ _
                      case max => have := HPL.out; unfold maxLen; omega
                      case bytes => have := HPL.out; omega
                      case base => have := Below.size HKW.out; simp; omega
                      case next =>
                        intro g3 cap3 w3 hown hgrow hat _
                        have hpb := push_once HDK.out HMD.out HFX.out HKW.out HLW.out _ hown hgrow (by simpa using hat)
                        clear hown hgrow hat
                        go_wp2_with fail
                        go_roundw
                        case rel => exact ⟨q + 1, ps ++ [(x, .slice a2 x.kids.length cap2)], _, rfl, hlt, by go_num, by rw [Hid, optK_next hlt HPS.out HRS.out]; simp, hpb.1, hpb.2⟩
                        case measure => simp [intOf]; omega
                    · have HKW := Lib.hid hHeld.1
                      generalize wn.alloc (.cells #[.int .i64 x.k, .int .i64 x.i, .int .i64 x.j, .int .i64 x.n, .slice a2 n2 cap2] 24) = W at HKW ⊢
                      have hdW := desk_trans HDK.out (below_from HKW.out hsz)
                      obtain ⟨-, q1, -⟩ := desk_blocks hdW
                      obtain ⟨z0, z1, z2, z3, z4⟩ := five_cells q1
                      obtain ⟨f0, f1, f2, f3, f4⟩ := five_free q1
                      go_wp2
                      (try simp only [Exit.inBlock, Exit.then])
                      refine bodyPost_ret (results_cell_tmp rfl _ _ (w.heap.size + 1) _ _ _ du rfl (five_set q1) hu1 (by cases du <;> first | rfl | exact hu2) size_term) rfl ?_
                      exact ⟨Tm.zero, none, 0, 0, false, rfl, HBP.out.trans ((below_five (desk_under hdW) (by omega) _ _ _ _ _).mono HBP.out.size), Or.inr ⟨rfl, by rw [HEQ.out, optK_stop hlt hr]; rfl⟩⟩
                  exact AllReadyH.nil
                exact AllReadyH.nil
              refine AllReadyH.cons (o := { dst := some 13, op := Go.Op.alloc 24, type := 0, pos := "ref.go:284", after := #[], guard := none }) rfl (fun K hK => ?_) ?_
              · go_simp
                refine hK.out _ _ ?_ (fun hHeld => ?_)
                · (try dsimp only)
                  (((with_reducible refine put_and ?_ HTC.out HUC.out HXC.out); repeat (first | with_reducible assumption | with_reducible exact hk0 | with_reducible refine kept_drew ?_ | with_reducible refine kept_alloc ?_ _ | ((with_reducible refine kept_set ?_ ?hh _); (case hh => first | exact Nat.le_refl _ | exact hszp)))))
                clear hK K
                (try simp only [Act.put, List.setIfInBounds_toArray, List.set_cons_zero, List.set_cons_succ])
                have hZ : (wr.drew.alloc zeroObj).heap[wr.heap.size]? = some zeroObj := alloc_new _ _
                refine wpAnyH_ready (rs := [18]) (by kernel_rfl) (by simp) ?_
                refine AllReadyH.cons (o := { dst := some 72, op := Go.Op.call { callee := Go.Callee.value (Go.Operand.func 36), args := #[Go.Operand.tmp 58, Go.Operand.tmp 59, Go.Operand.tmp 65, Go.Operand.tmp 71], argTypes := #[24, 24, 3, 4] }, type := 33, pos := "ref.go:284", after := #[{ on := 4, ground := Go.Ground.data }, { on := 5, ground := Go.Ground.data }, { on := 11, ground := Go.Ground.data }, { on := 17, ground := Go.Ground.data }, { on := 16, ground := Go.Ground.chain }], guard := none }) rfl (fun K hK => ?_) ?_
                · go_simp
                  (go_at_call 36; have hS := hHeld.1; have hnc := Below.size hS; have hgc := block_lt hZ; ((with_reducible refine Calls.mono (CALL.out _ hS) ?_); rintro e wn ⟨x, a2, n2, cap2, ok, rfl, hbn, hans⟩; have HANS := Lib.hid hans; have hhn := kept_call hS hbn; have hZ := keep_block hbn (block_lt hZ) hZ; obtain ⟨⟨g0, g1, g2, g3, g4⟩, v0, v1, v2, v3, v4⟩ := And.intro (five_cells hZ) (five_free hZ); clear hans hbn hS))
                  refine hK.out _ _ ?_ (fun hHeld => ?_)
                  · (try dsimp only)
                    (((with_reducible refine put_and ?_ HTC.out HUC.out HXC.out); repeat (first | with_reducible assumption | with_reducible exact hk0 | with_reducible refine kept_drew ?_ | with_reducible refine kept_alloc ?_ _ | ((with_reducible refine kept_set ?_ ?hh _); (case hh => first | exact Nat.le_refl _ | exact hszp)))))
                  clear hK K
                  (try simp only [Act.put, List.setIfInBounds_toArray, List.set_cons_zero, List.set_cons_succ])
                  refine wpAnyH_take (i := 19) (oi := { dst := some 53, op := Go.Op.move (Go.Operand.tmp 72), type := 33, pos := "ref.go:284", after := #[{ on := 18, ground := Go.Ground.data }], guard := none }) (v := ?_) rfl (by kernel_rfl) (by kernel_rfl) (by kernel_rfl) (fun _ _ _ h => h) (Or.inl ⟨by rfl, ?_⟩) (by assumption) ?_
                  rotate_left 1
                  · ((intro w hSw; (try dsimp only at hSw); go_simp) <;> with_reducible rfl)
                  (try simp only [Act.put, List.setIfInBounds_toArray, List.set_cons_zero, List.set_cons_succ])
                  refine wpAnyH_take (i := 20) (oi := { dst := some 73, op := Go.Op.extract (Go.Operand.tmp 53) 0, type := 24, pos := "ref.go:284", after := #[{ on := 19, ground := Go.Ground.data }], guard := none }) (v := ?_) rfl (by kernel_rfl) (by kernel_rfl) (by kernel_rfl) (fun _ _ _ h => h) (Or.inl ⟨by rfl, ?_⟩) (by assumption) ?_
                  rotate_left 1
                  · ((intro w hSw; (try dsimp only at hSw); go_simp) <;> with_reducible rfl)
                  (try simp only [Act.put, List.setIfInBounds_toArray, List.set_cons_zero, List.set_cons_succ])
                  refine wpAnyH_take (i := 21) (oi := { dst := some 74, op := Go.Op.extract (Go.Operand.tmp 53) 1, type := 4, pos := "ref.go:284", after := #[{ on := 19, ground := Go.Ground.data }, { on := 23, ground := Go.Ground.gcOnly Go.Departure.lateStores }], guard := none }) (v := ?_) rfl (by kernel_rfl) (by kernel_rfl) (by kernel_rfl) (fun _ _ _ h => h) (Or.inl ⟨by rfl, ?_⟩) (by assumption) ?_
                  rotate_left 1
                  · ((intro w hSw; (try dsimp only at hSw); go_simp) <;> with_reducible rfl)
                  (try simp only [Act.put, List.setIfInBounds_toArray, List.set_cons_zero, List.set_cons_succ])
                  refine wpAnyH_ready (rs := [23]) (by kernel_rfl) (by simp) ?_
                  refine AllReadyH.cons (o := { dst := none, op := Go.Op.store 24 (Go.Operand.tmp 13) (Go.Operand.tmp 73), type := 0, pos := "ref.go:284", after := #[{ on := 22, ground := Go.Ground.data }, { on := 20, ground := Go.Ground.data }, { on := 18, ground := Go.Ground.chain }, { on := 0, ground := Go.Ground.phase }, { on := 1, ground := Go.Ground.phase }, { on := 2, ground := Go.Ground.phase }, { on := 3, ground := Go.Ground.phase }, { on := 4, ground := Go.Ground.phase }, { on := 5, ground := Go.Ground.phase }, { on := 6, ground := Go.Ground.phase }, { on := 7, ground := Go.Ground.phase }, { on := 8, ground := Go.Ground.phase }, { on := 9, ground := Go.Ground.phase }, { on := 10, ground := Go.Ground.phase }, { on := 11, ground := Go.Ground.phase }, { on := 12, ground := Go.Ground.phase }, { on := 13, ground := Go.Ground.phase }, { on := 14, ground := Go.Ground.phase }, { on := 15, ground := Go.Ground.phase }, { on := 16, ground := Go.Ground.phase }, { on := 17, ground := Go.Ground.phase }, { on := 18, ground := Go.Ground.phase }, { on := 19, ground := Go.Ground.phase }, { on := 20, ground := Go.Ground.phase }, { on := 21, ground := Go.Ground.textOnly Go.Departure.lateStores }, { on := 22, ground := Go.Ground.phase }], guard := none }) rfl (fun K hK => ?_) ?_
                  · go_simp
                    refine hK.out _ _ ?_ (fun hHeld => ?_)
                    · (try dsimp only)
                      (((with_reducible refine put_and ?_ HTC.out HUC.out HXC.out); repeat (first | with_reducible assumption | with_reducible exact hk0 | with_reducible refine kept_drew ?_ | with_reducible refine kept_alloc ?_ _ | ((with_reducible refine kept_set ?_ ?hh _); (case hh => first | exact Nat.le_refl _ | exact hszp)))))
                    clear hK K
                    (try simp only [Act.put, List.setIfInBounds_toArray, List.set_cons_zero, List.set_cons_succ])
                    refine wpAnyH_take (i := 24) (oi := { dst := some 14, op := Go.Op.assign (Go.Operand.tmp 74), type := 4, pos := "ref.go:284", after := #[{ on := 21, ground := Go.Ground.data }, { on := 23, ground := Go.Ground.chain }, { on := 0, ground := Go.Ground.phase }, { on := 1, ground := Go.Ground.phase }, { on := 2, ground := Go.Ground.phase }, { on := 3, ground := Go.Ground.phase }, { on := 4, ground := Go.Ground.phase }, { on := 5, ground := Go.Ground.phase }, { on := 6, ground := Go.Ground.phase }, { on := 7, ground := Go.Ground.phase }, { on := 8, ground := Go.Ground.phase }, { on := 9, ground := Go.Ground.phase }, { on := 10, ground := Go.Ground.phase }, { on := 11, ground := Go.Ground.phase }, { on := 12, ground := Go.Ground.phase }, { on := 13, ground := Go.Ground.phase }, { on := 14, ground := Go.Ground.phase }, { on := 15, ground := Go.Ground.phase }, { on := 16, ground := Go.Ground.phase }, { on := 17, ground := Go.Ground.phase }, { on := 18, ground := Go.Ground.phase }, { on := 19, ground := Go.Ground.phase }, { on := 20, ground := Go.Ground.phase }, { on := 21, ground := Go.Ground.phase }, { on := 22, ground := Go.Ground.phase }, { on := 23, ground := Go.Ground.phase }], guard := none }) (v := ?_) rfl (by kernel_rfl) (by kernel_rfl) (by kernel_rfl) (fun _ _ _ h => h) (Or.inl ⟨by rfl, ?_⟩) (by assumption) ?_
                    rotate_left 1
                    · ((intro w hSw; (try dsimp only at hSw); go_simp) <;> with_reducible rfl)
                    (try simp only [Act.put, List.setIfInBounds_toArray, List.set_cons_zero, List.set_cons_succ])
                    refine wpAnyH_done (by kernel_rfl) ?_ _
                    have hHold := True.intro
                    clear hHold
                    rcases HANS.out with ⟨rfl, hr, rfl, hl2⟩ | ⟨rfl, hr⟩
                    · have HKW := Lib.hid hHeld.1
                      have hN : (((((wn.setCell ⟨wr.heap.size, 0, none⟩ (.int .i64 x.k)).setCell ⟨wr.heap.size, 1, none⟩ (.int .i64 x.i)).setCell ⟨wr.heap.size, 2, none⟩ (.int .i64 x.j)).setCell ⟨wr.heap.size, 3, none⟩ (.int .i64 x.n)).setCell ⟨wr.heap.size, 4, none⟩ (.slice a2 x.kids.length cap2)).heap[wr.heap.size]? = some (boxOf x (.slice a2 x.kids.length cap2)) := five_set hZ
                      have hLW : LiesP (((((wn.setCell ⟨wr.heap.size, 0, none⟩ (.int .i64 x.k)).setCell ⟨wr.heap.size, 1, none⟩ (.int .i64 x.i)).setCell ⟨wr.heap.size, 2, none⟩ (.int .i64 x.j)).setCell ⟨wr.heap.size, 3, none⟩ (.int .i64 x.n)).setCell ⟨wr.heap.size, 4, none⟩ (.slice a2 x.kids.length cap2)) (Own wr.heap.size (((((wn.setCell ⟨wr.heap.size, 0, none⟩ (.int .i64 x.k)).setCell ⟨wr.heap.size, 1, none⟩ (.int .i64 x.i)).setCell ⟨wr.heap.size, 2, none⟩ (.int .i64 x.j)).setCell ⟨wr.heap.size, 3, none⟩ (.int .i64 x.n)).setCell ⟨wr.heap.size, 4, none⟩ (.slice a2 x.kids.length cap2))) x.kids (.slice a2 x.kids.length cap2) := liesP_fives hl2 hgc hnc _ _ _ _ _
                      generalize ((((wn.setCell ⟨wr.heap.size, 0, none⟩ (.int .i64 x.k)).setCell ⟨wr.heap.size, 1, none⟩ (.int .i64 x.i)).setCell ⟨wr.heap.size, 2, none⟩ (.int .i64 x.j)).setCell ⟨wr.heap.size, 3, none⟩ (.int .i64 x.n)).setCell ⟨wr.heap.size, 4, none⟩ (.slice a2 x.kids.length cap2) = W at HKW hN hLW ⊢
                      have HFX := Lib.hid (putG_fine (gPut_fine HUR.out) (HRK.out _ HM.out) (by omega) hr)
                      have HRS := Lib.hid hr
                      obtain ⟨p0, p1, p2, p3, p4⟩ := five_cells hN
                      have HLW := Lib.hid hLW
                      clear hN hLW hr
                      go_wp2_with (at_builtin; refine wpList_append_lies _ rfl _ _ 22 rfl (w.heap.size + 3) 24 i0 _ 5 56 (by kernel_rfl) HI.out.1 HI.out.2.1 HI.out.2.2.1 HI.out.2.2.2 rfl (by decide) _ ps.length (cells5 ps) rfl (made_later (made_later HMD.out HKW.out) ((Below.refl _ _).alloc (Nat.le_refl _) _)).own ⟨W.heap.size, 0, none⟩ 1 1 (cells5 [(x, .slice a2 x.kids.length cap2)]) rfl rfl ?news ?one (by decide) ?max ?bytes ?base _ rfl ?next)
                      case news => first | exact news_new _ _ _ _ | exact fun j u h => h
                      case one => exact one5 _ _
                      case max => have := HPL.out; unfold maxLen; omega
                      case bytes => have := HPL.out; omega
                      case base => have := Below.size HKW.out; simp; omega
                      case next =>
                        intro g3 cap3 w3 hown hgrow hat _
                        have hpb := push_once HDK.out HMD.out HFX.out HKW.out HLW.out _ hown hgrow (by simpa using hat)
                        clear hown hgrow hat
                        go_wp2_with fail
                        go_roundw
                        case rel => exact ⟨q + 1, ps ++ [(x, .slice a2 x.kids.length cap2)], _, rfl, hlt, by go_num, by rw [Hid, optK_next hlt HPS.out HRS.out]; simp, hpb.1, hpb.2⟩
                        case measure => simp [intOf]; omega
                    · have HKW := Lib.hid hHeld.1
                      generalize ((((wn.setCell ⟨wr.heap.size, 0, none⟩ (.int .i64 x.k)).setCell ⟨wr.heap.size, 1, none⟩ (.int .i64 x.i)).setCell ⟨wr.heap.size, 2, none⟩ (.int .i64 x.j)).setCell ⟨wr.heap.size, 3, none⟩ (.int .i64 x.n)).setCell ⟨wr.heap.size, 4, none⟩ (.slice a2 n2 cap2) = W at HKW ⊢
                      have hdW := desk_trans HDK.out (below_from HKW.out hsz)
                      obtain ⟨-, q1, -⟩ := desk_blocks hdW
                      obtain ⟨z0, z1, z2, z3, z4⟩ := five_cells q1
                      obtain ⟨f0, f1, f2, f3, f4⟩ := five_free q1
                      go_wp2
                      (try simp only [Exit.inBlock, Exit.then])
                      refine bodyPost_ret (results_cell_tmp rfl _ _ (w.heap.size + 1) _ _ _ du rfl (five_set q1) hu1 (by cases du <;> first | rfl | exact hu2) size_term) rfl ?_
                      exact ⟨Tm.zero, none, 0, 0, false, rfl, HBP.out.trans ((below_five (desk_under hdW) (by omega) _ _ _ _ _).mono HBP.out.size), Or.inr ⟨rfl, by rw [HEQ.out, optK_stop hlt hr]; rfl⟩⟩
                  exact AllReadyH.nil
                exact AllReadyH.nil
              exact AllReadyH.nil
            refine AllReadyH.cons (o := { dst := some 13, op := Go.Op.alloc 24, type := 0, pos := "ref.go:284", after := #[], guard := none }) rfl (fun K hK => ?_) ?_
            · go_simp
              refine hK.out _ _ ?_ (fun hHeld => ?_)
              · (try dsimp only)
                (((with_reducible refine put_and ?_ HTC.out HUC.out HXC.out); repeat (first | with_reducible assumption | with_reducible exact hk0 | with_reducible refine kept_drew ?_ | with_reducible refine kept_alloc ?_ _ | ((with_reducible refine kept_set ?_ ?hh _); (case hh => first | exact Nat.le_refl _ | exact hszp)))))
              clear hK K
              (try simp only [Act.put, List.setIfInBounds_toArray, List.set_cons_zero, List.set_cons_succ])
              have hZ : (wr.drew.alloc zeroObj).heap[wr.heap.size]? = some zeroObj := alloc_new _ _
              refine wpAnyH_ready (rs := [10]) (by kernel_rfl) (by simp) ?_
              refine AllReadyH.cons (o := { dst := some 64, op := Go.Op.call { callee := Go.Callee.value (Go.Operand.func 48), args := #[Go.Operand.tmp 62, Go.Operand.tmp 63], argTypes := #[3, 3] }, type := 3, pos := "ref.go:284", after := #[{ on := 8, ground := Go.Ground.data }, { on := 9, ground := Go.Ground.data }], guard := none }) rfl (fun K hK => ?_) ?_
              · go_simp
                (go_at_call 48; refine (refbinds_any _ _ _).mono ?_; rintro e w' ⟨rfl, rfl⟩)
                refine hK.out _ _ ?_ (fun hHeld => ?_)
                · (try dsimp only)
                  (((with_reducible refine put_and ?_ HTC.out HUC.out HXC.out); repeat (first | with_reducible assumption | with_reducible exact hk0 | with_reducible refine kept_drew ?_ | with_reducible refine kept_alloc ?_ _ | ((with_reducible refine kept_set ?_ ?hh _); (case hh => first | exact Nat.le_refl _ | exact hszp)))))
                clear hK K
                (try simp only [Act.put, List.setIfInBounds_toArray, List.set_cons_zero, List.set_cons_succ])
                refine wpAnyH_take (i := 11) (oi := { dst := some 65, op := Go.Op.binOp Go.BinOp.add 3 (Go.Operand.tmp 60) (Go.Operand.tmp 64) 3, type := 3, pos := "ref.go:284", after := #[{ on := 6, ground := Go.Ground.data }, { on := 10, ground := Go.Ground.data }], guard := none }) (v := ?_) rfl (by kernel_rfl) (by kernel_rfl) (by kernel_rfl) (fun _ _ _ h => h) (Or.inl ⟨by rfl, ?_⟩) (by assumption) ?_
                rotate_left 1
                · ((intro w hSw; (try dsimp only at hSw); go_simp) <;> with_reducible rfl)
                (try simp only [Act.put, List.setIfInBounds_toArray, List.set_cons_zero, List.set_cons_succ])
                refine wpAnyH_take (i := 13) (oi := { dst := some 67, op := Go.Op.move (Go.Operand.tmp 66), type := 4, pos := "ref.go:284", after := #[{ on := 12, ground := Go.Ground.data }, { on := 10, ground := Go.Ground.chain }], guard := none }) (v := ?_) rfl (by kernel_rfl) (by kernel_rfl) (by kernel_rfl) (fun _ _ _ h => h) (Or.inl ⟨by rfl, ?_⟩) (by assumption) ?_
                rotate_left 1
                · ((intro w hSw; (try dsimp only at hSw); go_simp) <;> with_reducible rfl)
                (try simp only [Act.put, List.setIfInBounds_toArray, List.set_cons_zero, List.set_cons_succ])
                refine wpAnyH_take (i := 14) (oi := { dst := some 68, op := Go.Op.load 24 (Go.Operand.tmp 4), type := 24, pos := "ref.go:284", after := #[{ on := 13, ground := Go.Ground.guard }], guard := some (13, false) }) (v := undef) rfl (by kernel_rfl) (by kernel_rfl) (by kernel_rfl) (fun _ _ _ h => h) (Or.inr ⟨by rfl, rfl⟩) (by assumption) ?_
                (try simp only [Act.put, List.setIfInBounds_toArray, List.set_cons_zero, List.set_cons_succ])
                refine wpAnyH_take (i := 15) (oi := { dst := some 69, op := Go.Op.move (Go.Operand.tmp 12), type := 3, pos := "ref.go:284", after := #[{ on := 13, ground := Go.Ground.guard }], guard := some (13, false) }) (v := undef) rfl (by kernel_rfl) (by kernel_rfl) (by kernel_rfl) (fun _ _ _ h => h) (Or.inr ⟨by rfl, rfl⟩) (by assumption) ?_
                (try simp only [Act.put, List.setIfInBounds_toArray, List.set_cons_zero, List.set_cons_succ])
                refine wpAnyH_take (i := 16) (oi := { dst := some 70, op := Go.Op.call { callee := Go.Callee.value (Go.Operand.func 49), args := #[Go.Operand.tmp 68, Go.Operand.tmp 69], argTypes := #[24, 3] }, type := 4, pos := "ref.go:284", after := #[{ on := 14, ground := Go.Ground.data }, { on := 15, ground := Go.Ground.data }, { on := 13, ground := Go.Ground.chain }, { on := 13, ground := Go.Ground.guard }], guard := some (13, false) }) (v := undef) rfl (by kernel_rfl) (by kernel_rfl) (by kernel_rfl) (fun _ _ _ h => h) (Or.inr ⟨by rfl, rfl⟩) (by assumption) ?_
                (try simp only [Act.put, List.setIfInBounds_toArray, List.set_cons_zero, List.set_cons_succ])
                refine wpAnyH_take (i := 17) (oi := { dst := some 71, op := Go.Op.pick (Go.Operand.tmp 67) (Go.Operand.const (Go.Value.bool true)) (Go.Operand.tmp 70), type := 4, pos := "ref.go:284", after := #[{ on := 13, ground := Go.Ground.data }, { on := 16, ground := Go.Ground.data }], guard := none }) (v := ?_) rfl (by kernel_rfl) (by kernel_rfl) (by kernel_rfl) (fun _ _ _ h => h) (Or.inl ⟨by rfl, ?_⟩) (by assumption) ?_
                rotate_left 1
                · ((intro w hSw; (try dsimp only at hSw); go_simp) <;> with_reducible rfl)
                (try simp only [Act.put, List.setIfInBounds_toArray, List.set_cons_zero, List.set_cons_succ])
                refine wpAnyH_ready (rs := [18]) (by kernel_rfl) (by simp) ?_
                refine AllReadyH.cons (o := { dst := some 72, op := Go.Op.call { callee := Go.Callee.value (Go.Operand.func 36), args := #[Go.Operand.tmp 58, Go.Operand.tmp 59, Go.Operand.tmp 65, Go.Operand.tmp 71], argTypes := #[24, 24, 3, 4] }, type := 33, pos := "ref.go:284", after := #[{ on := 4, ground := Go.Ground.data }, { on := 5, ground := Go.Ground.data }, { on := 11, ground := Go.Ground.data }, { on := 17, ground := Go.Ground.data }, { on := 16, ground := Go.Ground.chain }], guard := none }) rfl (fun K hK => ?_) ?_
                · go_simp
                  (go_at_call 36; have hS := hHeld.1; have hnc := Below.size hS; have hgc := block_lt hZ; ((with_reducible refine Calls.mono (CALL.out _ hS) ?_); rintro e wn ⟨x, a2, n2, cap2, ok, rfl, hbn, hans⟩; have HANS := Lib.hid hans; have hhn := kept_call hS hbn; have hZ := keep_block hbn (block_lt hZ) hZ; obtain ⟨⟨g0, g1, g2, g3, g4⟩, v0, v1, v2, v3, v4⟩ := And.intro (five_cells hZ) (five_free hZ); clear hans hbn hS))
                  refine hK.out _ _ ?_ (fun hHeld => ?_)
                  · (try dsimp only)
                    (((with_reducible refine put_and ?_ HTC.out HUC.out HXC.out); repeat (first | with_reducible assumption | with_reducible exact hk0 | with_reducible refine kept_drew ?_ | with_reducible refine kept_alloc ?_ _ | ((with_reducible refine kept_set ?_ ?hh _); (case hh => first | exact Nat.le_refl _ | exact hszp)))))
                  clear hK K
                  (try simp only [Act.put, List.setIfInBounds_toArray, List.set_cons_zero, List.set_cons_succ])
                  refine wpAnyH_take (i := 19) (oi := { dst := some 53, op := Go.Op.move (Go.Operand.tmp 72), type := 33, pos := "ref.go:284", after := #[{ on := 18, ground := Go.Ground.data }], guard := none }) (v := ?_) rfl (by kernel_rfl) (by kernel_rfl) (by kernel_rfl) (fun _ _ _ h => h) (Or.inl ⟨by rfl, ?_⟩) (by assumption) ?_
                  rotate_left 1
                  · ((intro w hSw; (try dsimp only at hSw); go_simp) <;> with_reducible rfl)
                  (try simp only [Act.put, List.setIfInBounds_toArray, List.set_cons_zero, List.set_cons_succ])
                  refine wpAnyH_take (i := 20) (oi := { dst := some 73, op := Go.Op.extract (Go.Operand.tmp 53) 0, type := 24, pos := "ref.go:284", after := #[{ on := 19, ground := Go.Ground.data }], guard := none }) (v := ?_) rfl (by kernel_rfl) (by kernel_rfl) (by kernel_rfl) (fun _ _ _ h => h) (Or.inl ⟨by rfl, ?_⟩) (by assumption) ?_
                  rotate_left 1
                  · ((intro w hSw; (try dsimp only at hSw); go_simp) <;> with_reducible rfl)
                  (try simp only [Act.put, List.setIfInBounds_toArray, List.set_cons_zero, List.set_cons_succ])
                  refine wpAnyH_take (i := 21) (oi := { dst := some 74, op := Go.Op.extract (Go.Operand.tmp 53) 1, type := 4, pos := "ref.go:284", after := #[{ on := 19, ground := Go.Ground.data }, { on := 23, ground := Go.Ground.gcOnly Go.Departure.lateStores }], guard := none }) (v := ?_) rfl (by kernel_rfl) (by kernel_rfl) (by kernel_rfl) (fun _ _ _ h => h) (Or.inl ⟨by rfl, ?_⟩) (by assumption) ?_
                  rotate_left 1
                  · ((intro w hSw; (try dsimp only at hSw); go_simp) <;> with_reducible rfl)
                  (try simp only [Act.put, List.setIfInBounds_toArray, List.set_cons_zero, List.set_cons_succ])
                  refine wpAnyH_ready (rs := [23]) (by kernel_rfl) (by simp) ?_
                  refine AllReadyH.cons (o := { dst := none, op := Go.Op.store 24 (Go.Operand.tmp 13) (Go.Operand.tmp 73), type := 0, pos := "ref.go:284", after := #[{ on := 22, ground := Go.Ground.data }, { on := 20, ground := Go.Ground.data }, { on := 18, ground := Go.Ground.chain }, { on := 0, ground := Go.Ground.phase }, { on := 1, ground := Go.Ground.phase }, { on := 2, ground := Go.Ground.phase }, { on := 3, ground := Go.Ground.phase }, { on := 4, ground := Go.Ground.phase }, { on := 5, ground := Go.Ground.phase }, { on := 6, ground := Go.Ground.phase }, { on := 7, ground := Go.Ground.phase }, { on := 8, ground := Go.Ground.phase }, { on := 9, ground := Go.Ground.phase }, { on := 10, ground := Go.Ground.phase }, { on := 11, ground := Go.Ground.phase }, { on := 12, ground := Go.Ground.phase }, { on := 13, ground := Go.Ground.phase }, { on := 14, ground := Go.Ground.phase }, { on := 15, ground := Go.Ground.phase }, { on := 16, ground := Go.Ground.phase }, { on := 17, ground := Go.Ground.phase }, { on := 18, ground := Go.Ground.phase }, { on := 19, ground := Go.Ground.phase }, { on := 20, ground := Go.Ground.phase }, { on := 21, ground := Go.Ground.textOnly Go.Departure.lateStores }, { on := 22, ground := Go.Ground.phase }], guard := none }) rfl (fun K hK => ?_) ?_
                  · go_simp
                    refine hK.out _ _ ?_ (fun hHeld => ?_)
                    · (try dsimp only)
                      (((with_reducible refine put_and ?_ HTC.out HUC.out HXC.out); repeat (first | with_reducible assumption | with_reducible exact hk0 | with_reducible refine kept_drew ?_ | with_reducible refine kept_alloc ?_ _ | ((with_reducible refine kept_set ?_ ?hh _); (case hh => first | exact Nat.le_refl _ | exact hszp)))))
                    clear hK K
                    (try simp only [Act.put, List.setIfInBounds_toArray, List.set_cons_zero, List.set_cons_succ])
                    refine wpAnyH_take (i := 24) (oi := { dst := some 14, op := Go.Op.assign (Go.Operand.tmp 74), type := 4, pos := "ref.go:284", after := #[{ on := 21, ground := Go.Ground.data }, { on := 23, ground := Go.Ground.chain }, { on := 0, ground := Go.Ground.phase }, { on := 1, ground := Go.Ground.phase }, { on := 2, ground := Go.Ground.phase }, { on := 3, ground := Go.Ground.phase }, { on := 4, ground := Go.Ground.phase }, { on := 5, ground := Go.Ground.phase }, { on := 6, ground := Go.Ground.phase }, { on := 7, ground := Go.Ground.phase }, { on := 8, ground := Go.Ground.phase }, { on := 9, ground := Go.Ground.phase }, { on := 10, ground := Go.Ground.phase }, { on := 11, ground := Go.Ground.phase }, { on := 12, ground := Go.Ground.phase }, { on := 13, ground := Go.Ground.phase }, { on := 14, ground := Go.Ground.phase }, { on := 15, ground := Go.Ground.phase }, { on := 16, ground := Go.Ground.phase }, { on := 17, ground := Go.Ground.phase }, { on := 18, ground := Go.Ground.phase }, { on := 19, ground := Go.Ground.phase }, { on := 20, ground := Go.Ground.phase }, { on := 21, ground := Go.Ground.phase }, { on := 22, ground := Go.Ground.phase }, { on := 23, ground := Go.Ground.phase }], guard := none }) (v := ?_) rfl (by kernel_rfl) (by kernel_rfl) (by kernel_rfl) (fun _ _ _ h => h) (Or.inl ⟨by rfl, ?_⟩) (by assumption) ?_
                    rotate_left 1
                    · ((intro w hSw; (try dsimp only at hSw); go_simp) <;> with_reducible rfl)
                    (try simp only [Act.put, List.setIfInBounds_toArray, List.set_cons_zero, List.set_cons_succ])
                    refine wpAnyH_done (by kernel_rfl) ?_ _
                    have hHold := True.intro
                    clear hHold
                    rcases HANS.out with ⟨rfl, hr, rfl, hl2⟩ | ⟨rfl, hr⟩
                    · have HKW := Lib.hid hHeld.1
                      have hN : (((((wn.setCell ⟨wr.heap.size, 0, none⟩ (.int .i64 x.k)).setCell ⟨wr.heap.size, 1, none⟩ (.int .i64 x.i)).setCell ⟨wr.heap.size, 2, none⟩ (.int .i64 x.j)).setCell ⟨wr.heap.size, 3, none⟩ (.int .i64 x.n)).setCell ⟨wr.heap.size, 4, none⟩ (.slice a2 x.kids.length cap2)).heap[wr.heap.size]? = some (boxOf x (.slice a2 x.kids.length cap2)) := five_set hZ
                      have hLW : LiesP (((((wn.setCell ⟨wr.heap.size, 0, none⟩ (.int .i64 x.k)).setCell ⟨wr.heap.size, 1, none⟩ (.int .i64 x.i)).setCell ⟨wr.heap.size, 2, none⟩ (.int .i64 x.j)).setCell ⟨wr.heap.size, 3, none⟩ (.int .i64 x.n)).setCell ⟨wr.heap.size, 4, none⟩ (.slice a2 x.kids.length cap2)) (Own wr.heap.size (((((wn.setCell ⟨wr.heap.size, 0, none⟩ (.int .i64 x.k)).setCell ⟨wr.heap.size, 1, none⟩ (.int .i64 x.i)).setCell ⟨wr.heap.size, 2, none⟩ (.int .i64 x.j)).setCell ⟨wr.heap.size, 3, none⟩ (.int .i64 x.n)).setCell ⟨wr.heap.size, 4, none⟩ (.slice a2 x.kids.length cap2))) x.kids (.slice a2 x.kids.length cap2) := liesP_fives hl2 hgc hnc _ _ _ _ _
                      generalize ((((wn.setCell ⟨wr.heap.size, 0, none⟩ (.int .i64 x.k)).setCell ⟨wr.heap.size, 1, none⟩ (.int .i64 x.i)).setCell ⟨wr.heap.size, 2, none⟩ (.int .i64 x.j)).setCell ⟨wr.heap.size, 3, none⟩ (.int .i64 x.n)).setCell ⟨wr.heap.size, 4, none⟩ (.slice a2 x.kids.length cap2) = W at HKW hN hLW ⊢
                      have HFX := Lib.hid (putG_fine (gPut_fine HUR.out) (HRK.out _ HM.out) (by omega) hr)
                      have HRS := Lib.hid hr
                      obtain ⟨p0, p1, p2, p3, p4⟩ := five_cells hN
                      have HLW := Lib.hid hLW
                      clear hN hLW hr
                      go_wp2_with (at_builtin; refine wpList_append_lies _ rfl _ _ 22 rfl (w.heap.size + 3) 24 i0 _ 5 56 (by kernel_rfl) HI.out.1 HI.out.2.1 HI.out.2.2.1 HI.out.2.2.2 rfl (by decide) _ ps.length (cells5 ps) rfl (made_later (made_later HMD.out HKW.out) ((Below.refl _ _).alloc (Nat.le_refl _) _)).own ⟨W.heap.size, 0, none⟩ 1 1 (cells5 [(x, .slice a2 x.kids.length cap2)]) rfl rfl ?news ?one (by decide) ?max ?bytes ?base _ rfl ?next)
                      case news => first | exact news_new _ _ _ _ | exact fun j u h => h
                      case one => exact one5 _ _
                      case max => have := HPL.out; unfold maxLen; omega
                      case bytes => have := HPL.out; omega
                      case base => have := Below.size HKW.out; simp; omega
                      case next =>
                        intro g3 cap3 w3 hown hgrow hat _
                        have hpb := push_once HDK.out HMD.out HFX.out HKW.out HLW.out _ hown hgrow (by simpa using hat)
                        clear hown hgrow hat
                        go_wp2_with fail
                        go_roundw
                        case rel => exact ⟨q + 1, ps ++ [(x, .slice a2 x.kids.length cap2)], _, rfl, hlt, by go_num, by rw [Hid, optK_next hlt HPS.out HRS.out]; simp, hpb.1, hpb.2⟩
                        case measure => simp [intOf]; omega
                    · have HKW := Lib.hid hHeld.1
                      generalize ((((wn.setCell ⟨wr.heap.size, 0, none⟩ (.int .i64 x.k)).setCell ⟨wr.heap.size, 1, none⟩ (.int .i64 x.i)).setCell ⟨wr.heap.size, 2, none⟩ (.int .i64 x.j)).setCell ⟨wr.heap.size, 3, none⟩ (.int .i64 x.n)).setCell ⟨wr.heap.size, 4, none⟩ (.slice a2 n2 cap2) = W at HKW ⊢
                      have hdW := desk_trans HDK.out (below_from HKW.out hsz)
                      obtain ⟨-, q1, -⟩ := desk_blocks hdW
                      obtain ⟨z0, z1, z2, z3, z4⟩ := five_cells q1
                      obtain ⟨f0, f1, f2, f3, f4⟩ := five_free q1
                      go_wp2
                      (try simp only [Exit.inBlock, Exit.then])
                      refine bodyPost_ret (results_cell_tmp rfl _ _ (w.heap.size + 1) _ _ _ du rfl (five_set q1) hu1 (by cases du <;> first | rfl | exact hu2) size_term) rfl ?_
                      exact ⟨Tm.zero, none, 0, 0, false, rfl, HBP.out.trans ((below_five (desk_under hdW) (by omega) _ _ _ _ _).mono HBP.out.size), Or.inr ⟨rfl, by rw [HEQ.out, optK_stop hlt hr]; rfl⟩⟩
                  exact AllReadyH.nil
                exact AllReadyH.nil
              exact AllReadyH.nil
            exact AllReadyH.nil
          | false =>
            have CALL := Lib.hid (fun w' (h : Kept wr w') => CALL0.out w' h (plainlyB t q) (by rw [Bool.false_or]))
            clear CALL0
            go_wp2_with fail
            refine wp_region_held_drew (S := fun w' => Kept wr w' ∧ w'.cell? ⟨wi.heap.size, 0, none⟩ = some (.int .i64 t.k) ∧ w'.cell? ⟨wi.heap.size, 1, none⟩ = some (.int .i64 t.i) ∧ w'.cell? ⟨wi.heap.size, 2, none⟩ = some (.int .i64 t.j) ∧ w'.cell? ⟨wi.heap.size, 3, none⟩ = some (.int .i64 t.n) ∧ w'.cell? ⟨wi.heap.size, 4, none⟩ = some (.slice (some ⟨b', o, none⟩) t.kids.length cap) ∧ w'.cell? ⟨w.heap.size, 0, none⟩ = some (.int .i64 u.k) ∧ w'.cell? ⟨w.heap.size, 1, none⟩ = some (.int .i64 u.i) ∧ w'.cell? ⟨w.heap.size, 2, none⟩ = some (.int .i64 u.j) ∧ w'.cell? ⟨w.heap.size, 3, none⟩ = some (.int .i64 u.n) ∧ w'.cell? ⟨w.heap.size, 4, none⟩ = some (.slice au u.kids.length capu) ∧ w'.cell? ⟨b', o + q * 5, none⟩ = some (.int .i64 t.kids[q].k) ∧ w'.cell? ⟨b', o + q * 5 + 1, none⟩ = some (.int .i64 t.kids[q].i) ∧ w'.cell? ⟨b', o + q * 5 + 2, none⟩ = some (.int .i64 t.kids[q].j) ∧ w'.cell? ⟨b', o + q * 5 + 3, none⟩ = some (.int .i64 t.kids[q].n) ∧ w'.cell? ⟨b', o + q * 5 + 4, none⟩ = some (.slice a' t.kids[q].kids.length cap')) (by kernel_rfl) ?_ (fun hHeld => ?_)
            · (try dsimp only)
              (((with_reducible refine put_and ?_ HTC.out HUC.out HXC.out); repeat (first | with_reducible assumption | with_reducible exact hk0 | with_reducible refine kept_drew ?_ | with_reducible refine kept_alloc ?_ _ | ((with_reducible refine kept_set ?_ ?hh _); (case hh => first | exact Nat.le_refl _ | exact hszp)))))
            refine wpAnyH_take (i := 0) (oi := { dst := some 54, op := Go.Op.fieldAddr 24 (Go.Operand.tmp 4) 4, type := 0, pos := "ref.go:284", after := #[], guard := none }) (v := ?_) rfl (by kernel_rfl) (by kernel_rfl) (by kernel_rfl) (fun _ _ _ h => h) (Or.inl ⟨by rfl, ?_⟩) (by assumption) ?_
            rotate_left 1
            · ((intro w hSw; (try dsimp only at hSw); go_simp) <;> with_reducible rfl)
            (try simp only [Act.put, List.setIfInBounds_toArray, List.set_cons_zero, List.set_cons_succ])
            refine wpAnyH_take (i := 1) (oi := { dst := some 55, op := Go.Op.load 22 (Go.Operand.tmp 54), type := 22, pos := "ref.go:284", after := #[{ on := 0, ground := Go.Ground.data }], guard := none }) (v := ?_) rfl (by kernel_rfl) (by kernel_rfl) (by kernel_rfl) (fun _ _ _ h => h) (Or.inl ⟨by rfl, ?_⟩) (by assumption) ?_
            rotate_left 1
            · ((intro w hSw; (try dsimp only at hSw); go_simp) <;> with_reducible rfl)
            (try simp only [Act.put, List.setIfInBounds_toArray, List.set_cons_zero, List.set_cons_succ])
            refine wpAnyH_take (i := 2) (oi := { dst := some 56, op := Go.Op.move (Go.Operand.tmp 12), type := 3, pos := "ref.go:284", after := #[], guard := none }) (v := ?_) rfl (by kernel_rfl) (by kernel_rfl) (by kernel_rfl) (fun _ _ _ h => h) (Or.inl ⟨by rfl, ?_⟩) (by assumption) ?_
            rotate_left 1
            · ((intro w hSw; (try dsimp only at hSw); go_simp) <;> with_reducible rfl)
            (try simp only [Act.put, List.setIfInBounds_toArray, List.set_cons_zero, List.set_cons_succ])
            refine wpAnyH_take (i := 3) (oi := { dst := some 57, op := Go.Op.indexAddr 22 (Go.Operand.tmp 55) (Go.Operand.tmp 56), type := 0, pos := "ref.go:284", after := #[{ on := 1, ground := Go.Ground.data }, { on := 2, ground := Go.Ground.data }], guard := none }) (v := ?_) rfl (by kernel_rfl) (by kernel_rfl) (by kernel_rfl) (fun _ _ _ h => h) (Or.inl ⟨by rfl, ?_⟩) (by assumption) ?_
            rotate_left 1
            · ((intro w hSw; (try dsimp only at hSw); go_simp) <;> with_reducible rfl)
            (try simp only [Act.put, List.setIfInBounds_toArray, List.set_cons_zero, List.set_cons_succ])
            refine wpAnyH_take (i := 4) (oi := { dst := some 58, op := Go.Op.load 24 (Go.Operand.tmp 57), type := 24, pos := "ref.go:284", after := #[{ on := 3, ground := Go.Ground.data }], guard := none }) (v := ?_) rfl (by kernel_rfl) (by kernel_rfl) (by kernel_rfl) (fun _ _ _ h => h) (Or.inl ⟨by rfl, ?_⟩) (by assumption) ?_
            rotate_left 1
            · ((intro w hSw; (try dsimp only at hSw); go_simp) <;> with_reducible rfl)
            (try simp only [Act.put, List.setIfInBounds_toArray, List.set_cons_zero, List.set_cons_succ])
            refine wpAnyH_take (i := 5) (oi := { dst := some 59, op := Go.Op.load 24 (Go.Operand.tmp 5), type := 24, pos := "ref.go:284", after := #[], guard := none }) (v := ?_) rfl (by kernel_rfl) (by kernel_rfl) (by kernel_rfl) (fun _ _ _ h => h) (Or.inl ⟨by rfl, ?_⟩) (by assumption) ?_
            rotate_left 1
            · ((intro w hSw; (try dsimp only at hSw); go_simp) <;> with_reducible rfl)
            (try simp only [Act.put, List.setIfInBounds_toArray, List.set_cons_zero, List.set_cons_succ])
            refine wpAnyH_take (i := 6) (oi := { dst := some 60, op := Go.Op.move (Go.Operand.tmp 2), type := 3, pos := "ref.go:284", after := #[], guard := none }) (v := ?_) rfl (by kernel_rfl) (by kernel_rfl) (by kernel_rfl) (fun _ _ _ h => h) (Or.inl ⟨by rfl, ?_⟩) (by assumption) ?_
            rotate_left 1
            · ((intro w hSw; (try dsimp only at hSw); go_simp) <;> with_reducible rfl)
            (try simp only [Act.put, List.setIfInBounds_toArray, List.set_cons_zero, List.set_cons_succ])
            refine wpAnyH_take (i := 7) (oi := { dst := some 61, op := Go.Op.fieldAddr 24 (Go.Operand.tmp 4) 0, type := 0, pos := "ref.go:284", after := #[], guard := none }) (v := ?_) rfl (by kernel_rfl) (by kernel_rfl) (by kernel_rfl) (fun _ _ _ h => h) (Or.inl ⟨by rfl, ?_⟩) (by assumption) ?_
            rotate_left 1
            · ((intro w hSw; (try dsimp only at hSw); go_simp) <;> with_reducible rfl)
            (try simp only [Act.put, List.setIfInBounds_toArray, List.set_cons_zero, List.set_cons_succ])
            refine wpAnyH_take (i := 8) (oi := { dst := some 62, op := Go.Op.load 3 (Go.Operand.tmp 61), type := 3, pos := "ref.go:284", after := #[{ on := 7, ground := Go.Ground.data }], guard := none }) (v := ?_) rfl (by kernel_rfl) (by kernel_rfl) (by kernel_rfl) (fun _ _ _ h => h) (Or.inl ⟨by rfl, ?_⟩) (by assumption) ?_
            rotate_left 1
            · ((intro w hSw; (try dsimp only at hSw); go_simp) <;> with_reducible rfl)
            (try simp only [Act.put, List.setIfInBounds_toArray, List.set_cons_zero, List.set_cons_succ])
            refine wpAnyH_take (i := 9) (oi := { dst := some 63, op := Go.Op.move (Go.Operand.tmp 12), type := 3, pos := "ref.go:284", after := #[], guard := none }) (v := ?_) rfl (by kernel_rfl) (by kernel_rfl) (by kernel_rfl) (fun _ _ _ h => h) (Or.inl ⟨by rfl, ?_⟩) (by assumption) ?_
            rotate_left 1
            · ((intro w hSw; (try dsimp only at hSw); go_simp) <;> with_reducible rfl)
            (try simp only [Act.put, List.setIfInBounds_toArray, List.set_cons_zero, List.set_cons_succ])
            refine wpAnyH_take (i := 12) (oi := { dst := some 66, op := Go.Op.move (Go.Operand.tmp 3), type := 4, pos := "ref.go:284", after := #[], guard := none }) (v := ?_) rfl (by kernel_rfl) (by kernel_rfl) (by kernel_rfl) (fun _ _ _ h => h) (Or.inl ⟨by rfl, ?_⟩) (by assumption) ?_
            rotate_left 1
            · ((intro w hSw; (try dsimp only at hSw); go_simp) <;> with_reducible rfl)
            (try simp only [Act.put, List.setIfInBounds_toArray, List.set_cons_zero, List.set_cons_succ])
            refine wpAnyH_ready (rs := [10, 22]) (by kernel_rfl) (by simp) ?_
            refine AllReadyH.cons (o := { dst := some 64, op := Go.Op.call { callee := Go.Callee.value (Go.Operand.func 48), args := #[Go.Operand.tmp 62, Go.Operand.tmp 63], argTypes := #[3, 3] }, type := 3, pos := "ref.go:284", after := #[{ on := 8, ground := Go.Ground.data }, { on := 9, ground := Go.Ground.data }], guard := none }) rfl (fun K hK => ?_) ?_
            · go_simp
              (go_at_call 48; refine (refbinds_any _ _ _).mono ?_; rintro e w' ⟨rfl, rfl⟩)
              refine hK.out _ _ ?_ (fun hHeld => ?_)
              · (try dsimp only)
                (((with_reducible refine put_and ?_ HTC.out HUC.out HXC.out); repeat (first | with_reducible assumption | with_reducible exact hk0 | with_reducible refine kept_drew ?_ | with_reducible refine kept_alloc ?_ _ | ((with_reducible refine kept_set ?_ ?hh _); (case hh => first | exact Nat.le_refl _ | exact hszp)))))
              clear hK K
              (try simp only [Act.put, List.setIfInBounds_toArray, List.set_cons_zero, List.set_cons_succ])
              refine wpAnyH_take (i := 11) (oi := { dst := some 65, op := Go.Op.binOp Go.BinOp.add 3 (Go.Operand.tmp 60) (Go.Operand.tmp 64) 3, type := 3, pos := "ref.go:284", after := #[{ on := 6, ground := Go.Ground.data }, { on := 10, ground := Go.Ground.data }], guard := none }) (v := ?_) rfl (by kernel_rfl) (by kernel_rfl) (by kernel_rfl) (fun _ _ _ h => h) (Or.inl ⟨by rfl, ?_⟩) (by assumption) ?_
              rotate_left 1
              · ((intro w hSw; (try dsimp only at hSw); go_simp) <;> with_reducible rfl)
              (try simp only [Act.put, List.setIfInBounds_toArray, List.set_cons_zero, List.set_cons_succ])
              refine wpAnyH_take (i := 13) (oi := { dst := some 67, op := Go.Op.move (Go.Operand.tmp 66), type := 4, pos := "ref.go:284", after := #[{ on := 12, ground := Go.Ground.data }, { on := 10, ground := Go.Ground.chain }], guard := none }) (v := ?_) rfl (by kernel_rfl) (by kernel_rfl) (by kernel_rfl) (fun _ _ _ h => h) (Or.inl ⟨by rfl, ?_⟩) (by assumption) ?_
              rotate_left 1
              · ((intro w hSw; (try dsimp only at hSw); go_simp) <;> with_reducible rfl)
              (try simp only [Act.put, List.setIfInBounds_toArray, List.set_cons_zero, List.set_cons_succ])
              refine wpAnyH_take (i := 14) (oi := { dst := some 68, op := Go.Op.load 24 (Go.Operand.tmp 4), type := 24, pos := "ref.go:284", after := #[{ on := 13, ground := Go.Ground.guard }], guard := some (13, false) }) (v := ?_) rfl (by kernel_rfl) (by kernel_rfl) (by kernel_rfl) (fun _ _ _ h => h) (Or.inl ⟨by rfl, ?_⟩) (by assumption) ?_
              rotate_left 1
              · ((intro w hSw; (try dsimp only at hSw); go_simp) <;> with_reducible rfl)
              (try simp only [Act.put, List.setIfInBounds_toArray, List.set_cons_zero, List.set_cons_succ])
              refine wpAnyH_take (i := 15) (oi := { dst := some 69, op := Go.Op.move (Go.Operand.tmp 12), type := 3, pos := "ref.go:284", after := #[{ on := 13, ground := Go.Ground.guard }], guard := some (13, false) }) (v := ?_) rfl (by kernel_rfl) (by kernel_rfl) (by kernel_rfl) (fun _ _ _ h => h) (Or.inl ⟨by rfl, ?_⟩) (by assumption) ?_
              rotate_left 1
              · ((intro w hSw; (try dsimp only at hSw); go_simp) <;> with_reducible rfl)
              (try simp only [Act.put, List.setIfInBounds_toArray, List.set_cons_zero, List.set_cons_succ])
              refine wpAnyH_ready (rs := [16, 22]) (by kernel_rfl) (by simp) ?_
              refine AllReadyH.cons (o := { dst := some 70, op := Go.Op.call { callee := Go.Callee.value (Go.Operand.func 49), args := #[Go.Operand.tmp 68, Go.Operand.tmp 69], argTypes := #[24, 3] }, type := 4, pos := "ref.go:284", after := #[{ on := 14, ground := Go.Ground.data }, { on := 15, ground := Go.Ground.data }, { on := 13, ground := Go.Ground.chain }, { on := 13, ground := Go.Ground.guard }], guard := some (13, false) }) rfl (fun K hK => ?_) ?_
              · go_simp
                (go_at_call 49; have hS := hHeld.1; refine (refplainly_any t q _ _ _ _).mono ?_; rintro e wp ⟨rfl, hbn⟩; have hhp := kept_call hS hbn; have hszp : wr.heap.size ≤ wp.heap.size := Below.size hhp; clear hbn hS)
                refine hK.out _ _ ?_ (fun hHeld => ?_)
                · (try dsimp only)
                  (((with_reducible refine put_and ?_ HTC.out HUC.out HXC.out); repeat (first | with_reducible assumption | with_reducible exact hk0 | with_reducible refine kept_drew ?_ | with_reducible refine kept_alloc ?_ _ | ((with_reducible refine kept_set ?_ ?hh _); (case hh => first | exact Nat.le_refl _ | exact hszp)))))
                clear hK K
                (try simp only [Act.put, List.setIfInBounds_toArray, List.set_cons_zero, List.set_cons_succ])
                refine wpAnyH_take (i := 17) (oi := { dst := some 71, op := Go.Op.pick (Go.Operand.tmp 67) (Go.Operand.const (Go.Value.bool true)) (Go.Operand.tmp 70), type := 4, pos := "ref.go:284", after := #[{ on := 13, ground := Go.Ground.data }, { on := 16, ground := Go.Ground.data }], guard := none }) (v := ?_) rfl (by kernel_rfl) (by kernel_rfl) (by kernel_rfl) (fun _ _ _ h => h) (Or.inl ⟨by rfl, ?_⟩) (by assumption) ?_
                rotate_left 1
                · ((intro w hSw; (try dsimp only at hSw); go_simp) <;> with_reducible rfl)
                (try simp only [Act.put, List.setIfInBounds_toArray, List.set_cons_zero, List.set_cons_succ])
                refine wpAnyH_ready (rs := [18, 22]) (by kernel_rfl) (by simp) ?_
                refine AllReadyH.cons (o := { dst := some 72, op := Go.Op.call { callee := Go.Callee.value (Go.Operand.func 36), args := #[Go.Operand.tmp 58, Go.Operand.tmp 59, Go.Operand.tmp 65, Go.Operand.tmp 71], argTypes := #[24, 24, 3, 4] }, type := 33, pos := "ref.go:284", after := #[{ on := 4, ground := Go.Ground.data }, { on := 5, ground := Go.Ground.data }, { on := 11, ground := Go.Ground.data }, { on := 17, ground := Go.Ground.data }, { on := 16, ground := Go.Ground.chain }], guard := none }) rfl (fun K hK => ?_) ?_
                · go_simp
                  (go_at_call 36; have hS := hHeld.1; have hnc := Below.size hS; ((with_reducible refine Calls.mono (CALL.out _ hS) ?_); rintro e wn ⟨x, a2, n2, cap2, ok, rfl, hbn, hans⟩; have HANS := Lib.hid hans; have hhn := kept_call hS hbn; clear hans hbn hS))
                  refine hK.out _ _ ?_ (fun hHeld => ?_)
                  · (try dsimp only)
                    (((with_reducible refine put_and ?_ HTC.out HUC.out HXC.out); repeat (first | with_reducible assumption | with_reducible exact hk0 | with_reducible refine kept_drew ?_ | with_reducible refine kept_alloc ?_ _ | ((with_reducible refine kept_set ?_ ?hh _); (case hh => first | exact Nat.le_refl _ | exact hszp)))))
                  clear hK K
                  (try simp only [Act.put, List.setIfInBounds_toArray, List.set_cons_zero, List.set_cons_succ])
                  refine wpAnyH_take (i := 19) (oi := { dst := some 53, op := Go.Op.move (Go.Operand.tmp 72), type := 33, pos := "ref.go:284", after := #[{ on := 18, ground := Go.Ground.data }], guard := none }) (v := ?_) rfl (by kernel_rfl) (by kernel_rfl) (by kernel_rfl) (fun _ _ _ h => h) (Or.inl ⟨by rfl, ?_⟩) (by assumption) ?_
                  rotate_left 1
                  · ((intro w hSw; (try dsimp only at hSw); go_simp) <;> with_reducible rfl)
                  (try simp only [Act.put, List.setIfInBounds_toArray, List.set_cons_zero, List.set_cons_succ])
                  refine wpAnyH_take (i := 20) (oi := { dst := some 73, op := Go.Op.extract (Go.Operand.tmp 53) 0, type := 24, pos := "ref.go:284", after := #[{ on := 19, ground := Go.Ground.data }], guard := none }) (v := ?_) rfl (by kernel_rfl) (by kernel_rfl) (by kernel_rfl) (fun _ _ _ h => h) (Or.inl ⟨by rfl, ?_⟩) (by assumption) ?_
                  rotate_left 1
                  · ((intro w hSw; (try dsimp only at hSw); go_simp) <;> with_reducible rfl)
                  (try simp only [Act.put, List.setIfInBounds_toArray, List.set_cons_zero, List.set_cons_succ])
                  refine wpAnyH_take (i := 21) (oi := { dst := some 74, op := Go.Op.extract (Go.Operand.tmp 53) 1, type := 4, pos := "ref.go:284", after := #[{ on := 19, ground := Go.Ground.data }, { on := 23, ground := Go.Ground.gcOnly Go.Departure.lateStores }], guard := none }) (v := ?_) rfl (by kernel_rfl) (by kernel_rfl) (by kernel_rfl) (fun _ _ _ h => h) (Or.inl ⟨by rfl, ?_⟩) (by assumption) ?_
                  rotate_left 1
                  · ((intro w hSw; (try dsimp only at hSw); go_simp) <;> with_reducible rfl)
                  (try simp only [Act.put, List.setIfInBounds_toArray, List.set_cons_zero, List.set_cons_succ])
                  refine wpAnyH_ready (rs := [22]) (by kernel_rfl) (by simp) ?_
                  refine AllReadyH.cons (o := { dst := some 13, op := Go.Op.alloc 24, type := 0, pos := "ref.go:284", after := #[], guard := none }) rfl (fun K hK => ?_) ?_
                  · go_simp
                    refine hK.out _ _ ?_ (fun hHeld => ?_)
                    · (try dsimp only)
                      (((with_reducible refine put_and ?_ HTC.out HUC.out HXC.out); repeat (first | with_reducible assumption | with_reducible exact hk0 | with_reducible refine kept_drew ?_ | with_reducible refine kept_alloc ?_ _ | ((with_reducible refine kept_set ?_ ?hh _); (case hh => first | exact Nat.le_refl _ | exact hszp)))))
                    clear hK K
                    (try simp only [Act.put, List.setIfInBounds_toArray, List.set_cons_zero, List.set_cons_succ])
                    refine wpAnyH_ready (rs := [23]) (by kernel_rfl) (by simp) ?_
                    refine AllReadyH.cons (o := { dst := none, op := Go.Op.store 24 (Go.Operand.tmp 13) (Go.Operand.tmp 73), type := 0, pos := "ref.go:284", after := #[{ on := 22, ground := Go.Ground.data }, { on := 20, ground := Go.Ground.data }, { on := 18, ground := Go.Ground.chain }, { on := 0, ground := Go.Ground.phase }, { on := 1, ground := Go.Ground.phase }, { on := 2, ground := Go.Ground.phase }, { on := 3, ground := Go.Ground.phase }, { on := 4, ground := Go.Ground.phase }, { on := 5, ground := Go.Ground.phase }, { on := 6, ground := Go.Ground.phase }, { on := 7, ground := Go.Ground.phase }, { on := 8, ground := Go.Ground.phase }, { on := 9, ground := Go.Ground.phase }, { on := 10, ground := Go.Ground.phase }, { on := 11, ground := Go.Ground.phase }, { on := 12, ground := Go.Ground.phase }, { on := 13, ground := Go.Ground.phase }, { on := 14, ground := Go.Ground.phase }, { on := 15, ground := Go.Ground.phase }, { on := 16, ground := Go.Ground.phase }, { on := 17, ground := Go.Ground.phase }, { on := 18, ground := Go.Ground.phase }, { on := 19, ground := Go.Ground.phase }, { on := 20, ground := Go.Ground.phase }, { on := 21, ground := Go.Ground.textOnly Go.Departure.lateStores }, { on := 22, ground := Go.Ground.phase }], guard := none }) rfl (fun K hK => ?_) ?_
                    · go_simp
                      refine hK.out _ _ ?_ (fun hHeld => ?_)
                      · (try dsimp only)
                        (((with_reducible refine put_and ?_ HTC.out HUC.out HXC.out); repeat (first | with_reducible assumption | with_reducible exact hk0 | with_reducible refine kept_drew ?_ | with_reducible refine kept_alloc ?_ _ | ((with_reducible refine kept_set ?_ ?hh _); (case hh => first | exact Nat.le_refl _ | exact hszp)))))
                      clear hK K
                      (try simp only [Act.put, List.setIfInBounds_toArray, List.set_cons_zero, List.set_cons_succ])
                      refine wpAnyH_take (i := 24) (oi := { dst := some 14, op := Go.Op.assign (Go.Operand.tmp 74), type := 4, pos := "ref.go:284", after := #[{ on := 21, ground := Go.Ground.data }, { on := 23, ground := Go.Ground.chain }, { on := 0, ground := Go.Ground.phase }, { on := 1, ground := Go.Ground.phase }, { on := 2, ground := Go.Ground.phase }, { on := 3, ground := Go.Ground.phase }, { on := 4, ground := Go.Ground.phase }, { on := 5, ground := Go.Ground.phase }, { on := 6, ground := Go.Ground.phase }, { on := 7, ground := Go.Ground.phase }, { on := 8, ground := Go.Ground.phase }, { on := 9, ground := Go.Ground.phase }, { on := 10, ground := Go.Ground.phase }, { on := 11, ground := Go.Ground.phase }, { on := 12, ground := Go.Ground.phase }, { on := 13, ground := Go.Ground.phase }, { on := 14, ground := Go.Ground.phase }, { on := 15, ground := Go.Ground.phase }, { on := 16, ground := Go.Ground.phase }, { on := 17, ground := Go.Ground.phase }, { on := 18, ground := Go.Ground.phase }, { on := 19, ground := Go.Ground.phase }, { on := 20, ground := Go.Ground.phase }, { on := 21, ground := Go.Ground.phase }, { on := 22, ground := Go.Ground.phase }, { on := 23, ground := Go.Ground.phase }], guard := none }) (v := ?_) rfl (by kernel_rfl) (by kernel_rfl) (by kernel_rfl) (fun _ _ _ h => h) (Or.inl ⟨by rfl, ?_⟩) (by assumption) ?_
                      rotate_left 1
                      · ((intro w hSw; (try dsimp only at hSw); go_simp) <;> with_reducible rfl)
                      (try simp only [Act.put, List.setIfInBounds_toArray, List.set_cons_zero, List.set_cons_succ])
                      refine wpAnyH_done (by kernel_rfl) ?_ _
                      have hHold := True.intro
                      clear hHold
                      rcases HANS.out with ⟨rfl, hr, rfl, hl2⟩ | ⟨rfl, hr⟩
                      · have HKW := Lib.hid hHeld.1
                        have hN : (wn.alloc (.cells #[.int .i64 x.k, .int .i64 x.i, .int .i64 x.j, .int .i64 x.n, .slice a2 x.kids.length cap2] 24)).heap[wn.heap.size]? = some (boxOf x (.slice a2 x.kids.length cap2)) := alloc_new _ _
                        have hLW : LiesP (wn.alloc (.cells #[.int .i64 x.k, .int .i64 x.i, .int .i64 x.j, .int .i64 x.n, .slice a2 x.kids.length cap2] 24)) (Own wr.heap.size (wn.alloc (.cells #[.int .i64 x.k, .int .i64 x.i, .int .i64 x.j, .int .i64 x.n, .slice a2 x.kids.length cap2] 24))) x.kids (.slice a2 x.kids.length cap2) := (hl2.from hnc).later ((Below.refl _ _).alloc (Nat.le_refl _) _)
                        generalize wn.alloc (.cells #[.int .i64 x.k, .int .i64 x.i, .int .i64 x.j, .int .i64 x.n, .slice a2 x.kids.length cap2] 24) = W at HKW hN hLW ⊢
                        have HFX := Lib.hid (putG_fine (gPut_fine HUR.out) (HRK.out _ HM.out) (by omega) hr)
                        have HRS := Lib.hid hr
                        obtain ⟨p0, p1, p2, p3, p4⟩ := five_cells hN
                        have HLW := Lib.hid hLW
                        clear hN hLW hr
                        go_wp2_with (at_builtin; refine wpList_append_lies _ rfl _ _ 22 rfl (w.heap.size + 3) 24 i0 _ 5 56 (by kernel_rfl) HI.out.1 HI.out.2.1 HI.out.2.2.1 HI.out.2.2.2 rfl (by decide) _ ps.length (cells5 ps) rfl (made_later (made_later HMD.out HKW.out) ((Below.refl _ _).alloc (Nat.le_refl _) _)).own ⟨W.heap.size, 0, none⟩ 1 1 (cells5 [(x, .slice a2 x.kids.length cap2)]) rfl rfl ?news ?one (by decide) ?max ?bytes ?base _ rfl ?next)
                        case news => first | exact news_new _ _ _ _ | exact fun j u h => h
                        case one => exact one5 _ _
                        case max => have := HPL.out; unfold maxLen; omega
                        case bytes => have := HPL.out; omega
                        case base => have := Below.size HKW.out; simp; omega
                        case next =>
                          intro g3 cap3 w3 hown hgrow hat _
                          have hpb := push_once HDK.out HMD.out HFX.out HKW.out HLW.out _ hown hgrow (by simpa using hat)
                          clear hown hgrow hat
                          go_wp2_with fail
                          go_roundw
                          case rel => exact ⟨q + 1, ps ++ [(x, .slice a2 x.kids.length cap2)], _, rfl, hlt, by go_num, by rw [Hid, optK_next hlt HPS.out HRS.out]; simp, hpb.1, hpb.2⟩
                          case measure => simp [intOf]; omega
                      · have HKW := Lib.hid hHeld.1
                        generalize wn.alloc (.cells #[.int .i64 x.k, .int .i64 x.i, .int .i64 x.j, .int .i64 x.n, .slice a2 n2 cap2] 24) = W at HKW ⊢
                        have hdW := desk_trans HDK.out (below_from HKW.out hsz)
                        obtain ⟨-, q1, -⟩ := desk_blocks hdW
                        obtain ⟨z0, z1, z2, z3, z4⟩ := five_cells q1
                        obtain ⟨f0, f1, f2, f3, f4⟩ := five_free q1
                        go_wp2
                        (try simp only [Exit.inBlock, Exit.then])
                        refine bodyPost_ret (results_cell_tmp rfl _ _ (w.heap.size + 1) _ _ _ du rfl (five_set q1) hu1 (by cases du <;> first | rfl | exact hu2) size_term) rfl ?_
                        exact ⟨Tm.zero, none, 0, 0, false, rfl, HBP.out.trans ((below_five (desk_under hdW) (by omega) _ _ _ _ _).mono HBP.out.size), Or.inr ⟨rfl, by rw [HEQ.out, optK_stop hlt hr]; rfl⟩⟩
                    exact AllReadyH.nil
                  exact AllReadyH.nil
                refine AllReadyH.cons (o := { dst := some 13, op := Go.Op.alloc 24, type := 0, pos := "ref.go:284", after := #[], guard := none }) rfl (fun K hK => ?_) ?_
                · go_simp
                  refine hK.out _ _ ?_ (fun hHeld => ?_)
                  · (try dsimp only)
                    (((with_reducible refine put_and ?_ HTC.out HUC.out HXC.out); repeat (first | with_reducible assumption | with_reducible exact hk0 | with_reducible refine kept_drew ?_ | with_reducible refine kept_alloc ?_ _ | ((with_reducible refine kept_set ?_ ?hh _); (case hh => first | exact Nat.le_refl _ | exact hszp)))))
                  clear hK K
                  (try simp only [Act.put, List.setIfInBounds_toArray, List.set_cons_zero, List.set_cons_succ])
                  have hZ : (wp.alloc zeroObj).heap[wp.heap.size]? = some zeroObj := alloc_new _ _
                  refine wpAnyH_ready (rs := [18]) (by kernel_rfl) (by simp) ?_
                  refine AllReadyH.cons (o := { dst := some 72, op := Go.Op.call { callee := Go.Callee.value (Go.Operand.func 36), args := #[Go.Operand.tmp 58, Go.Operand.tmp 59, Go.Operand.tmp 65, Go.Operand.tmp 71], argTypes := #[24, 24, 3, 4] }, type := 33, pos := "ref.go:284", after := #[{ on := 4, ground := Go.Ground.data }, { on := 5, ground := Go.Ground.data }, { on := 11, ground := Go.Ground.data }, { on := 17, ground := Go.Ground.data }, { on := 16, ground := Go.Ground.chain }], guard := none }) rfl (fun K hK => ?_) ?_
                  · go_simp
                    (go_at_call 36; have hS := hHeld.1; have hnc := Below.size hS; have hgc := block_lt hZ; ((with_reducible refine Calls.mono (CALL.out _ hS) ?_); rintro e wn ⟨x, a2, n2, cap2, ok, rfl, hbn, hans⟩; have HANS := Lib.hid hans; have hhn := kept_call hS hbn; have hZ := keep_block hbn (block_lt hZ) hZ; obtain ⟨⟨g0, g1, g2, g3, g4⟩, v0, v1, v2, v3, v4⟩ := And.intro (five_cells hZ) (five_free hZ); clear hans hbn hS))
                    refine hK.out _ _ ?_ (fun hHeld => ?_)
                    · (try dsimp only)
                      (((with_reducible refine put_and ?_ HTC.out HUC.out HXC.out); repeat (first | with_reducible assumption | with_reducible exact hk0 | with_reducible refine kept_drew ?_ | with_reducible refine kept_alloc ?_ _ | ((with_reducible refine kept_set ?_ ?hh _); (case hh => first | exact Nat.le_refl _ | exact hszp)))))
                    clear hK K
                    (try simp only [Act.put, List.setIfInBounds_toArray, List.set_cons_zero, List.set_cons_succ])
                    refine wpAnyH_take (i := 19) (oi := { dst := some 53, op := Go.Op.move (Go.Operand.tmp 72), type := 33, pos := "ref.go:284", after := #[{ on := 18, ground := Go.Ground.data }], guard := none }) (v := ?_) rfl (by kernel_rfl) (by kernel_rfl) (by kernel_rfl) (fun _ _ _ h => h) (Or.inl ⟨by rfl, ?_⟩) (by assumption) ?_
                    rotate_left 1
                    · ((intro w hSw; (try dsimp only at hSw); go_simp) <;> with_reducible rfl)
                    (try simp only [Act.put, List.setIfInBounds_toArray, List.set_cons_zero, List.set_cons_succ])
                    refine wpAnyH_take (i := 20) (oi := { dst := some 73, op := Go.Op.extract (Go.Operand.tmp 53) 0, type := 24, pos := "ref.go:284", after := #[{ on := 19, ground := Go.Ground.data }], guard := none }) (v := ?_) rfl (by kernel_rfl) (by kernel_rfl) (by kernel_rfl) (fun _ _ _ h => h) (Or.inl ⟨by rfl, ?_⟩) (by assumption) ?_
                    rotate_left 1
                    · ((intro w hSw; (try dsimp only at hSw); go_simp) <;> with_reducible rfl)
                    (try simp only [Act.put, List.setIfInBounds_toArray, List.set_cons_zero, List.set_cons_succ])
                    refine wpAnyH_take (i := 21) (oi := { dst := some 74, op := Go.Op.extract (Go.Operand.tmp 53) 1, type := 4, pos := "ref.go:284", after := #[{ on := 19, ground := Go.Ground.data }, { on := 23, ground := Go.Ground.gcOnly Go.Departure.lateStores }], guard := none }) (v := ?_) rfl (by kernel_rfl) (by kernel_rfl) (by kernel_rfl) (fun _ _ _ h => h) (Or.inl ⟨by rfl, ?_⟩) (by assumption) ?_
                    rotate_left 1
                    · ((intro w hSw; (try dsimp only at hSw); go_simp) <;> with_reducible rfl)
                    (try simp only [Act.put, List.setIfInBounds_toArray, List.set_cons_zero, List.set_cons_succ])
                    refine wpAnyH_ready (rs := [23]) (by kernel_rfl) (by simp) ?_
                    refine AllReadyH.cons (o := { dst := none, op := Go.Op.store 24 (Go.Operand.tmp 13) (Go.Operand.tmp 73), type := 0, pos := "ref.go:284", after := #[{ on := 22, ground := Go.Ground.data }, { on := 20, ground := Go.Ground.data }, { on := 18, ground := Go.Ground.chain }, { on := 0, ground := Go.Ground.phase }, { on := 1, ground := Go.Ground.phase }, { on := 2, ground := Go.Ground.phase }, { on := 3, ground := Go.Ground.phase }, { on := 4, ground := Go.Ground.phase }, { on := 5, ground := Go.Ground.phase }, { on := 6, ground := Go.Ground.phase }, { on := 7, ground := Go.Ground.phase }, { on := 8, ground := Go.Ground.phase }, { on := 9, ground := Go.Ground.phase }, { on := 10, ground := Go.Ground.phase }, { on := 11, ground := Go.Ground.phase }, { on := 12, ground := Go.Ground.phase }, { on := 13, ground := Go.Ground.phase }, { on := 14, ground := Go.Ground.phase }, { on := 15, ground := Go.Ground.phase }, { on := 16, ground := Go.Ground.phase }, { on := 17, ground := Go.Ground.phase }, { on := 18, ground := Go.Ground.phase }, { on := 19, ground := Go.Ground.phase }, { on := 20, ground := Go.Ground.phase }, { on := 21, ground := Go.Ground.textOnly Go.Departure.lateStores }, { on := 22, ground := Go.Ground.phase }], guard := none }) rfl (fun K hK => ?_) ?_
                    · go_simp
                      refine hK.out _ _ ?_ (fun hHeld => ?_)
                      · (try dsimp only)
                        (((with_reducible refine put_and ?_ HTC.out HUC.out HXC.out); repeat (first | with_reducible assumption | with_reducible exact hk0 | with_reducible refine kept_drew ?_ | with_reducible refine kept_alloc ?_ _ | ((with_reducible refine kept_set ?_ ?hh _); (case hh => first | exact Nat.le_refl _ | exact hszp)))))
                      clear hK K
                      (try simp only [Act.put, List.setIfInBounds_toArray, List.set_cons_zero, List.set_cons_succ])
                      refine wpAnyH_take (i := 24) (oi := { dst := some 14, op := Go.Op.assign (Go.Operand.tmp 74), type := 4, pos := "ref.go:284", after := #[{ on := 21, ground := Go.Ground.data }, { on := 23, ground := Go.Ground.chain }, { on := 0, ground := Go.Ground.phase }, { on := 1, ground := Go.Ground.phase }, { on := 2, ground := Go.Ground.phase }, { on := 3, ground := Go.Ground.phase }, { on := 4, ground := Go.Ground.phase }, { on := 5, ground := Go.Ground.phase }, { on := 6, ground := Go.Ground.phase }, { on := 7, ground := Go.Ground.phase }, { on := 8, ground := Go.Ground.phase }, { on := 9, ground := Go.Ground.phase }, { on := 10, ground := Go.Ground.phase }, { on := 11, ground := Go.Ground.phase }, { on := 12, ground := Go.Ground.phase }, { on := 13, ground := Go.Ground.phase }, { on := 14, ground := Go.Ground.phase }, { on := 15, ground := Go.Ground.phase }, { on := 16, ground := Go.Ground.phase }, { on := 17, ground := Go.Ground.phase }, { on := 18, ground := Go.Ground.phase }, { on := 19, ground := Go.Ground.phase }, { on := 20, ground := Go.Ground.phase }, { on := 21, ground := Go.Ground.phase }, { on := 22, ground := Go.Ground.phase }, { on := 23, ground := Go.Ground.phase }], guard := none }) (v := ?_) rfl (by kernel_rfl) (by kernel_rfl) (by kernel_rfl) (fun _ _ _ h => h) (Or.inl ⟨by rfl, ?_⟩) (by assumption) ?_
                      rotate_left 1
                      · ((intro w hSw; (try dsimp only at hSw); go_simp) <;> with_reducible rfl)
                      (try simp only [Act.put, List.setIfInBounds_toArray, List.set_cons_zero, List.set_cons_succ])
                      refine wpAnyH_done (by kernel_rfl) ?_ _
                      have hHold := True.intro
                      clear hHold
                      rcases HANS.out with ⟨rfl, hr, rfl, hl2⟩ | ⟨rfl, hr⟩
                      · have HKW := Lib.hid hHeld.1
                        have hN : (((((wn.setCell ⟨wp.heap.size, 0, none⟩ (.int .i64 x.k)).setCell ⟨wp.heap.size, 1, none⟩ (.int .i64 x.i)).setCell ⟨wp.heap.size, 2, none⟩ (.int .i64 x.j)).setCell ⟨wp.heap.size, 3, none⟩ (.int .i64 x.n)).setCell ⟨wp.heap.size, 4, none⟩ (.slice a2 x.kids.length cap2)).heap[wp.heap.size]? = some (boxOf x (.slice a2 x.kids.length cap2)) := five_set hZ
                        have hLW : LiesP (((((wn.setCell ⟨wp.heap.size, 0, none⟩ (.int .i64 x.k)).setCell ⟨wp.heap.size, 1, none⟩ (.int .i64 x.i)).setCell ⟨wp.heap.size, 2, none⟩ (.int .i64 x.j)).setCell ⟨wp.heap.size, 3, none⟩ (.int .i64 x.n)).setCell ⟨wp.heap.size, 4, none⟩ (.slice a2 x.kids.length cap2)) (Own wr.heap.size (((((wn.setCell ⟨wp.heap.size, 0, none⟩ (.int .i64 x.k)).setCell ⟨wp.heap.size, 1, none⟩ (.int .i64 x.i)).setCell ⟨wp.heap.size, 2, none⟩ (.int .i64 x.j)).setCell ⟨wp.heap.size, 3, none⟩ (.int .i64 x.n)).setCell ⟨wp.heap.size, 4, none⟩ (.slice a2 x.kids.length cap2))) x.kids (.slice a2 x.kids.length cap2) := liesP_fives hl2 hgc hnc _ _ _ _ _
                        generalize ((((wn.setCell ⟨wp.heap.size, 0, none⟩ (.int .i64 x.k)).setCell ⟨wp.heap.size, 1, none⟩ (.int .i64 x.i)).setCell ⟨wp.heap.size, 2, none⟩ (.int .i64 x.j)).setCell ⟨wp.heap.size, 3, none⟩ (.int .i64 x.n)).setCell ⟨wp.heap.size, 4, none⟩ (.slice a2 x.kids.length cap2) = W at HKW hN hLW ⊢
                        have HFX := Lib.hid (putG_fine (gPut_fine HUR.out) (HRK.out _ HM.out) (by omega) hr)
                        have HRS := Lib.hid hr
                        obtain ⟨p0, p1, p2, p3, p4⟩ := five_cells hN
                        have HLW := Lib.hid hLW
                        clear hN hLW hr
                        go_wp2_with (at_builtin; refine wpList_append_lies _ rfl _ _ 22 rfl (w.heap.size + 3) 24 i0 _ 5 56 (by kernel_rfl) HI.out.1 HI.out.2.1 HI.out.2.2.1 HI.out.2.2.2 rfl (by decide) _ ps.length (cells5 ps) rfl (made_later (made_later HMD.out HKW.out) ((Below.refl _ _).alloc (Nat.le_refl _) _)).own ⟨W.heap.size, 0, none⟩ 1 1 (cells5 [(x, .slice a2 x.kids.length cap2)]) rfl rfl ?news ?one (by decide) ?max ?bytes ?base _ rfl ?next)
                        case news => first | exact news_new _ _ _ _ | exact fun j u h => h
                        case one => exact one5 _ _
                        case max => have := HPL.out; unfold maxLen; omega
                        case bytes => have := HPL.out; omega
                        case base => have := Below.size HKW.out; simp; omega
                        case next =>
                          intro g3 cap3 w3 hown hgrow hat _
                          have hpb := push_once HDK.out HMD.out HFX.out HKW.out HLW.out _ hown hgrow (by simpa using hat)
                          clear hown hgrow hat
                          go_wp2_with fail
                          go_roundw
                          case rel => exact ⟨q + 1, ps ++ [(x, .slice a2 x.kids.length cap2)], _, rfl, hlt, by go_num, by rw [Hid, optK_next hlt HPS.out HRS.out]; simp, hpb.1, hpb.2⟩
                          case measure => simp [intOf]; omega
                      · have HKW := Lib.hid hHeld.1
                        generalize ((((wn.setCell ⟨wp.heap.size, 0, none⟩ (.int .i64 x.k)).setCell ⟨wp.heap.size, 1, none⟩ (.int .i64 x.i)).setCell ⟨wp.heap.size, 2, none⟩ (.int .i64 x.j)).setCell ⟨wp.heap.size, 3, none⟩ (.int .i64 x.n)).setCell ⟨wp.heap.size, 4, none⟩ (.slice a2 n2 cap2) = W at HKW ⊢
                        have hdW := desk_trans HDK.out (below_from HKW.out hsz)
                        obtain ⟨-, q1, -⟩ := desk_blocks hdW
                        obtain ⟨z0, z1, z2, z3, z4⟩ := five_cells q1
                        obtain ⟨f0, f1, f2, f3, f4⟩ := five_free q1
                        go_wp2
                        (try simp only [Exit.inBlock, Exit.then])
                        refine bodyPost_ret (results_cell_tmp rfl _ _ (w.heap.size + 1) _ _ _ du rfl (five_set q1) hu1 (by cases du <;> first | rfl | exact hu2) size_term) rfl ?_
                        exact ⟨Tm.zero, none, 0, 0, false, rfl, HBP.out.trans ((below_five (desk_under hdW) (by omega) _ _ _ _ _).mono HBP.out.size), Or.inr ⟨rfl, by rw [HEQ.out, optK_stop hlt hr]; rfl⟩⟩
                    exact AllReadyH.nil
                  exact AllReadyH.nil
                exact AllReadyH.nil
              refine AllReadyH.cons (o := { dst := some 13, op := Go.Op.alloc 24, type := 0, pos := "ref.go:284", after := #[], guard := none }) rfl (fun K hK => ?_) ?_
              · go_simp
                refine hK.out _ _ ?_ (fun hHeld => ?_)
                · (try dsimp only)
                  (((with_reducible refine put_and ?_ HTC.out HUC.out HXC.out); repeat (first | with_reducible assumption | with_reducible exact hk0 | with_reducible refine kept_drew ?_ | with_reducible refine kept_alloc ?_ _ | ((with_reducible refine kept_set ?_ ?hh _); (case hh => first | exact Nat.le_refl _ | exact hszp)))))
                clear hK K
                (try simp only [Act.put, List.setIfInBounds_toArray, List.set_cons_zero, List.set_cons_succ])
                have hZ : (wr.drew.alloc zeroObj).heap[wr.heap.size]? = some zeroObj := alloc_new _ _
                refine wpAnyH_ready (rs := [16]) (by kernel_rfl) (by simp) ?_
                refine AllReadyH.cons (o := { dst := some 70, op := Go.Op.call { callee := Go.Callee.value (Go.Operand.func 49), args := #[Go.Operand.tmp 68, Go.Operand.tmp 69], argTypes := #[24, 3] }, type := 4, pos := "ref.go:284", after := #[{ on := 14, ground := Go.Ground.data }, { on := 15, ground := Go.Ground.data }, { on := 13, ground := Go.Ground.chain }, { on := 13, ground := Go.Ground.guard }], guard := some (13, false) }) rfl (fun K hK => ?_) ?_
                · go_simp
                  (go_at_call 49; have hS := hHeld.1; refine (refplainly_any t q _ _ _ _).mono ?_; rintro e wp ⟨rfl, hbn⟩; have hhp := kept_call hS hbn; have hszp : wr.heap.size ≤ wp.heap.size := Below.size hhp; have hZ := keep_block hbn (block_lt hZ) hZ; clear hbn hS)
                  refine hK.out _ _ ?_ (fun hHeld => ?_)
                  · (try dsimp only)
                    (((with_reducible refine put_and ?_ HTC.out HUC.out HXC.out); repeat (first | with_reducible assumption | with_reducible exact hk0 | with_reducible refine kept_drew ?_ | with_reducible refine kept_alloc ?_ _ | ((with_reducible refine kept_set ?_ ?hh _); (case hh => first | exact Nat.le_refl _ | exact hszp)))))
                  clear hK K
                  (try simp only [Act.put, List.setIfInBounds_toArray, List.set_cons_zero, List.set_cons_succ])
                  refine wpAnyH_take (i := 17) (oi := { dst := some 71, op := Go.Op.pick (Go.Operand.tmp 67) (Go.Operand.const (Go.Value.bool true)) (Go.Operand.tmp 70), type := 4, pos := "ref.go:284", after := #[{ on := 13, ground := Go.Ground.data }, { on := 16, ground := Go.Ground.data }], guard := none }) (v := ?_) rfl (by kernel_rfl) (by kernel_rfl) (by kernel_rfl) (fun _ _ _ h => h) (Or.inl ⟨by rfl, ?_⟩) (by assumption) ?_
                  rotate_left 1
                  · ((intro w hSw; (try dsimp only at hSw); go_simp) <;> with_reducible rfl)
                  (try simp only [Act.put, List.setIfInBounds_toArray, List.set_cons_zero, List.set_cons_succ])
                  refine wpAnyH_ready (rs := [18]) (by kernel_rfl) (by simp) ?_
                  refine AllReadyH.cons (o := { dst := some 72, op := Go.Op.call { callee := Go.Callee.value (Go.Operand.func 36), args := #[Go.Operand.tmp 58, Go.Operand.tmp 59, Go.Operand.tmp 65, Go.Operand.tmp 71], argTypes := #[24, 24, 3, 4] }, type := 33, pos := "ref.go:284", after := #[{ on := 4, ground := Go.Ground.data }, { on := 5, ground := Go.Ground.data }, { on := 11, ground := Go.Ground.data }, { on := 17, ground := Go.Ground.data }, { on := 16, ground := Go.Ground.chain }], guard := none }) rfl (fun K hK => ?_) ?_
                  · go_simp
                    (go_at_call 36; have hS := hHeld.1; have hnc := Below.size hS; have hgc := block_lt hZ; ((with_reducible refine Calls.mono (CALL.out _ hS) ?_); rintro e wn ⟨x, a2, n2, cap2, ok, rfl, hbn, hans⟩; have HANS := Lib.hid hans; have hhn := kept_call hS hbn; have hZ := keep_block hbn (block_lt hZ) hZ; obtain ⟨⟨g0, g1, g2, g3, g4⟩, v0, v1, v2, v3, v4⟩ := And.intro (five_cells hZ) (five_free hZ); clear hans hbn hS))
                    refine hK.out _ _ ?_ (fun hHeld => ?_)
                    · (try dsimp only)
                      (((with_reducible refine put_and ?_ HTC.out HUC.out HXC.out); repeat (first | with_reducible assumption | with_reducible exact hk0 | with_reducible refine kept_drew ?_ | with_reducible refine kept_alloc ?_ _ | ((with_reducible refine kept_set ?_ ?hh _); (case hh => first | exact Nat.le_refl _ | exact hszp)))))
                    clear hK K
                    (try simp only [Act.put, List.setIfInBounds_toArray, List.set_cons_zero, List.set_cons_succ])
                    refine wpAnyH_take (i := 19) (oi := { dst := some 53, op := Go.Op.move (Go.Operand.tmp 72), type := 33, pos := "ref.go:284", after := #[{ on := 18, ground := Go.Ground.data }], guard := none }) (v := ?_) rfl (by kernel_rfl) (by kernel_rfl) (by kernel_rfl) (fun _ _ _ h => h) (Or.inl ⟨by rfl, ?_⟩) (by assumption) ?_
                    rotate_left 1
                    · ((intro w hSw; (try dsimp only at hSw); go_simp) <;> with_reducible rfl)
                    (try simp only [Act.put, List.setIfInBounds_toArray, List.set_cons_zero, List.set_cons_succ])
                    refine wpAnyH_take (i := 20) (oi := { dst := some 73, op := Go.Op.extract (Go.Operand.tmp 53) 0, type := 24, pos := "ref.go:284", after := #[{ on := 19, ground := Go.Ground.data }], guard := none }) (v := ?_) rfl (by kernel_rfl) (by kernel_rfl) (by kernel_rfl) (fun _ _ _ h => h) (Or.inl ⟨by rfl, ?_⟩) (by assumption) ?_
                    rotate_left 1
                    · ((intro w hSw; (try dsimp only at hSw); go_simp) <;> with_reducible rfl)
                    (try simp only [Act.put, List.setIfInBounds_toArray, List.set_cons_zero, List.set_cons_succ])
                    refine wpAnyH_take (i := 21) (oi := { dst := some 74, op := Go.Op.extract (Go.Operand.tmp 53) 1, type := 4, pos := "ref.go:284", after := #[{ on := 19, ground := Go.Ground.data }, { on := 23, ground := Go.Ground.gcOnly Go.Departure.lateStores }], guard := none }) (v := ?_) rfl (by kernel_rfl) (by kernel_rfl) (by kernel_rfl) (fun _ _ _ h => h) (Or.inl ⟨by rfl, ?_⟩) (by assumption) ?_
                    rotate_left 1
                    · ((intro w hSw; (try dsimp only at hSw); go_simp) <;> with_reducible rfl)
                    (try simp only [Act.put, List.setIfInBounds_toArray, List.set_cons_zero, List.set_cons_succ])
                    refine wpAnyH_ready (rs := [23]) (by kernel_rfl) (by simp) ?_
                    refine AllReadyH.cons (o := { dst := none, op := Go.Op.store 24 (Go.Operand.tmp 13) (Go.Operand.tmp 73), type := 0, pos := "ref.go:284", after := #[{ on := 22, ground := Go.Ground.data }, { on := 20, ground := Go.Ground.data }, { on := 18, ground := Go.Ground.chain }, { on := 0, ground := Go.Ground.phase }, { on := 1, ground := Go.Ground.phase }, { on := 2, ground := Go.Ground.phase }, { on := 3, ground := Go.Ground.phase }, { on := 4, ground := Go.Ground.phase }, { on := 5, ground := Go.Ground.phase }, { on := 6, ground := Go.Ground.phase }, { on := 7, ground := Go.Ground.phase }, { on := 8, ground := Go.Ground.phase }, { on := 9, ground := Go.Ground.phase }, { on := 10, ground := Go.Ground.phase }, { on := 11, ground := Go.Ground.phase }, { on := 12, ground := Go.Ground.phase }, { on := 13, ground := Go.Ground.phase }, { on := 14, ground := Go.Ground.phase }, { on := 15, ground := Go.Ground.phase }, { on := 16, ground := Go.Ground.phase }, { on := 17, ground := Go.Ground.phase }, { on := 18, ground := Go.Ground.phase }, { on := 19, ground := Go.Ground.phase }, { on := 20, ground := Go.Ground.phase }, { on := 21, ground := Go.Ground.textOnly Go.Departure.lateStores }, { on := 22, ground := Go.Ground.phase }], guard := none }) rfl (fun K hK => ?_) ?_
                    · go_simp
                      refine hK.out _ _ ?_ (fun hHeld => ?_)
                      · (try dsimp only)
                        (((with_reducible refine put_and ?_ HTC.out HUC.out HXC.out); repeat (first | with_reducible assumption | with_reducible exact hk0 | with_reducible refine kept_drew ?_ | with_reducible refine kept_alloc ?_ _ | ((with_reducible refine kept_set ?_ ?hh _); (case hh => first | exact Nat.le_refl _ | exact hszp)))))
                      clear hK K
                      (try simp only [Act.put, List.setIfInBounds_toArray, List.set_cons_zero, List.set_cons_succ])
                      refine wpAnyH_take (i := 24) (oi := { dst := some 14, op := Go.Op.assign (Go.Operand.tmp 74), type := 4, pos := "ref.go:284", after := #[{ on := 21, ground := Go.Ground.data }, { on := 23, ground := Go.Ground.chain }, { on := 0, ground := Go.Ground.phase }, { on := 1, ground := Go.Ground.phase }, { on := 2, ground := Go.Ground.phase }, { on := 3, ground := Go.Ground.phase }, { on := 4, ground := Go.Ground.phase }, { on := 5, ground := Go.Ground.phase }, { on := 6, ground := Go.Ground.phase }, { on := 7, ground := Go.Ground.phase }, { on := 8, ground := Go.Ground.phase }, { on := 9, ground := Go.Ground.phase }, { on := 10, ground := Go.Ground.phase }, { on := 11, ground := Go.Ground.phase }, { on := 12, ground := Go.Ground.phase }, { on := 13, ground := Go.Ground.phase }, { on := 14, ground := Go.Ground.phase }, { on := 15, ground := Go.Ground.phase }, { on := 16, ground := Go.Ground.phase }, { on := 17, ground := Go.Ground.phase }, { on := 18, ground := Go.Ground.phase }, { on := 19, ground := Go.Ground.phase }, { on := 20, ground := Go.Ground.phase }, { on := 21, ground := Go.Ground.phase }, { on := 22, ground := Go.Ground.phase }, { on := 23, ground := Go.Ground.phase }], guard := none }) (v := ?_) rfl (by kernel_rfl) (by kernel_rfl) (by kernel_rfl) (fun _ _ _ h => h) (Or.inl ⟨by rfl, ?_⟩) (by assumption) ?_
                      rotate_left 1
                      · ((intro w hSw; (try dsimp only at hSw); go_simp) <;> with_reducible rfl)
                      (try simp only [Act.put, List.setIfInBounds_toArray, List.set_cons_zero, List.set_cons_succ])
                      refine wpAnyH_done (by kernel_rfl) ?_ _
                      have hHold := True.intro
                      clear hHold
                      rcases HANS.out with ⟨rfl, hr, rfl, hl2⟩ | ⟨rfl, hr⟩
                      · have HKW := Lib.hid hHeld.1
                        have hN : (((((wn.setCell ⟨wr.heap.size, 0, none⟩ (.int .i64 x.k)).setCell ⟨wr.heap.size, 1, none⟩ (.int .i64 x.i)).setCell ⟨wr.heap.size, 2, none⟩ (.int .i64 x.j)).setCell ⟨wr.heap.size, 3, none⟩ (.int .i64 x.n)).setCell ⟨wr.heap.size, 4, none⟩ (.slice a2 x.kids.length cap2)).heap[wr.heap.size]? = some (boxOf x (.slice a2 x.kids.length cap2)) := five_set hZ
                        have hLW : LiesP (((((wn.setCell ⟨wr.heap.size, 0, none⟩ (.int .i64 x.k)).setCell ⟨wr.heap.size, 1, none⟩ (.int .i64 x.i)).setCell ⟨wr.heap.size, 2, none⟩ (.int .i64 x.j)).setCell ⟨wr.heap.size, 3, none⟩ (.int .i64 x.n)).setCell ⟨wr.heap.size, 4, none⟩ (.slice a2 x.kids.length cap2)) (Own wr.heap.size (((((wn.setCell ⟨wr.heap.size, 0, none⟩ (.int .i64 x.k)).setCell ⟨wr.heap.size, 1, none⟩ (.int .i64 x.i)).setCell ⟨wr.heap.size, 2, none⟩ (.int .i64 x.j)).setCell ⟨wr.heap.size, 3, none⟩ (.int .i64 x.n)).setCell ⟨wr.heap.size, 4, none⟩ (.slice a2 x.kids.length cap2))) x.kids (.slice a2 x.kids.length cap2) := liesP_fives hl2 hgc hnc _ _ _ _ _
                        generalize ((((wn.setCell ⟨wr.heap.size, 0, none⟩ (.int .i64 x.k)).setCell ⟨wr.heap.size, 1, none⟩ (.int .i64 x.i)).setCell ⟨wr.heap.size, 2, none⟩ (.int .i64 x.j)).setCell ⟨wr.heap.size, 3, none⟩ (.int .i64 x.n)).setCell ⟨wr.heap.size, 4, none⟩ (.slice a2 x.kids.length cap2) = W at HKW hN hLW ⊢
                        have HFX := Lib.hid (putG_fine (gPut_fine HUR.out) (HRK.out _ HM.out) (by omega) hr)
                        have HRS := Lib.hid hr
                        obtain ⟨p0, p1, p2, p3, p4⟩ := five_cells hN
                        have HLW := Lib.hid hLW
                        clear hN hLW hr
                        go_wp2_with (at_builtin; refine wpList_append_lies _ rfl _ _ 22 rfl (w.heap.size + 3) 24 i0 _ 5 56 (by kernel_rfl) HI.out.1 HI.out.2.1 HI.out.2.2.1 HI.out.2.2.2 rfl (by decide) _ ps.length (cells5 ps) rfl (made_later (made_later HMD.out HKW.out) ((Below.refl _ _).alloc (Nat.le_refl _) _)).own ⟨W.heap.size, 0, none⟩ 1 1 (cells5 [(x, .slice a2 x.kids.length cap2)]) rfl rfl ?news ?one (by decide) ?max ?bytes ?base _ rfl ?next)
                        case news => first | exact news_new _ _ _ _ | exact fun j u h => h
                        case one => exact one5 _ _
                        case max => have := HPL.out; unfold maxLen; omega
                        case bytes => have := HPL.out; omega
                        case base => have := Below.size HKW.out; simp; omega
                        case next =>
                          intro g3 cap3 w3 hown hgrow hat _
                          have hpb := push_once HDK.out HMD.out HFX.out HKW.out HLW.out _ hown hgrow (by simpa using hat)
                          clear hown hgrow hat
                          go_wp2_with fail
                          go_roundw
                          case rel => exact ⟨q + 1, ps ++ [(x, .slice a2 x.kids.length cap2)], _, rfl, hlt, by go_num, by rw [Hid, optK_next hlt HPS.out HRS.out]; simp, hpb.1, hpb.2⟩
                          case measure => simp [intOf]; omega
                      · have HKW := Lib.hid hHeld.1
                        generalize ((((wn.setCell ⟨wr.heap.size, 0, none⟩ (.int .i64 x.k)).setCell ⟨wr.heap.size, 1, none⟩ (.int .i64 x.i)).setCell ⟨wr.heap.size, 2, none⟩ (.int .i64 x.j)).setCell ⟨wr.heap.size, 3, none⟩ (.int .i64 x.n)).setCell ⟨wr.heap.size, 4, none⟩ (.slice a2 n2 cap2) = W at HKW ⊢
                        have hdW := desk_trans HDK.out (below_from HKW.out hsz)
                        obtain ⟨-, q1, -⟩ := desk_blocks hdW
                        obtain ⟨z0, z1, z2, z3, z4⟩ := five_cells q1
                        obtain ⟨f0, f1, f2, f3, f4⟩ := five_free q1
                        go_wp2
                        (try simp only [Exit.inBlock, Exit.then])
                        refine bodyPost_ret (results_cell_tmp rfl _ _ (w.heap.size + 1) _ _ _ du rfl (five_set q1) hu1 (by cases du <;> first | rfl | exact hu2) size_term) rfl ?_
                        exact ⟨Tm.zero, none, 0, 0, false, rfl, HBP.out.trans ((below_five (desk_under hdW) (by omega) _ _ _ _ _).mono HBP.out.size), Or.inr ⟨rfl, by rw [HEQ.out, optK_stop hlt hr]; rfl⟩⟩
                    exact AllReadyH.nil
                  exact AllReadyH.nil
                exact AllReadyH.nil
              exact AllReadyH.nil
            refine AllReadyH.cons (o := { dst := some 13, op := Go.Op.alloc 24, type := 0, pos := "ref.go:284", after := #[], guard := none }) rfl (fun K hK => ?_) ?_
            · go_simp
              refine hK.out _ _ ?_ (fun hHeld => ?_)
              · (try dsimp only)
                (((with_reducible refine put_and ?_ HTC.out HUC.out HXC.out); repeat (first | with_reducible assumption | with_reducible exact hk0 | with_reducible refine kept_drew ?_ | with_reducible refine kept_alloc ?_ _ | ((with_reducible refine kept_set ?_ ?hh _); (case hh => first | exact Nat.le_refl _ | exact hszp)))))
              clear hK K
              (try simp only [Act.put, List.setIfInBounds_toArray, List.set_cons_zero, List.set_cons_succ])
              have hZ : (wr.drew.alloc zeroObj).heap[wr.heap.size]? = some zeroObj := alloc_new _ _
              refine wpAnyH_ready (rs := [10]) (by kernel_rfl) (by simp) ?_
              refine AllReadyH.cons (o := { dst := some 64, op := Go.Op.call { callee := Go.Callee.value (Go.Operand.func 48), args := #[Go.Operand.tmp 62, Go.Operand.tmp 63], argTypes := #[3, 3] }, type := 3, pos := "ref.go:284", after := #[{ on := 8, ground := Go.Ground.data }, { on := 9, ground := Go.Ground.data }], guard := none }) rfl (fun K hK => ?_) ?_
              · go_simp
                (go_at_call 48; refine (refbinds_any _ _ _).mono ?_; rintro e w' ⟨rfl, rfl⟩)
                refine hK.out _ _ ?_ (fun hHeld => ?_)
                · (try dsimp only)
                  (((with_reducible refine put_and ?_ HTC.out HUC.out HXC.out); repeat (first | with_reducible assumption | with_reducible exact hk0 | with_reducible refine kept_drew ?_ | with_reducible refine kept_alloc ?_ _ | ((with_reducible refine kept_set ?_ ?hh _); (case hh => first | exact Nat.le_refl _ | exact hszp)))))
                clear hK K
                (try simp only [Act.put, List.setIfInBounds_toArray, List.set_cons_zero, List.set_cons_succ])
                refine wpAnyH_take (i := 11) (oi := { dst := some 65, op := Go.Op.binOp Go.BinOp.add 3 (Go.Operand.tmp 60) (Go.Operand.tmp 64) 3, type := 3, pos := "ref.go:284", after := #[{ on := 6, ground := Go.Ground.data }, { on := 10, ground := Go.Ground.data }], guard := none }) (v := ?_) rfl (by kernel_rfl) (by kernel_rfl) (by kernel_rfl) (fun _ _ _ h => h) (Or.inl ⟨by rfl, ?_⟩) (by assumption) ?_
                rotate_left 1
                · ((intro w hSw; (try dsimp only at hSw); go_simp) <;> with_reducible rfl)
                (try simp only [Act.put, List.setIfInBounds_toArray, List.set_cons_zero, List.set_cons_succ])
                refine wpAnyH_take (i := 13) (oi := { dst := some 67, op := Go.Op.move (Go.Operand.tmp 66), type := 4, pos := "ref.go:284", after := #[{ on := 12, ground := Go.Ground.data }, { on := 10, ground := Go.Ground.chain }], guard := none }) (v := ?_) rfl (by kernel_rfl) (by kernel_rfl) (by kernel_rfl) (fun _ _ _ h => h) (Or.inl ⟨by rfl, ?_⟩) (by assumption) ?_
                rotate_left 1
                · ((intro w hSw; (try dsimp only at hSw); go_simp) <;> with_reducible rfl)
                (try simp only [Act.put, List.setIfInBounds_toArray, List.set_cons_zero, List.set_cons_succ])
                refine wpAnyH_take (i := 14) (oi := { dst := some 68, op := Go.Op.load 24 (Go.Operand.tmp 4), type := 24, pos := "ref.go:284", after := #[{ on := 13, ground := Go.Ground.guard }], guard := some (13, false) }) (v := ?_) rfl (by kernel_rfl) (by kernel_rfl) (by kernel_rfl) (fun _ _ _ h => h) (Or.inl ⟨by rfl, ?_⟩) (by assumption) ?_
                rotate_left 1
                · ((intro w hSw; (try dsimp only at hSw); go_simp) <;> with_reducible rfl)
                (try simp only [Act.put, List.setIfInBounds_toArray, List.set_cons_zero, List.set_cons_succ])
                refine wpAnyH_take (i := 15) (oi := { dst := some 69, op := Go.Op.move (Go.Operand.tmp 12), type := 3, pos := "ref.go:284", after := #[{ on := 13, ground := Go.Ground.guard }], guard := some (13, false) }) (v := ?_) rfl (by kernel_rfl) (by kernel_rfl) (by kernel_rfl) (fun _ _ _ h => h) (Or.inl ⟨by rfl, ?_⟩) (by assumption) ?_
                rotate_left 1
                · ((intro w hSw; (try dsimp only at hSw); go_simp) <;> with_reducible rfl)
                (try simp only [Act.put, List.setIfInBounds_toArray, List.set_cons_zero, List.set_cons_succ])
                refine wpAnyH_ready (rs := [16]) (by kernel_rfl) (by simp) ?_
                refine AllReadyH.cons (o := { dst := some 70, op := Go.Op.call { callee := Go.Callee.value (Go.Operand.func 49), args := #[Go.Operand.tmp 68, Go.Operand.tmp 69], argTypes := #[24, 3] }, type := 4, pos := "ref.go:284", after := #[{ on := 14, ground := Go.Ground.data }, { on := 15, ground := Go.Ground.data }, { on := 13, ground := Go.Ground.chain }, { on := 13, ground := Go.Ground.guard }], guard := some (13, false) }) rfl (fun K hK => ?_) ?_
                · go_simp
                  (go_at_call 49; have hS := hHeld.1; refine (refplainly_any t q _ _ _ _).mono ?_; rintro e wp ⟨rfl, hbn⟩; have hhp := kept_call hS hbn; have hszp : wr.heap.size ≤ wp.heap.size := Below.size hhp; have hZ := keep_block hbn (block_lt hZ) hZ; clear hbn hS)
                  refine hK.out _ _ ?_ (fun hHeld => ?_)
                  · (try dsimp only)
                    (((with_reducible refine put_and ?_ HTC.out HUC.out HXC.out); repeat (first | with_reducible assumption | with_reducible exact hk0 | with_reducible refine kept_drew ?_ | with_reducible refine kept_alloc ?_ _ | ((with_reducible refine kept_set ?_ ?hh _); (case hh => first | exact Nat.le_refl _ | exact hszp)))))
                  clear hK K
                  (try simp only [Act.put, List.setIfInBounds_toArray, List.set_cons_zero, List.set_cons_succ])
                  refine wpAnyH_take (i := 17) (oi := { dst := some 71, op := Go.Op.pick (Go.Operand.tmp 67) (Go.Operand.const (Go.Value.bool true)) (Go.Operand.tmp 70), type := 4, pos := "ref.go:284", after := #[{ on := 13, ground := Go.Ground.data }, { on := 16, ground := Go.Ground.data }], guard := none }) (v := ?_) rfl (by kernel_rfl) (by kernel_rfl) (by kernel_rfl) (fun _ _ _ h => h) (Or.inl ⟨by rfl, ?_⟩) (by assumption) ?_
                  rotate_left 1
                  · ((intro w hSw; (try dsimp only at hSw); go_simp) <;> with_reducible rfl)
                  (try simp only [Act.put, List.setIfInBounds_toArray, List.set_cons_zero, List.set_cons_succ])
                  refine wpAnyH_ready (rs := [18]) (by kernel_rfl) (by simp) ?_
                  refine AllReadyH.cons (o := { dst := some 72, op := Go.Op.call { callee := Go.Callee.value (Go.Operand.func 36), args := #[Go.Operand.tmp 58, Go.Operand.tmp 59, Go.Operand.tmp 65, Go.Operand.tmp 71], argTypes := #[24, 24, 3, 4] }, type := 33, pos := "ref.go:284", after := #[{ on := 4, ground := Go.Ground.data }, { on := 5, ground := Go.Ground.data }, { on := 11, ground := Go.Ground.data }, { on := 17, ground := Go.Ground.data }, { on := 16, ground := Go.Ground.chain }], guard := none }) rfl (fun K hK => ?_) ?_
                  · go_simp
                    (go_at_call 36; have hS := hHeld.1; have hnc := Below.size hS; have hgc := block_lt hZ; ((with_reducible refine Calls.mono (CALL.out _ hS) ?_); rintro e wn ⟨x, a2, n2, cap2, ok, rfl, hbn, hans⟩; have HANS := Lib.hid hans; have hhn := kept_call hS hbn; have hZ := keep_block hbn (block_lt hZ) hZ; obtain ⟨⟨g0, g1, g2, g3, g4⟩, v0, v1, v2, v3, v4⟩ := And.intro (five_cells hZ) (five_free hZ); clear hans hbn hS))
                    refine hK.out _ _ ?_ (fun hHeld => ?_)
                    · (try dsimp only)
                      (((with_reducible refine put_and ?_ HTC.out HUC.out HXC.out); repeat (first | with_reducible assumption | with_reducible exact hk0 | with_reducible refine kept_drew ?_ | with_reducible refine kept_alloc ?_ _ | ((with_reducible refine kept_set ?_ ?hh _); (case hh => first | exact Nat.le_refl _ | exact hszp)))))
                    clear hK K
                    (try simp only [Act.put, List.setIfInBounds_toArray, List.set_cons_zero, List.set_cons_succ])
                    refine wpAnyH_take (i := 19) (oi := { dst := some 53, op := Go.Op.move (Go.Operand.tmp 72), type := 33, pos := "ref.go:284", after := #[{ on := 18, ground := Go.Ground.data }], guard := none }) (v := ?_) rfl (by kernel_rfl) (by kernel_rfl) (by kernel_rfl) (fun _ _ _ h => h) (Or.inl ⟨by rfl, ?_⟩) (by assumption) ?_
                    rotate_left 1
                    · ((intro w hSw; (try dsimp only at hSw); go_simp) <;> with_reducible rfl)
                    (try simp only [Act.put, List.setIfInBounds_toArray, List.set_cons_zero, List.set_cons_succ])
                    refine wpAnyH_take (i := 20) (oi := { dst := some 73, op := Go.Op.extract (Go.Operand.tmp 53) 0, type := 24, pos := "ref.go:284", after := #[{ on := 19, ground := Go.Ground.data }], guard := none }) (v := ?_) rfl (by kernel_rfl) (by kernel_rfl) (by kernel_rfl) (fun _ _ _ h => h) (Or.inl ⟨by rfl, ?_⟩) (by assumption) ?_
                    rotate_left 1
                    · ((intro w hSw; (try dsimp only at hSw); go_simp) <;> with_reducible rfl)
                    (try simp only [Act.put, List.setIfInBounds_toArray, List.set_cons_zero, List.set_cons_succ])
                    refine wpAnyH_take (i := 21) (oi := { dst := some 74, op := Go.Op.extract (Go.Operand.tmp 53) 1, type := 4, pos := "ref.go:284", after := #[{ on := 19, ground := Go.Ground.data }, { on := 23, ground := Go.Ground.gcOnly Go.Departure.lateStores }], guard := none }) (v := ?_) rfl (by kernel_rfl) (by kernel_rfl) (by kernel_rfl) (fun _ _ _ h => h) (Or.inl ⟨by rfl, ?_⟩) (by assumption) ?_
                    rotate_left 1
                    · ((intro w hSw; (try dsimp only at hSw); go_simp) <;> with_reducible rfl)
                    (try simp only [Act.put, List.setIfInBounds_toArray, List.set_cons_zero, List.set_cons_succ])
                    refine wpAnyH_ready (rs := [23]) (by kernel_rfl) (by simp) ?_
                    refine AllReadyH.cons (o := { dst := none, op := Go.Op.store 24 (Go.Operand.tmp 13) (Go.Operand.tmp 73), type := 0, pos := "ref.go:284", after := #[{ on := 22, ground := Go.Ground.data }, { on := 20, ground := Go.Ground.data }, { on := 18, ground := Go.Ground.chain }, { on := 0, ground := Go.Ground.phase }, { on := 1, ground := Go.Ground.phase }, { on := 2, ground := Go.Ground.phase }, { on := 3, ground := Go.Ground.phase }, { on := 4, ground := Go.Ground.phase }, { on := 5, ground := Go.Ground.phase }, { on := 6, ground := Go.Ground.phase }, { on := 7, ground := Go.Ground.phase }, { on := 8, ground := Go.Ground.phase }, { on := 9, ground := Go.Ground.phase }, { on := 10, ground := Go.Ground.phase }, { on := 11, ground := Go.Ground.phase }, { on := 12, ground := Go.Ground.phase }, { on := 13, ground := Go.Ground.phase }, { on := 14, ground := Go.Ground.phase }, { on := 15, ground := Go.Ground.phase }, { on := 16, ground := Go.Ground.phase }, { on := 17, ground := Go.Ground.phase }, { on := 18, ground := Go.Ground.phase }, { on := 19, ground := Go.Ground.phase }, { on := 20, ground := Go.Ground.phase }, { on := 21, ground := Go.Ground.textOnly Go.Departure.lateStores }, { on := 22, ground := Go.Ground.phase }], guard := none }) rfl (fun K hK => ?_) ?_
                    · go_simp
                      refine hK.out _ _ ?_ (fun hHeld => ?_)
                      · (try dsimp only)
                        (((with_reducible refine put_and ?_ HTC.out HUC.out HXC.out); repeat (first | with_reducible assumption | with_reducible exact hk0 | with_reducible refine kept_drew ?_ | with_reducible refine kept_alloc ?_ _ | ((with_reducible refine kept_set ?_ ?hh _); (case hh => first | exact Nat.le_refl _ | exact hszp)))))
                      clear hK K
                      (try simp only [Act.put, List.setIfInBounds_toArray, List.set_cons_zero, List.set_cons_succ])
                      refine wpAnyH_take (i := 24) (oi := { dst := some 14, op := Go.Op.assign (Go.Operand.tmp 74), type := 4, pos := "ref.go:284", after := #[{ on := 21, ground := Go.Ground.data }, { on := 23, ground := Go.Ground.chain }, { on := 0, ground := Go.Ground.phase }, { on := 1, ground := Go.Ground.phase }, { on := 2, ground := Go.Ground.phase }, { on := 3, ground := Go.Ground.phase }, { on := 4, ground := Go.Ground.phase }, { on := 5, ground := Go.Ground.phase }, { on := 6, ground := Go.Ground.phase }, { on := 7, ground := Go.Ground.phase }, { on := 8, ground := Go.Ground.phase }, { on := 9, ground := Go.Ground.phase }, { on := 10, ground := Go.Ground.phase }, { on := 11, ground := Go.Ground.phase }, { on := 12, ground := Go.Ground.phase }, { on := 13, ground := Go.Ground.phase }, { on := 14, ground := Go.Ground.phase }, { on := 15, ground := Go.Ground.phase }, { on := 16, ground := Go.Ground.phase }, { on := 17, ground := Go.Ground.phase }, { on := 18, ground := Go.Ground.phase }, { on := 19, ground := Go.Ground.phase }, { on := 20, ground := Go.Ground.phase }, { on := 21, ground := Go.Ground.phase }, { on := 22, ground := Go.Ground.phase }, { on := 23, ground := Go.Ground.phase }], guard := none }) (v := ?_) rfl (by kernel_rfl) (by kernel_rfl) (by kernel_rfl) (fun _ _ _ h => h) (Or.inl ⟨by rfl, ?_⟩) (by assumption) ?_
                      rotate_left 1
                      · ((intro w hSw; (try dsimp only at hSw); go_simp) <;> with_reducible rfl)
                      (try simp only [Act.put, List.setIfInBounds_toArray, List.set_cons_zero, List.set_cons_succ])
                      refine wpAnyH_done (by kernel_rfl) ?_ _
                      have hHold := True.intro
                      clear hHold
                      rcases HANS.out with ⟨rfl, hr, rfl, hl2⟩ | ⟨rfl, hr⟩
                      · have HKW := Lib.hid hHeld.1
                        have hN : (((((wn.setCell ⟨wr.heap.size, 0, none⟩ (.int .i64 x.k)).setCell ⟨wr.heap.size, 1, none⟩ (.int .i64 x.i)).setCell ⟨wr.heap.size, 2, none⟩ (.int .i64 x.j)).setCell ⟨wr.heap.size, 3, none⟩ (.int .i64 x.n)).setCell ⟨wr.heap.size, 4, none⟩ (.slice a2 x.kids.length cap2)).heap[wr.heap.size]? = some (boxOf x (.slice a2 x.kids.length cap2)) := five_set hZ
                        have hLW : LiesP (((((wn.setCell ⟨wr.heap.size, 0, none⟩ (.int .i64 x.k)).setCell ⟨wr.heap.size, 1, none⟩ (.int .i64 x.i)).setCell ⟨wr.heap.size, 2, none⟩ (.int .i64 x.j)).setCell ⟨wr.heap.size, 3, none⟩ (.int .i64 x.n)).setCell ⟨wr.heap.size, 4, none⟩ (.slice a2 x.kids.length cap2)) (Own wr.heap.size (((((wn.setCell ⟨wr.heap.size, 0, none⟩ (.int .i64 x.k)).setCell ⟨wr.heap.size, 1, none⟩ (.int .i64 x.i)).setCell ⟨wr.heap.size, 2, none⟩ (.int .i64 x.j)).setCell ⟨wr.heap.size, 3, none⟩ (.int .i64 x.n)).setCell ⟨wr.heap.size, 4, none⟩ (.slice a2 x.kids.length cap2))) x.kids (.slice a2 x.kids.length cap2) := liesP_fives hl2 hgc hnc _ _ _ _ _
                        generalize ((((wn.setCell ⟨wr.heap.size, 0, none⟩ (.int .i64 x.k)).setCell ⟨wr.heap.size, 1, none⟩ (.int .i64 x.i)).setCell ⟨wr.heap.size, 2, none⟩ (.int .i64 x.j)).setCell ⟨wr.heap.size, 3, none⟩ (.int .i64 x.n)).setCell ⟨wr.heap.size, 4, none⟩ (.slice a2 x.kids.length cap2) = W at HKW hN hLW ⊢
                        have HFX := Lib.hid (putG_fine (gPut_fine HUR.out) (HRK.out _ HM.out) (by omega) hr)
                        have HRS := Lib.hid hr
                        obtain ⟨p0, p1, p2, p3, p4⟩ := five_cells hN
                        have HLW := Lib.hid hLW
                        clear hN hLW hr
                        go_wp2_with (at_builtin; refine wpList_append_lies _ rfl _ _ 22 rfl (w.heap.size + 3) 24 i0 _ 5 56 (by kernel_rfl) HI.out.1 HI.out.2.1 HI.out.2.2.1 HI.out.2.2.2 rfl (by decide) _ ps.length (cells5 ps) rfl (made_later (made_later HMD.out HKW.out) ((Below.refl _ _).alloc (Nat.le_refl _) _)).own ⟨W.heap.size, 0, none⟩ 1 1 (cells5 [(x, .slice a2 x.kids.length cap2)]) rfl rfl ?news ?one (by decide) ?max ?bytes ?base _ rfl ?next)
                        case news => first | exact news_new _ _ _ _ | exact fun j u h => h
                        case one => exact one5 _ _
                        case max => have := HPL.out; unfold maxLen; omega
                        case bytes => have := HPL.out; omega
                        case base => have := Below.size HKW.out; simp; omega
                        case next =>
                          intro g3 cap3 w3 hown hgrow hat _
                          have hpb := push_once HDK.out HMD.out HFX.out HKW.out HLW.out _ hown hgrow (by simpa using hat)
                          clear hown hgrow hat
                          go_wp2_with fail
                          go_roundw
                          case rel => exact ⟨q + 1, ps ++ [(x, .slice a2 x.kids.length cap2)], _, rfl, hlt, by go_num, by rw [Hid, optK_next hlt HPS.out HRS.out]; simp, hpb.1, hpb.2⟩
                          case measure => simp [intOf]; omega
                      · have HKW := Lib.hid hHeld.1
                        generalize ((((wn.setCell ⟨wr.heap.size, 0, none⟩ (.int .i64 x.k)).setCell ⟨wr.heap.size, 1, none⟩ (.int .i64 x.i)).setCell ⟨wr.heap.size, 2, none⟩ (.int .i64 x.j)).setCell ⟨wr.heap.size, 3, none⟩ (.int .i64 x.n)).setCell ⟨wr.heap.size, 4, none⟩ (.slice a2 n2 cap2) = W at HKW ⊢
                        have hdW := desk_trans HDK.out (below_from HKW.out hsz)
                        obtain ⟨-, q1, -⟩ := desk_blocks hdW
                        obtain ⟨z0, z1, z2, z3, z4⟩ := five_cells q1
                        obtain ⟨f0, f1, f2, f3, f4⟩ := five_free q1
                        go_wp2
                        (try simp only [Exit.inBlock, Exit.then])
                        refine bodyPost_ret (results_cell_tmp rfl _ _ (w.heap.size + 1) _ _ _ du rfl (five_set q1) hu1 (by cases du <;> first | rfl | exact hu2) size_term) rfl ?_
                        exact ⟨Tm.zero, none, 0, 0, false, rfl, HBP.out.trans ((below_five (desk_under hdW) (by omega) _ _ _ _ _).mono HBP.out.size), Or.inr ⟨rfl, by rw [HEQ.out, optK_stop hlt hr]; rfl⟩⟩
                    exact AllReadyH.nil
                  exact AllReadyH.nil
                exact AllReadyH.nil
              exact AllReadyH.nil
            exact AllReadyH.nil
        · have : q = t.kids.length := by omega
          subst this
          have hd2 := desk_set (v' := vv) hdk
          have hres : t.putG (gPut u) b F = some (.mk t.k t.i t.j t.n (ps.map (·.1))) := by
            have := HPS.out
            rw [List.take_length] at this
            rw [HEQ.out, this]; rfl
          obtain ⟨-, q1', -⟩ := desk_blocks hd2
          have hll := made_lies hmade
          obtain ⟨a2, cap2, rfl, -, -⟩ := hll.out
          simp only [List.length_map] at hd2 q1' hll
          obtain ⟨y0, y1, y2, y3, y4⟩ := five_cells q2
          obtain ⟨f0, f1, f2, f3, f4⟩ := five_free q2
          obtain ⟨z0, z1, z2, z3, z4⟩ := five_cells q1
          obtain ⟨g0, g1, g2, g3, g4⟩ := five_free q1
          go_wp2
          (try simp only [Exit.inBlock, Exit.then])
          refine bodyPost_ret (results_cell_tmp rfl _ _ (w.heap.size + 1) _ _ _ du rfl (five_set q1') hu1 (by cases du <;> first | rfl | exact hu2) size_term) rfl ?_
          exact ⟨.mk t.k t.i t.j t.n (ps.map (·.1)), a2, ps.length, cap2, true, rfl, HBP.out.trans ((below_five (desk_under hd2) (by omega) _ _ _ _ _).mono HBP.out.size), Or.inl ⟨rfl, hres, by simp [Tm.kids], by show LiesP _ _ (ps.map (·.1)) _; exact liesP_fives (liesP_set hll (by omega) (Nat.le_refl _) _) (by omega) (by omega) _ _ _ _ _⟩⟩
end Go.Proofs.Ytmhmengbhdaodaa

/-! The page's own may and Put. -/
namespace Go.Proofs.Ytmhmengbhdaodaa
open Go.RowKit

set_option maxHeartbeats 2000000 in
theorem refmay_any (t u : Tm) (w : World) (s r : Value) (hl : Lies w t.kids s) (hm : Lies w u.kids r) : Calls Try.prog 35 #[tv t s, tv u r] w fun e w' => e = .returned (.bool (mayB t u)) ∧ Below w.heap.size w w' := by
  obtain ⟨a, cap, S, rfl, -⟩ := hl.out
  obtain ⟨a2, cap2, S2, rfl, -⟩ := hm.out
  have HL := Lib.hid hl
  have HM := Lib.hid hm
  have H0 := held2_start w t (.slice a t.kids.length cap) u (.slice a2 u.kids.length cap2)
  clear hl hm
  unfold tv
  go_enter Try.func35, Try.ntmps35
  go_wp2_with fail
  refine (refright_any u _ _ (held2_lies H0 HM.out)).mono ?_
  cases hu : u.rightB
  · rintro e w1 ⟨rfl, hb1⟩
    have H1 := held2_call H0 hb1
    go_wp2
    go_ret
    exact ⟨ret_bool (by unfold mayB; rw [hu]; rfl), held2_below H1⟩
  rintro e w1 ⟨rfl, hb1⟩
  have H1 := held2_call H0 hb1
  obtain ⟨d0, d1, d2, d3, d4, e0, e1, e2, e3, e4⟩ := held2_cells H1
  have HU := Lib.hid hu
  clear hb1 H0 hu
  by_cases k1 : t.k = 1
  · have f1 : (t.k == 1) = true := by simpa using k1
    have HB := Lib.hid (show mayB t u = true by unfold mayB; rw [HU.out, f1]; rfl)
    clear k1
    go_wp2
    go_ret
    exact ⟨ret_bool HB.out.symm, held2_below H1⟩
  have f1 : (t.k == 1) = false := by simpa using k1
  by_cases k2 : t.k = 2
  · have f2 : (t.k == 2) = true := by simpa using k2
    have HB := Lib.hid (show mayB t u = true by unfold mayB; rw [HU.out, f1, f2]; rfl)
    clear k1 k2
    go_wp2
    go_ret
    exact ⟨ret_bool HB.out.symm, held2_below H1⟩
  have f2 : (t.k == 2) = false := by simpa using k2
  clear k1 k2
  go_wp2_with fail
  refine (refplain_any t _ _ (held2_lies H1 HL.out)).mono ?_
  cases hp : t.plainB
  · rintro e w2 ⟨rfl, hb2⟩
    have H2 := held2_call H1 hb2
    have HB := Lib.hid (show mayB t u = u.markedB by unfold mayB; rw [HU.out, f1, f2, hp]; rfl)
    clear hb2 H1 d0 d1 d2 d3 d4 e0 e1 e2 e3 e4 hp
    obtain ⟨d0, d1, d2, d3, d4, e0, e1, e2, e3, e4⟩ := held2_cells H2
    go_wp2_with fail
    refine (refmarked_any u _ _ (held2_lies H2 HM.out)).mono ?_
    obtain ⟨M, hM⟩ : ∃ M, u.markedB = M := ⟨_, rfl⟩
    rw [hM] at HB ⊢
    clear hM
    rintro e w3 ⟨rfl, hb3⟩
    have H3 := held2_call H2 hb3
    go_wp2
    go_ret
    exact ⟨ret_bool HB.out.symm, held2_below H3⟩
  · rintro e w2 ⟨rfl, hb2⟩
    have H2 := held2_call H1 hb2
    have HB := Lib.hid (show mayB t u = true by unfold mayB; rw [HU.out, f1, f2, hp]; rfl)
    clear hp
    go_wp2
    go_ret
    exact ⟨ret_bool HB.out.symm, held2_below H2⟩

set_option maxRecDepth 20000 in
set_option maxHeartbeats 2000000 in
theorem refPutT_any (t u : Tm) (w : World) (s r : Value) (hl : Lies w t.kids s) (hm : Lies w u.kids r) (hdt : t.deep ≤ 100000) (hdu : u.deep ≤ 100000) : Calls Try.prog 15 #[tv t s, tv u r] w (Makes (t.putB u) w) := by
  obtain ⟨a, cap, S, rfl, -⟩ := hl.out
  obtain ⟨a2, cap2, S2, rfl, -⟩ := hm.out
  obtain ⟨du, hu1, hu2⟩ := under_term
  have hB := below_three w (.cells #[.int .i64 t.k, .int .i64 t.i, .int .i64 t.j, .int .i64 t.n, .slice a t.kids.length cap] 24) (.cells #[.int .i64 u.k, .int .i64 u.i, .int .i64 u.j, .int .i64 u.n, .slice a2 u.kids.length cap2] 24) (.cells #[.int .i64 0, .int .i64 0, .int .i64 0, .int .i64 0, .slice none 0 0] 24)
  obtain ⟨q0, q1, q2, -⟩ := heap_three w (.cells #[.int .i64 t.k, .int .i64 t.i, .int .i64 t.j, .int .i64 t.n, .slice a t.kids.length cap] 24) (.cells #[.int .i64 u.k, .int .i64 u.i, .int .i64 u.j, .int .i64 u.n, .slice a2 u.kids.length cap2] 24) (.cells #[.int .i64 0, .int .i64 0, .int .i64 0, .int .i64 0, .slice none 0 0] 24)
  have HL := Lib.hid (hl.keep hB)
  have HM := Lib.hid (hm.keep hB)
  have hs3 : w.heap.size + 1 + 1 < (((w.alloc (.cells #[.int .i64 t.k, .int .i64 t.i, .int .i64 t.j, .int .i64 t.n, .slice a t.kids.length cap] 24)).alloc (.cells #[.int .i64 u.k, .int .i64 u.i, .int .i64 u.j, .int .i64 u.n, .slice a2 u.kids.length cap2] 24)).alloc (.cells #[.int .i64 0, .int .i64 0, .int .i64 0, .int .i64 0, .slice none 0 0] 24)).heap.size := by simp
  clear hl hm
  unfold tv
  have hput : t.putB u = if t.rightB = true ∧ mayB t u = true then (t.putG (gPut u) 0 (decide (12 < t.k))).getD .zero else .zero := rfl
  cases hr : t.rightB with
  | false =>
    rw [if_neg (by rw [hr]; simp)] at hput
    rw [hput]
    clear hput
    go_enter Try.func15, Try.ntmps15
    go_upto_region 1 with fail
    generalize ((w.alloc (.cells #[.int .i64 t.k, .int .i64 t.i, .int .i64 t.j, .int .i64 t.n, .slice a t.kids.length cap] 24)).alloc (.cells #[.int .i64 u.k, .int .i64 u.i, .int .i64 u.j, .int .i64 u.n, .slice a2 u.kids.length cap2] 24)).alloc (.cells #[.int .i64 0, .int .i64 0, .int .i64 0, .int .i64 0, .slice none 0 0] 24) = w2 at hB q0 q1 q2 HL HM hs3 ⊢
    obtain ⟨d0, d1, d2, d3, d4⟩ := five_cells q0
    have Q2 := Lib.hid q2
    clear q0 q1 q2
    go_wp2_with fail
    refine (refright_any t _ _ HL.out).mono ?_
    rw [hr]
    rintro e w3 ⟨rfl, hb3⟩
    have q3 := (hb3.block _ hs3).trans Q2.out
    obtain ⟨z0, z1, z2, z3, z4⟩ := five_cells q3
    obtain ⟨f0, f1, f2, f3, f4⟩ := five_free q3
    have hb := hB.trans (hb3.mono hB.size)
    clear hb3 d0 d1 d2 d3 d4
    go_wp2
    (try simp only [Exit.inBlock, Exit.then])
    refine bodyPost_ret (results_cell_row rfl _ _ (w.heap.size + 1 + 1) _ _ _ du rfl (five_set q3) hu1 (by cases du <;> first | rfl | exact hu2) size_term) rfl ?_
    exact ⟨.slice none 0 0, rfl, liesP_nil _ _, below_five hb (by omega) _ _ _ _ _⟩
  | true =>
    cases hmay : mayB t u with
    | false =>
      rw [if_neg (by rw [hmay]; simp)] at hput
      rw [hput]
      clear hput
      go_enter Try.func15, Try.ntmps15
      go_upto_region 1 with fail
      generalize ((w.alloc (.cells #[.int .i64 t.k, .int .i64 t.i, .int .i64 t.j, .int .i64 t.n, .slice a t.kids.length cap] 24)).alloc (.cells #[.int .i64 u.k, .int .i64 u.i, .int .i64 u.j, .int .i64 u.n, .slice a2 u.kids.length cap2] 24)).alloc (.cells #[.int .i64 0, .int .i64 0, .int .i64 0, .int .i64 0, .slice none 0 0] 24) = w2 at hB q0 q1 q2 HL HM hs3 ⊢
      obtain ⟨d0, d1, d2, d3, d4⟩ := five_cells q0
      have Q0 := Lib.hid q0
      have Q1 := Lib.hid q1
      have Q2 := Lib.hid q2
      clear q0 q1 q2
      go_wp2_with fail
      refine (refright_any t _ _ HL.out).mono ?_
      rw [hr]
      rintro e w3 ⟨rfl, hb3⟩
      have HB3 := Lib.hid hb3
      have q3 := (hb3.block _ hs3).trans Q2.out
      clear d0 d1 d2 d3 d4
      obtain ⟨d0, d1, d2, d3, d4⟩ := five_cells ((hb3.block _ (block_lt Q0.out)).trans Q0.out)
      obtain ⟨e0, e1, e2, e3, e4⟩ := five_cells ((hb3.block _ (block_lt Q1.out)).trans Q1.out)
      have Q3 := Lib.hid q3
      have HBB := Lib.hid (hB.trans (hb3.mono hB.size))
      clear hb3 q3
      go_wp2_with fail
      refine (refmay_any t u _ _ _ (HL.out.keep HB3.out) (HM.out.keep HB3.out)).mono ?_
      rw [hmay]
      rintro e w4 ⟨rfl, hb4⟩
      have q4 := (hb4.block _ (block_lt Q3.out)).trans Q3.out
      obtain ⟨z0, z1, z2, z3, z4⟩ := five_cells q4
      obtain ⟨f0, f1, f2, f3, f4⟩ := five_free q4
      have hb := HBB.out.trans (hb4.mono HBB.out.size)
      clear hb4 d0 d1 d2 d3 d4 e0 e1 e2 e3 e4
      go_wp2
      (try simp only [Exit.inBlock, Exit.then])
      refine bodyPost_ret (results_cell_row rfl _ _ (w.heap.size + 1 + 1) _ _ _ du rfl (five_set q4) hu1 (by cases du <;> first | rfl | exact hu2) size_term) rfl ?_
      exact ⟨.slice none 0 0, rfl, liesP_nil _ _, below_five hb (by omega) _ _ _ _ _⟩
    | true =>
      rw [if_pos ⟨hr, hmay⟩] at hput
      have hur : u.rightB = true := by unfold mayB at hmay; simp only [Bool.and_eq_true] at hmay; exact hmay.1
      have CP := refput_any u hur hdu t 0 false
      obtain ⟨R, hR⟩ : ∃ R, t.putG (gPut u) 0 (decide (12 < t.k)) = R := ⟨_, rfl⟩
      rw [Bool.false_or] at CP
      rw [hR] at hput CP
      rw [hput]
      have HCP := Lib.hid CP
      clear hput CP hur hR
      go_enter Try.func15, Try.ntmps15
      go_upto_region 1 with fail
      generalize ((w.alloc (.cells #[.int .i64 t.k, .int .i64 t.i, .int .i64 t.j, .int .i64 t.n, .slice a t.kids.length cap] 24)).alloc (.cells #[.int .i64 u.k, .int .i64 u.i, .int .i64 u.j, .int .i64 u.n, .slice a2 u.kids.length cap2] 24)).alloc (.cells #[.int .i64 0, .int .i64 0, .int .i64 0, .int .i64 0, .slice none 0 0] 24) = w2 at hB q0 q1 q2 HL HM hs3 ⊢
      obtain ⟨d0, d1, d2, d3, d4⟩ := five_cells q0
      have Q0 := Lib.hid q0
      have Q1 := Lib.hid q1
      have Q2 := Lib.hid q2
      clear q0 q1 q2
      go_wp2_with fail
      refine (refright_any t _ _ HL.out).mono ?_
      rw [hr]
      have HR := Lib.hid hr
      clear hr
      rintro e w3 ⟨rfl, hb3⟩
      have HB3 := Lib.hid hb3
      have HQ0 := Lib.hid ((hb3.block _ (block_lt Q0.out)).trans Q0.out)
      have HQ1 := Lib.hid ((hb3.block _ (block_lt Q1.out)).trans Q1.out)
      have HQ2 := Lib.hid ((hb3.block _ hs3).trans Q2.out)
      clear d0 d1 d2 d3 d4
      obtain ⟨d0, d1, d2, d3, d4⟩ := five_cells HQ0.out
      obtain ⟨e0, e1, e2, e3, e4⟩ := five_cells HQ1.out
      have HBB := Lib.hid (hB.trans (hb3.mono hB.size))
      clear hb3 Q0 Q1 Q2
      go_wp2_with fail
      refine (refmay_any t u _ _ _ (HL.out.keep HB3.out) (HM.out.keep HB3.out)).mono ?_
      rw [hmay]
      clear hmay
      rintro e w4 ⟨rfl, hb4⟩
      have HB4 := Lib.hid hb4
      have q4 := (hb4.block _ (block_lt HQ2.out)).trans HQ2.out
      have Q4 := Lib.hid q4
      have hbb4 := Lib.hid (HBB.out.trans (hb4.mono HBB.out.size))
      clear d0 d1 d2 d3 d4 e0 e1 e2 e3 e4
      obtain ⟨d0, d1, d2, d3, d4⟩ := five_cells ((hb4.block _ (block_lt HQ0.out)).trans HQ0.out)
      obtain ⟨e0, e1, e2, e3, e4⟩ := five_cells ((hb4.block _ (block_lt HQ1.out)).trans HQ1.out)
      clear hb4 q4
      go_wp2_with fail
      refine (HCP.out _ _ _ ((HL.out.keep HB3.out).keep HB4.out) ((HM.out.keep HB3.out).keep HB4.out) HR.out (Int.le_refl 0) (by omega)).mono ?_
      rintro e w5 ⟨x, xa, xn, xc, ok, rfl, hb5, hans⟩
      have HANS := Lib.hid hans
      have q5 := (hb5.block _ (block_lt Q4.out)).trans Q4.out
      have hs5 : w.heap.size + 1 + 1 < w5.heap.size := block_lt q5
      have hs4 : w.heap.size + 1 + 1 < w4.heap.size := block_lt Q4.out
      obtain ⟨z0, z1, z2, z3, z4⟩ := five_cells q5
      obtain ⟨f0, f1, f2, f3, f4⟩ := five_free q5
      have hb := hbb4.out.trans (hb5.mono hbb4.out.size)
      have hs0 := hbb4.out.size
      clear hans hb5 d0 d1 d2 d3 d4 e0 e1 e2 e3 e4
      rcases HANS.out with ⟨rfl, rfl, rfl, h3⟩ | ⟨rfl, rfl⟩
      · go_wp2
        (try simp only [Exit.inBlock, Exit.then])
        refine bodyPost_ret (results_cell_row rfl _ _ (w.heap.size + 1 + 1) _ _ _ du rfl (five_alloc q5 _ _ _ _ _ _) hu1 (by cases du <;> first | rfl | exact hu2) size_term) rfl ?_
        exact ⟨_, rfl, liesP_fives_alloc h3 hs4 (by omega) _ _ _ _ _ _, below_five_alloc hb hb.size (by omega) _ _ _ _ _ _⟩
      · go_wp2
        (try simp only [Exit.inBlock, Exit.then])
        refine bodyPost_ret (results_cell_row rfl _ _ (w.heap.size + 1 + 1) _ _ _ du rfl (five_alloc q5 _ _ _ _ _ _) hu1 (by cases du <;> first | rfl | exact hu2) size_term) rfl ?_
        exact ⟨.slice none 0 0, rfl, liesP_nil _ _, below_five_alloc hb hb.size (by omega) _ _ _ _ _ _⟩
end Go.Proofs.Ytmhmengbhdaodaa
