/-
  erase.alike: whether two marked terms are the same without their transports.
-/
import Derived.Test.YtjoolpmaehnhpaaPure
import Derived.Test.YtjoolpmaehnhpaaSameDef
import Derived.Deep.RegionHeld3
import Derived.Deep.RegionLaw
namespace Go.Proofs.Ytjoolpmaehnhpaa
open Go.RowKit

/-- Two boxes; they may hold other terms than at first. -/
structure Two (w : World) (x : Tm) (s : Value) (y : Tm) (r : Value) (w' : World) : Prop where
  under : Below w.heap.size w w'
  one : w'.heap[w.heap.size]? = some (boxOf x s)
  two : w'.heap[w.heap.size + 1]? = some (boxOf y r)
theorem two_start (w : World) (a : Tm) (s : Value) (b : Tm) (r : Value) : Two w a s b r ((w.alloc (.cells #[.int .i64 a.k, .int .i64 a.i, .int .i64 a.j, .int .i64 a.n, s] 47)).alloc (.cells #[.int .i64 b.k, .int .i64 b.i, .int .i64 b.j, .int .i64 b.n, r] 47)) :=
  ⟨((Below.refl _ _).alloc (Nat.le_refl _) _).alloc (by simp) _, by rw [Below.heap_alloc _ _ _ (by simp), alloc_new]; rfl, heap_alloc2_new _ _ _⟩
theorem Two.call {w w1 w2 : World} {x y : Tm} {s r : Value} (h : Two w x s y r w1) (hb : Below w1.heap.size w1 w2) : Two w x s y r w2 :=
  ⟨h.under.trans (hb.mono h.under.size), by rw [hb.block _ (block_lt h.one)]; exact h.one, by rw [hb.block _ (block_lt h.two)]; exact h.two⟩
theorem Two.drew {w w1 : World} {x y : Tm} {s r : Value} (h : Two w x s y r w1) : Two w x s y r w1.drew := ⟨h.under.drew, h.one, h.two⟩
theorem Two.put {w w1 : World} {x y : Tm} {s r : Value} (h : Two w x s y r w1) (p : Tm) (sp : Value) (q : Tm) (sq : Value) : Two w p sp q sq (five (five w1 w.heap.size (.int .i64 p.k) (.int .i64 p.i) (.int .i64 p.j) (.int .i64 p.n) sp) (w.heap.size + 1) (.int .i64 q.k) (.int .i64 q.i) (.int .i64 q.j) (.int .i64 q.n) sq) :=
  ⟨below_five (below_five h.under (Nat.le_refl _) _ _ _ _ _) (by omega) _ _ _ _ _, by rw [five_other _ _ _ _ _ _ _ (by omega)]; exact five_set h.one, five_set (by rw [five_other _ _ _ _ _ _ _ (by omega)]; exact h.two)⟩

theorem two_and {w w1 : World} {a b : Tm} {s r : Value} (h : Two w a s b r w1) : Two w a s b r w1 ∧ w1.cell? ⟨w.heap.size, 0, none⟩ = some (.int .i64 a.k) ∧ w1.cell? ⟨w.heap.size, 1, none⟩ = some (.int .i64 a.i) ∧ w1.cell? ⟨w.heap.size, 2, none⟩ = some (.int .i64 a.j) ∧ w1.cell? ⟨w.heap.size, 3, none⟩ = some (.int .i64 a.n) ∧ w1.cell? ⟨w.heap.size, 4, none⟩ = some s ∧ w1.cell? ⟨w.heap.size + 1, 0, none⟩ = some (.int .i64 b.k) ∧ w1.cell? ⟨w.heap.size + 1, 1, none⟩ = some (.int .i64 b.i) ∧ w1.cell? ⟨w.heap.size + 1, 2, none⟩ = some (.int .i64 b.j) ∧ w1.cell? ⟨w.heap.size + 1, 3, none⟩ = some (.int .i64 b.n) ∧ w1.cell? ⟨w.heap.size + 1, 4, none⟩ = some r := by
  obtain ⟨x0, x1, x2, x3, x4⟩ := five_cells h.one
  obtain ⟨y0, y1, y2, y3, y4⟩ := five_cells h.two
  exact ⟨h, x0, x1, x2, x3, x4, y0, y1, y2, y3, y4⟩

/-- What is asked of two terms. -/
theorem pur_same {t u : Tm} (ht : t.markedB = true) (hu : u.markedB = true) : sameB t.pur u.pur = ((t.und.k == u.und.k) && ((t.und.i == u.und.i) && ((t.und.j == u.und.j) && samesB (t.und.kids.map Tm.pur) (u.und.kids.map Tm.pur)))) := by
  rw [pur_und t ht, pur_und u hu, sameB_eq]; simp [Tm.k, Tm.i, Tm.j, Tm.n, Tm.kids]
theorem marked_lens {x y : Tm} (hx : x.markedB = true) (hy : y.markedB = true) (h : x.k = y.k) : x.kids.length = y.kids.length := by
  have h1 := node_length (marked_node hx)
  have h2 := node_length (marked_node hy)
  have h3 := marked_kind hx
  have : kidsN x.k x.n = kidsN y.k y.n := by
    rw [← h]; unfold kidsN; have : x.k = 1 ∨ x.k = 2 ∨ x.k = 3 ∨ x.k = 4 ∨ x.k = 5 ∨ x.k = 6 ∨ x.k = 7 ∨ x.k = 8 ∨ x.k = 9 ∨ x.k = 10 ∨ x.k = 11 ∨ x.k = 12 := by omega
    rcases this with e | e | e | e | e | e | e | e | e | e | e | e <;> simp [e]
  omega

set_option maxRecDepth 20000 in
set_option maxHeartbeats 2000000 in
theorem alike_any : ∀ (n : Nat) (t u : Tm) (w : World) (s r : Value), t.size ≤ n → Lies w t.kids s → Lies w u.kids r → t.markedB = true → u.markedB = true → Calls Try.prog 129 #[tv t s, tv u r] w fun e w' => e = .returned (.bool (sameB t.pur u.pur)) ∧ Below w.heap.size w w' := by
  intro n
  induction n with
  | zero => intro t u w s r hn; have := size_pos t; omega
  | succ n ih =>
    intro t u w s r hn hl hm htm hum
    have HE := Lib.hid (pur_same htm hum)
    have h0 := two_start w t s u r
    obtain ⟨a0, cap0, S0, rfl, -⟩ := hl.out
    obtain ⟨a1, cap1, S1, rfl, -⟩ := hm.out
    have HL := Lib.hid hl
    have HM := Lib.hid hm
    obtain ⟨hxm, hxk, hxs⟩ := und_marked t htm
    obtain ⟨hym, hyk, hys⟩ := und_marked u hum
    obtain ⟨X, hX⟩ : ∃ X, t.und = X := ⟨_, rfl⟩
    obtain ⟨Y, hY⟩ : ∃ Y, u.und = Y := ⟨_, rfl⟩
    rw [hX] at hxm hxk hxs HE
    rw [hY] at hym hyk hys HE
    have hlen := right_len (marked_right hxm)
    have HKX := Lib.hid (marked_others hxm hxk)
    have HKY := Lib.hid (marked_others hym hyk)
    have HX := Lib.hid hX
    have HY := Lib.hid hY
    have HT := Lib.hid htm
    have HU := Lib.hid hum
    have hls : X.k = Y.k → X.kids.length = Y.kids.length := marked_lens hxm hym
    have HLS := Lib.hid hls
    have IH := Lib.hid ih
    have hsx := X.size_eq
    have hsk : ∀ x ∈ X.kids, x.size ≤ n := fun x hx => by have := size_mem _ x hx; omega
    have HSK := Lib.hid hsk
    clear hl hm ih hsk hsx hX hY htm hum hxm hym hxk hyk hxs hys hls hn
    unfold tv
    cases ek : (X.k == Y.k)
    · have nek : (X.k != Y.k) = true := by simp only [bne, ek, Bool.not_false]
      go_enter Try.func129, Try.ntmps129
      go_wp2_with fail
      obtain ⟨d0, d1, d2, d3, d4⟩ := five_cells h0.one
      obtain ⟨c0, c1, c2, c3, c4⟩ := five_cells h0.two
      go_region_law (first | (go_simp; go_at_call 127; (with_reducible refine Calls.mono (under_any u w _ _ HM.out (by repeat (first | exact h2.under | refine Below.drew ?_)) HU.out) ?_); rw [HY.out]; rintro e wn ⟨s3, rfl, hl3, hbn⟩; obtain ⟨a3, cap3, S3, rfl, hc3, hm3, -, hn3, hk3⟩ := hl3.out; have HMX3 := Lib.hid (And.intro hc3 hm3); have HN2 := Lib.hid hn3; have HK2 := Lib.hid hk3; clear hc3 hm3 hn3 hk3; have HL3 := Lib.hid hl3; have hh : Two w t (.slice a0 t.kids.length cap0) u (.slice a1 u.kids.length cap1) wn := Two.call (by repeat (first | exact h2 | refine Two.drew ?_)) hbn; have H3 := Lib.hid hh; obtain ⟨x0, x1, x2, x3, x4⟩ := five_cells hh.one; obtain ⟨y0, y1, y2, y3, y4⟩ := five_cells hh.two; obtain ⟨e0, e1, e2, e3, e4⟩ := five_free hh.one; obtain ⟨f0, f1, f2, f3, f4⟩ := five_free hh.two; clear hbn hl3 hh) | (go_simp; go_at_call 127; (with_reducible refine Calls.mono (under_any t w _ _ HL.out (by repeat (first | exact h0.under | refine Below.drew ?_)) HT.out) ?_); rw [HX.out]; rintro e wn ⟨s2, rfl, hl2, hbn⟩; obtain ⟨a2, cap2, S2, rfl, hc2, hm2, -, hn2, hk2⟩ := hl2.out; have HMX2 := Lib.hid (And.intro hc2 hm2); have HN := Lib.hid hn2; have HK := Lib.hid hk2; clear hc2 hm2 hn2 hk2; have HL2 := Lib.hid hl2; have h2 : Two w t (.slice a0 t.kids.length cap0) u (.slice a1 u.kids.length cap1) wn := Two.call (by repeat (first | exact h0 | refine Two.drew ?_)) hbn; obtain ⟨x0, x1, x2, x3, x4⟩ := five_cells h2.one; obtain ⟨y0, y1, y2, y3, y4⟩ := five_cells h2.two; clear hbn hl2))
      all_goals
        go_wp2
        go_ret
        exact ⟨ret_bool (by rw [HE.out]; simp only [ek, Bool.false_and]), (H3.out.put X (.slice a2 X.kids.length cap2) Y (.slice a3 Y.kids.length cap3)).under⟩
    have nek : (X.k != Y.k) = false := by simp only [bne, ek, Bool.not_true]
    cases ei : (X.i == Y.i)
    · have nei : (X.i != Y.i) = true := by simp only [bne, ei, Bool.not_false]
      go_enter Try.func129, Try.ntmps129
      go_wp2_with fail
      obtain ⟨d0, d1, d2, d3, d4⟩ := five_cells h0.one
      obtain ⟨c0, c1, c2, c3, c4⟩ := five_cells h0.two
      go_region_law (first | (go_simp; go_at_call 127; (with_reducible refine Calls.mono (under_any u w _ _ HM.out (by repeat (first | exact h2.under | refine Below.drew ?_)) HU.out) ?_); rw [HY.out]; rintro e wn ⟨s3, rfl, hl3, hbn⟩; obtain ⟨a3, cap3, S3, rfl, hc3, hm3, -, hn3, hk3⟩ := hl3.out; have HMX3 := Lib.hid (And.intro hc3 hm3); have HN2 := Lib.hid hn3; have HK2 := Lib.hid hk3; clear hc3 hm3 hn3 hk3; have HL3 := Lib.hid hl3; have hh : Two w t (.slice a0 t.kids.length cap0) u (.slice a1 u.kids.length cap1) wn := Two.call (by repeat (first | exact h2 | refine Two.drew ?_)) hbn; have H3 := Lib.hid hh; obtain ⟨x0, x1, x2, x3, x4⟩ := five_cells hh.one; obtain ⟨y0, y1, y2, y3, y4⟩ := five_cells hh.two; obtain ⟨e0, e1, e2, e3, e4⟩ := five_free hh.one; obtain ⟨f0, f1, f2, f3, f4⟩ := five_free hh.two; clear hbn hl3 hh) | (go_simp; go_at_call 127; (with_reducible refine Calls.mono (under_any t w _ _ HL.out (by repeat (first | exact h0.under | refine Below.drew ?_)) HT.out) ?_); rw [HX.out]; rintro e wn ⟨s2, rfl, hl2, hbn⟩; obtain ⟨a2, cap2, S2, rfl, hc2, hm2, -, hn2, hk2⟩ := hl2.out; have HMX2 := Lib.hid (And.intro hc2 hm2); have HN := Lib.hid hn2; have HK := Lib.hid hk2; clear hc2 hm2 hn2 hk2; have HL2 := Lib.hid hl2; have h2 : Two w t (.slice a0 t.kids.length cap0) u (.slice a1 u.kids.length cap1) wn := Two.call (by repeat (first | exact h0 | refine Two.drew ?_)) hbn; obtain ⟨x0, x1, x2, x3, x4⟩ := five_cells h2.one; obtain ⟨y0, y1, y2, y3, y4⟩ := five_cells h2.two; clear hbn hl2))
      all_goals
        go_wp2
        go_ret
        exact ⟨ret_bool (by rw [HE.out]; simp only [ek, ei, Bool.false_and, Bool.true_and]), (H3.out.put X (.slice a2 X.kids.length cap2) Y (.slice a3 Y.kids.length cap3)).under⟩
    have nei : (X.i != Y.i) = false := by simp only [bne, ei, Bool.not_true]
    cases ej : (X.j == Y.j)
    · have nej : (X.j != Y.j) = true := by simp only [bne, ej, Bool.not_false]
      go_enter Try.func129, Try.ntmps129
      go_wp2_with fail
      obtain ⟨d0, d1, d2, d3, d4⟩ := five_cells h0.one
      obtain ⟨c0, c1, c2, c3, c4⟩ := five_cells h0.two
      go_region_law (first | (go_simp; go_at_call 127; (with_reducible refine Calls.mono (under_any u w _ _ HM.out (by repeat (first | exact h2.under | refine Below.drew ?_)) HU.out) ?_); rw [HY.out]; rintro e wn ⟨s3, rfl, hl3, hbn⟩; obtain ⟨a3, cap3, S3, rfl, hc3, hm3, -, hn3, hk3⟩ := hl3.out; have HMX3 := Lib.hid (And.intro hc3 hm3); have HN2 := Lib.hid hn3; have HK2 := Lib.hid hk3; clear hc3 hm3 hn3 hk3; have HL3 := Lib.hid hl3; have hh : Two w t (.slice a0 t.kids.length cap0) u (.slice a1 u.kids.length cap1) wn := Two.call (by repeat (first | exact h2 | refine Two.drew ?_)) hbn; have H3 := Lib.hid hh; obtain ⟨x0, x1, x2, x3, x4⟩ := five_cells hh.one; obtain ⟨y0, y1, y2, y3, y4⟩ := five_cells hh.two; obtain ⟨e0, e1, e2, e3, e4⟩ := five_free hh.one; obtain ⟨f0, f1, f2, f3, f4⟩ := five_free hh.two; clear hbn hl3 hh) | (go_simp; go_at_call 127; (with_reducible refine Calls.mono (under_any t w _ _ HL.out (by repeat (first | exact h0.under | refine Below.drew ?_)) HT.out) ?_); rw [HX.out]; rintro e wn ⟨s2, rfl, hl2, hbn⟩; obtain ⟨a2, cap2, S2, rfl, hc2, hm2, -, hn2, hk2⟩ := hl2.out; have HMX2 := Lib.hid (And.intro hc2 hm2); have HN := Lib.hid hn2; have HK := Lib.hid hk2; clear hc2 hm2 hn2 hk2; have HL2 := Lib.hid hl2; have h2 : Two w t (.slice a0 t.kids.length cap0) u (.slice a1 u.kids.length cap1) wn := Two.call (by repeat (first | exact h0 | refine Two.drew ?_)) hbn; obtain ⟨x0, x1, x2, x3, x4⟩ := five_cells h2.one; obtain ⟨y0, y1, y2, y3, y4⟩ := five_cells h2.two; clear hbn hl2))
      all_goals
        go_wp2
        go_ret
        exact ⟨ret_bool (by rw [HE.out]; simp only [ek, ei, ej, Bool.false_and, Bool.true_and]), (H3.out.put X (.slice a2 X.kids.length cap2) Y (.slice a3 Y.kids.length cap3)).under⟩
    have nej : (X.j != Y.j) = false := by simp only [bne, ej, Bool.not_true]
    go_enter Try.func129, Try.ntmps129
    go_wp2_with fail
    obtain ⟨d0, d1, d2, d3, d4⟩ := five_cells h0.one
    obtain ⟨c0, c1, c2, c3, c4⟩ := five_cells h0.two
    go_region_law (first | (go_simp; go_at_call 127; (with_reducible refine Calls.mono (under_any u w _ _ HM.out (by repeat (first | exact h2.under | refine Below.drew ?_)) HU.out) ?_); rw [HY.out]; rintro e wn ⟨s3, rfl, hl3, hbn⟩; obtain ⟨a3, cap3, S3, rfl, hc3, hm3, -, hn3, hk3⟩ := hl3.out; have HMX3 := Lib.hid (And.intro hc3 hm3); have HN2 := Lib.hid hn3; have HK2 := Lib.hid hk3; clear hc3 hm3 hn3 hk3; have HL3 := Lib.hid hl3; have hh : Two w t (.slice a0 t.kids.length cap0) u (.slice a1 u.kids.length cap1) wn := Two.call (by repeat (first | exact h2 | refine Two.drew ?_)) hbn; have H3 := Lib.hid hh; obtain ⟨x0, x1, x2, x3, x4⟩ := five_cells hh.one; obtain ⟨y0, y1, y2, y3, y4⟩ := five_cells hh.two; obtain ⟨e0, e1, e2, e3, e4⟩ := five_free hh.one; obtain ⟨f0, f1, f2, f3, f4⟩ := five_free hh.two; clear hbn hl3 hh) | (go_simp; go_at_call 127; (with_reducible refine Calls.mono (under_any t w _ _ HL.out (by repeat (first | exact h0.under | refine Below.drew ?_)) HT.out) ?_); rw [HX.out]; rintro e wn ⟨s2, rfl, hl2, hbn⟩; obtain ⟨a2, cap2, S2, rfl, hc2, hm2, -, hn2, hk2⟩ := hl2.out; have HMX2 := Lib.hid (And.intro hc2 hm2); have HN := Lib.hid hn2; have HK := Lib.hid hk2; clear hc2 hm2 hn2 hk2; have HL2 := Lib.hid hl2; have h2 : Two w t (.slice a0 t.kids.length cap0) u (.slice a1 u.kids.length cap1) wn := Two.call (by repeat (first | exact h0 | refine Two.drew ?_)) hbn; obtain ⟨x0, x1, x2, x3, x4⟩ := five_cells h2.one; obtain ⟨y0, y1, y2, y3, y4⟩ := five_cells h2.two; clear hbn hl2))

    all_goals
      have hlx : X.kids.length = Y.kids.length := HLS.out (by simpa using ek)
      have HLX := Lib.hid hlx
      have h4 := H3.out.put X (.slice a2 X.kids.length cap2) Y (.slice a3 Y.kids.length cap3)
      unfold five at h4
      generalize ((((((((((wn.setCell ⟨w.heap.size, 0, none⟩ (.int .i64 X.k)).setCell ⟨w.heap.size, 1, none⟩ (.int .i64 X.i)).setCell ⟨w.heap.size, 2, none⟩ (.int .i64 X.j)).setCell ⟨w.heap.size, 3, none⟩ (.int .i64 X.n)).setCell ⟨w.heap.size, 4, none⟩ (.slice a2 X.kids.length cap2)).setCell ⟨w.heap.size + 1, 0, none⟩ (.int .i64 Y.k)).setCell ⟨w.heap.size + 1, 1, none⟩ (.int .i64 Y.i)).setCell ⟨w.heap.size + 1, 2, none⟩ (.int .i64 Y.j)).setCell ⟨w.heap.size + 1, 3, none⟩ (.int .i64 Y.n)).setCell ⟨w.heap.size + 1, 4, none⟩ (.slice a3 Y.kids.length cap3)) = W4 at h4 ⊢
      have hmx := HMX2.out
      unfold maxLen at hmx
      clear x0 x1 x2 x3 x4 y0 y1 y2 y3 y4 e0 e1 e2 e3 e4 f0 f1 f2 f3 f4 hlx h2 h0
      have HE2 : Hid (sameB t.pur u.pur = samesB (X.kids.map Tm.pur) (Y.kids.map Tm.pur)) := by show _ = _; rw [HE.out]; simp only [ek, ei, ej, Bool.true_and]
      obtain ⟨p0, p1, p2, p3, p4⟩ := five_cells h4.one
      obtain ⟨q0, q1, q2, q3, q4⟩ := five_cells h4.two
      go_wp2_with fail
      go_loopw [33] (fun iv wr => ∃ k : Nat, k ≤ X.kids.length ∧ iv = .int .i64 k ∧ Hid (samesB ((X.kids.map Tm.pur).take k) ((Y.kids.map Tm.pur).take k) = true) ∧ Two w X (.slice a2 X.kids.length cap2) Y (.slice a3 Y.kids.length cap3) wr) (fun iv _ => X.kids.length - (intOf iv).toNat)
      case atStart => exact ⟨0, Nat.zero_le _, rfl, by simp [Hid, samesB], h4⟩
      case round =>
        clear p0 p1 p2 p3 p4 q0 q1 q2 q3 q4 h4
        obtain ⟨k, hk, rfl, hgood, hh⟩ := hrel
        have hb := hh.under
        obtain ⟨p0, p1, p2, p3, p4⟩ := five_cells hh.one
        obtain ⟨q0, q1, q2, q3, q4⟩ := five_cells hh.two
        by_cases hlt : k < X.kids.length
        · have hlt2 : k < Y.kids.length := by have := HLX.out; omega
          obtain ⟨b, o, rfl, hx⟩ := HN.out k hlt
          obtain ⟨b2, o2, rfl, hx2⟩ := HN2.out k hlt2
          have hq := HK.out k hlt
          have hq2 := HK2.out k hlt2
          obtain ⟨a', cap', S', hS, -⟩ := hq.out
          obtain ⟨a2', cap2', S2', hS2, -⟩ := hq2.out
          rw [hS] at hx hq
          rw [hS2] at hx2 hq2
          obtain ⟨c0, c1, c2, c3, c4⟩ := hx.below hb hx.lt
          have hbn : Below wr.heap.size wr (wr.alloc (.cells #[.int .i64 X.kids[k].k, .int .i64 X.kids[k].i, .int .i64 X.kids[k].j, .int .i64 X.kids[k].n, .slice a' X.kids[k].kids.length cap'] 47)) := (Below.refl _ _).alloc (Nat.le_refl _) _
          have hbw := hb.trans (hbn.mono hb.size)
          have hh2 := hh.call hbn
          obtain ⟨f0, f1, f2, f3, f4⟩ := five_cells hh2.one
          obtain ⟨g0, g1, g2, g3, g4⟩ := five_cells hh2.two
          obtain ⟨n0, n1, n2, n3, n4⟩ := five_cells (alloc_new wr (.cells #[.int .i64 X.kids[k].k, .int .i64 X.kids[k].i, .int .i64 X.kids[k].j, .int .i64 X.kids[k].n, .slice a' X.kids[k].kids.length cap'] 47))
          obtain ⟨e0, e1, e2, e3, e4⟩ := hx2.below hbw hx2.lt
          have HMem := Lib.hid (List.getElem_mem hlt)
          have HMem2 := Lib.hid (List.getElem_mem hlt2)
          have CALL := Lib.hid (IH.out X.kids[k] Y.kids[k] (wr.alloc (.cells #[.int .i64 X.kids[k].k, .int .i64 X.kids[k].i, .int .i64 X.kids[k].j, .int .i64 X.kids[k].n, .slice a' X.kids[k].kids.length cap'] 47)).drew _ _ (HSK.out _ HMem.out) (hq.keep hbw.drew) (hq2.keep hbw.drew) (HKX.out _ HMem.out) (HKY.out _ HMem2.out))
          have hT := sames_take (X.kids.map Tm.pur) (Y.kids.map Tm.pur) k (by simpa using hlt) (by simpa using hlt2)
          have hO := sames_of (X.kids.map Tm.pur) (Y.kids.map Tm.pur) k (by simpa using hlt) (by simpa using hlt2)
          simp only [List.getElem_map] at hT hO
          have HTK := Lib.hid hT
          have HOK := Lib.hid hO
          clear hS hS2 hq hq2 hT hO hbn hbw hx hx2
          go_wp2
          go_region_with (go_at_call 129; refine CALL.out.mono ?_; rintro e wn ⟨rfl, hb'⟩; have HB3 := Two.call (Two.drew hh2) hb'; clear hb'; obtain ⟨x0, x1, x2, x3, x4⟩ := five_cells HB3.one; obtain ⟨y0, y1, y2, y3, y4⟩ := five_cells HB3.two)
          all_goals
            clear hh hh2 e0 e1 e2 e3 e4 f0 f1 f2 f3 f4 g0 g1 g2 g3 g4 n0 n1 n2 n3 n4 c0 c1 c2 c3 c4 p0 p1 p2 p3 p4 q0 q1 q2 q3 q4 hb
            cases hs : sameB X.kids[k].pur Y.kids[k].pur
            · go_wp2
              go_ret
              exact ⟨ret_bool (by rw [HE2.out]; exact (HOK.out hs).symm), HB3.under⟩
            · go_wp2
              go_roundw
              case rel => exact ⟨k + 1, by omega, by go_num, by show _ = true; rw [HTK.out, hgood.out, hs]; rfl, HB3⟩
              case measure => simp [intOf]; omega
        · have : k = X.kids.length := by omega
          subst this
          go_wp2
          go_ret
          exact ⟨ret_bool (by have hg := hgood.out; rw [List.take_of_length_le (by simp), List.take_of_length_le (by rw [List.length_map, HLX.out]; exact Nat.le_refl _)] at hg; rw [HE2.out]; exact hg.symm), hb⟩
end Go.Proofs.Ytjoolpmaehnhpaa
