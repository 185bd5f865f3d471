/-
  term.Same
-/
import Derived.Test.YtjhdcjjoignioaaSameDef
import Derived.Deep.RegionWith
namespace Go.Proofs.Ytjhdcjjoignioaa
open Go.RowKit

set_option maxHeartbeats 2000000 in
theorem same_any (t : Tm) : ∀ (u : Tm) (w : World) (s r : Value), Lies w t.kids s → Lies w u.kids r → Calls Try.prog 56 #[tv t s, tv u r] w fun e w' => e = .returned (.bool (sameB t u)) ∧ Below w.heap.size w w' := by
  induction t using Tm.ind with
  | h t ih =>
    intro u w s r hl hm
    obtain ⟨a, cap, S, rfl, hc, hmx, -, hn, hk⟩ := hl.out
    obtain ⟨a2, cap2, S2, rfl, hc2, hmx2, -, hn2, hk2⟩ := hm.out
    unfold maxLen at hmx hmx2
    have IH := Lib.hid ih
    have HN := Lib.hid hn
    have HK := Lib.hid hk
    have HN2 := Lib.hid hn2
    have HK2 := Lib.hid hk2
    have HE := Lib.hid (sameB_eq t u)
    have H0 := held2_start w t (.slice a t.kids.length cap) u (.slice a2 u.kids.length cap2)
    clear hl hm ih hn hk hn2 hk2
    unfold tv
    cases ek : (t.k == u.k)
    · have nek : (t.k != u.k) = true := by simp only [bne, ek, Bool.not_false]
      go_enter Try.func56, Try.ntmps56
      go_wp2
      go_ret
      exact ⟨ret_bool (by rw [HE.out]; simp only [ek, Bool.false_and]), held2_below H0⟩
    have nek : (t.k != u.k) = false := by simp only [bne, ek, Bool.not_true]
    cases ei : (t.i == u.i)
    · have nei : (t.i != u.i) = true := by simp only [bne, ei, Bool.not_false]
      go_enter Try.func56, Try.ntmps56
      go_wp2
      go_ret
      exact ⟨ret_bool (by rw [HE.out]; simp only [ek, ei, Bool.false_and, Bool.true_and]), held2_below H0⟩
    have nei : (t.i != u.i) = false := by simp only [bne, ei, Bool.not_true]
    cases ej : (t.j == u.j)
    · have nej : (t.j != u.j) = true := by simp only [bne, ej, Bool.not_false]
      go_enter Try.func56, Try.ntmps56
      go_wp2
      go_ret
      exact ⟨ret_bool (by rw [HE.out]; simp only [ek, ei, ej, Bool.false_and, Bool.true_and]), held2_below H0⟩
    have nej : (t.j != u.j) = false := by simp only [bne, ej, Bool.not_true]
    cases en : (t.n == u.n)
    · have nen : (t.n != u.n) = true := by simp only [bne, en, Bool.not_false]
      go_enter Try.func56, Try.ntmps56
      go_wp2
      go_ret
      exact ⟨ret_bool (by rw [HE.out]; simp only [ek, ei, ej, en, Bool.false_and, Bool.true_and]), held2_below H0⟩
    have nen : (t.n != u.n) = false := by simp only [bne, en, Bool.not_true]
    have HE2 : Hid (sameB t u = samesB t.kids u.kids) := by show _ = _; rw [HE.out]; simp only [ek, ei, ej, en, Bool.true_and]
    by_cases hlen : t.kids.length = u.kids.length
    rotate_left
    · have h1 : ((t.kids.length : Int) == (u.kids.length : Int)) = false := by simp; omega
      have h2 : ((t.kids.length : Int) != (u.kids.length : Int)) = true := by simp; omega
      have HS := Lib.hid (sames_ne hlen)
      clear hlen
      go_enter Try.func56, Try.ntmps56
      go_wp2
      go_ret
      exact ⟨ret_bool (by rw [HE2.out]; exact HS.out.symm), held2_below H0⟩
    have h1 : ((t.kids.length : Int) == (u.kids.length : Int)) = true := by simp; omega
    have h2 : ((t.kids.length : Int) != (u.kids.length : Int)) = false := by simp; omega
    have HL := Lib.hid hlen
    clear hlen
    go_enter Try.func56, Try.ntmps56
    go_wp2
    go_loopw [45] (fun iv wr => ∃ k : Nat, k ≤ t.kids.length ∧ iv = .int .i64 k ∧ Hid (samesB (t.kids.take k) (u.kids.take k) = true) ∧ Held2 w t (.slice a t.kids.length cap) u (.slice a2 u.kids.length cap2) wr) (fun iv _ => t.kids.length - (intOf iv).toNat)
    case atStart => exact ⟨0, Nat.zero_le _, rfl, by simp [Hid, samesB], H0⟩
    case round =>
      obtain ⟨k, hk, rfl, hgood, hh⟩ := hrel
      obtain ⟨p0, p1, p2, p3, p4, q0, q1, q2, q3, q4⟩ := held2_cells hh
      have hb := held2_below hh
      by_cases hlt : k < t.kids.length
      · have hlt2 : k < u.kids.length := by have := HL.out; omega
        obtain ⟨b, o, rfl, hx⟩ := HN.out k hlt
        obtain ⟨b2, o2, rfl, hx2⟩ := HN2.out k hlt2
        obtain ⟨c0, c1, c2, c3, c4⟩ := hx.below hb hx.lt
        have hyy := hx2.below hb hx2.lt
        have hq := (HK.out k hlt).keep hb
        have hq2 := (HK2.out k hlt2).keep hb
        obtain ⟨a', cap', S', hS, -⟩ := hq.out
        obtain ⟨a2', cap2', S2', hS2, -⟩ := hq2.out
        rw [hS] at c4 hq
        rw [hS2] at hyy hq2
        have HQ := Lib.hid hq
        have HQ2 := Lib.hid hq2
        have HM := Lib.hid (List.getElem_mem hlt)
        have HT := Lib.hid (sames_take t.kids u.kids k hlt hlt2)
        have HO := Lib.hid (sames_of t.kids u.kids k hlt hlt2)
        clear hS hS2 hq hq2
        have hh2 := held2_alloc hh (.cells #[.int .i64 t.kids[k].k, .int .i64 t.kids[k].i, .int .i64 t.kids[k].j, .int .i64 t.kids[k].n, .slice a' t.kids[k].kids.length cap'] 26)
        obtain ⟨f0, f1, f2, f3, f4, g0, g1, g2, g3, g4⟩ := held2_cells hh2
        obtain ⟨e0, e1, e2, e3, e4⟩ := hyy.below ((Below.refl wr.heap.size wr).alloc (Nat.le_refl _) (.cells #[.int .i64 t.kids[k].k, .int .i64 t.kids[k].i, .int .i64 t.kids[k].j, .int .i64 t.kids[k].n, .slice a' t.kids[k].kids.length cap'] 26)) hyy.lt
        have HNEW := Lib.hid ((Below.refl wr.heap.size wr).alloc (Nat.le_refl _) (.cells #[.int .i64 t.kids[k].k, .int .i64 t.kids[k].i, .int .i64 t.kids[k].j, .int .i64 t.kids[k].n, .slice a' t.kids[k].kids.length cap'] 26))
        go_wp2
        go_region_with (go_at_call 56; refine (IH.out _ HM.out _ _ _ _ (HQ.out.keep HNEW.out.drew) (HQ2.out.keep HNEW.out.drew)).mono ?_; rintro e wn ⟨rfl, hb'⟩; have HB3 := held2_call (held2_drew hh2) hb'; clear hb'; obtain ⟨x0, x1, x2, x3, x4, z0, z1, z2, z3, z4⟩ := held2_cells HB3)
        all_goals
          clear hh hh2 HNEW e0 e1 e2 e3 e4 f0 f1 f2 f3 f4 g0 g1 g2 g3 g4 c0 c1 c2 c3 c4 p0 p1 p2 p3 p4 q0 q1 q2 q3 q4 hb
          cases hs : sameB t.kids[k] u.kids[k]
          · go_wp2
            go_ret
            exact ⟨ret_bool (by rw [HE2.out]; exact (HO.out hs).symm), held2_below HB3⟩
          · go_wp2
            go_roundw
            case rel => exact ⟨k + 1, by omega, by go_num, by show _ = true; rw [HT.out, hgood.out, hs]; rfl, HB3⟩
            case measure => simp [intOf]; omega
      · have : k = t.kids.length := by omega
        subst this
        go_wp2
        go_ret
        exact ⟨ret_bool (by have hg := hgood.out; rw [List.take_length, HL.out, List.take_length] at hg; rw [HE2.out]; exact hg.symm), hb⟩

end Go.Proofs.Ytjhdcjjoignioaa
