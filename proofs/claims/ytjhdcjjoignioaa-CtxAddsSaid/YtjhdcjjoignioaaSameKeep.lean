/-
  transhipkeep.Same and Terms; term.Same; transhipref04.Same.
-/
import Derived.Test.YtjhdcjjoignioaaSameDef
import Derived.Deep.RegionWith
import Derived.Deep.QuietTactic
import Derived.BigQuiet
namespace Go.Proofs.Ytjhdcjjoignioaa
open Go.RowKit

set_option maxHeartbeats 1000000 in
theorem terms_of (l : List Tm) (ih : ∀ x ∈ l, ∀ (y : Tm) (w : World) (s r : Value), Lies w x.kids s → Lies w y.kids r → Calls Try.prog 13 #[tv x s, tv y r] w fun e w' => e = .returned (.bool (sameB x y)) ∧ Below w.heap.size w w')
    (m : List Tm) (w : World) (s r : Value) (hl : Lies w l s) (hm : Lies w m r) : Calls Try.prog 20 #[s, r] w fun e w' => e = .returned (.bool (samesB l m)) ∧ Below w.heap.size w w' := by
  obtain ⟨a, cap, S, rfl, hc, hmx, -, hn, hk⟩ := hl.out
  obtain ⟨a2, cap2, S2, rfl, hc2, hmx2, -, hn2, hk2⟩ := hm.out
  unfold maxLen at hmx hmx2
  have IH := Lib.hid ih
  have HN := Lib.hid hn
  have HK := Lib.hid hk
  have HN2 := Lib.hid hn2
  have HK2 := Lib.hid hk2
  clear ih hn hk hn2 hk2 hl hm
  by_cases hlen : l.length = m.length
  rotate_left
  · have h1 : ((l.length : Int) == (m.length : Int)) = false := by simp; omega
    have h2 : ((l.length : Int) != (m.length : Int)) = true := by simp; omega
    have HS := Lib.hid (sames_ne hlen)
    clear hlen
    go_enter Try.func20, Try.ntmps20
    go_wp2
    go_ret
    exact ⟨ret_bool HS.out.symm, Below.refl _ _⟩
  have h1 : ((l.length : Int) == (m.length : Int)) = true := by simp; omega
  have h2 : ((l.length : Int) != (m.length : Int)) = false := by simp; omega
  have HL := Lib.hid hlen
  clear hlen
  go_enter Try.func20, Try.ntmps20
  go_wp2
  go_loopw [5] (fun iv wr => ∃ k : Nat, k ≤ l.length ∧ iv = .int .i64 k ∧ Hid (samesB (l.take k) (m.take k) = true) ∧ Below w.heap.size w wr) (fun iv _ => l.length - (intOf iv).toNat)
  case atStart => exact ⟨0, Nat.zero_le _, rfl, by simp [Hid, samesB], Below.refl _ _⟩
  case round =>
    obtain ⟨k, hk, rfl, hgood, hb⟩ := hrel
    by_cases hlt : k < l.length
    · have hlt2 : k < m.length := by have := HL.out; omega
      obtain ⟨b, o, rfl, hx⟩ := HN.out k hlt
      obtain ⟨b2, o2, rfl, hx2⟩ := HN2.out k hlt2
      obtain ⟨c0, c1, c2, c3, c4⟩ := hx.below hb hx.lt
      obtain ⟨e0, e1, e2, e3, e4⟩ := hx2.below hb hx2.lt
      have hq := (HK.out k hlt).keep hb
      have hq2 := (HK2.out k hlt2).keep hb
      obtain ⟨a', cap', S', hS, -⟩ := hq.out
      obtain ⟨a2', cap2', S2', hS2, -⟩ := hq2.out
      rw [hS] at c4 hq
      rw [hS2] at e4 hq2
      have HQ := Lib.hid hq
      have HQ2 := Lib.hid hq2
      have HM := Lib.hid (List.getElem_mem hlt)
      have HT := Lib.hid (sames_take l m k hlt hlt2)
      have HO := Lib.hid (sames_of l m k hlt hlt2)
      clear hS hS2 hq hq2
      go_wp2
      go_region_with (go_at_call 13; refine (IH.out _ HM.out _ _ _ _ (HQ.out.keep (Below.refl _ _).drew) (HQ2.out.keep (Below.refl _ _).drew)).mono ?_; rintro e wn ⟨rfl, hb'⟩; have HB3 := below_call hb.drew hb' hb.size; clear hb')
      all_goals
        cases hs : sameB l[k] m[k]
        · go_wp2
          go_ret
          exact ⟨ret_bool (HO.out hs).symm, HB3⟩
        · go_wp2
          go_roundw
          case rel => exact ⟨k + 1, by omega, by go_num, by show _ = true; rw [HT.out, hgood.out, hs]; rfl, HB3⟩
          case measure => simp [intOf]; omega
    · have : k = l.length := by omega
      subst this
      go_wp2
      go_ret
      exact ⟨ret_bool (by have hg := hgood.out; rw [List.take_length, HL.out, List.take_length] at hg; exact hg.symm), hb⟩

set_option maxHeartbeats 1000000 in
theorem keepsame_any (t : Tm) : ∀ (u : Tm) (w : World) (s r : Value), Lies w t.kids s → Lies w u.kids r → Calls Try.prog 13 #[tv t s, tv u r] w fun e w' => e = .returned (.bool (sameB t u)) ∧ Below w.heap.size w w' := by
  induction t using Tm.ind with
  | h t ih =>
    intro u w s r hl hm
    obtain ⟨a, cap, S, rfl, -⟩ := hl.out
    obtain ⟨a2, cap2, S2, rfl, -⟩ := hm.out
    have HTM := Lib.hid (terms_of t.kids ih)
    have HE := Lib.hid (sameB_eq t u)
    have HL := Lib.hid hl
    have HM := Lib.hid hm
    have H0 := held2_start w t (.slice a t.kids.length cap) u (.slice a2 u.kids.length cap2)
    clear hl hm ih
    unfold tv
    cases ek : (t.k == u.k)
    · go_enter Try.func13, Try.ntmps13
      go_wp2
      go_ret
      exact ⟨ret_bool (by rw [HE.out]; simp only [ek, Bool.false_and]), held2_below H0⟩
    cases ei : (t.i == u.i)
    · go_enter Try.func13, Try.ntmps13
      go_wp2
      go_ret
      exact ⟨ret_bool (by rw [HE.out]; simp only [ek, ei, Bool.false_and, Bool.true_and]), held2_below H0⟩
    cases ej : (t.j == u.j)
    · go_enter Try.func13, Try.ntmps13
      go_wp2
      go_ret
      exact ⟨ret_bool (by rw [HE.out]; simp only [ek, ei, ej, Bool.false_and, Bool.true_and]), held2_below H0⟩
    cases en : (t.n == u.n)
    · go_enter Try.func13, Try.ntmps13
      go_wp2
      go_ret
      exact ⟨ret_bool (by rw [HE.out]; simp only [ek, ei, ej, en, Bool.false_and, Bool.true_and]), held2_below H0⟩
    go_enter Try.func13, Try.ntmps13
    go_wp2_with fail
    refine (HTM.out u.kids _ _ _ (held2_lies H0 HL.out) (held2_lies H0 HM.out)).mono ?_
    rintro e wn ⟨rfl, hb'⟩
    have H1 := held2_call H0 hb'
    clear hb'
    go_wp2
    go_ret
    exact ⟨ret_bool (by rw [HE.out]; simp only [ek, ei, ej, en, Bool.true_and]), held2_below H1⟩
end Go.Proofs.Ytjhdcjjoignioaa
