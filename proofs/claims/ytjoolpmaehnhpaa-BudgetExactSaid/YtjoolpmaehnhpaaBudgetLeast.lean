/-
  budget.Least, the page's Least and Bits; the walk of transhiplaw03.BudgetLeast.
-/
import Derived.Test.YtjoolpmaehnhpaaLeastF
namespace Go.Proofs.Ytjoolpmaehnhpaa
open Go.RowKit

theorem drop_next {l : List Nat} {k : Nat} (h : k < l.length) : l.drop k = l[k] :: l.drop (k + 1) := List.drop_eq_getElem_cons h
theorem least_n {l : List Nat} {k f acc : Nat} (h : k < l.length) (hf : l[k] = f) (hn : nanB f = true) : leastGo (l.drop k) acc = none := by
  rw [drop_next h, hf, leastGo, if_pos hn]
theorem least_l {l : List Nat} {k f acc : Nat} (h : k < l.length) (hf : l[k] = f) (hn : nanB f = false) (hl : ltB f acc = true) : leastGo (l.drop k) acc = leastGo (l.drop (k + 1)) f := by
  rw [drop_next h, hf, leastGo, if_neg (by rw [hn]; decide), if_pos hl]
theorem least_g {l : List Nat} {k f acc : Nat} (h : k < l.length) (hf : l[k] = f) (hn : nanB f = false) (hl : ltB f acc = false) : leastGo (l.drop k) acc = leastGo (l.drop (k + 1)) acc := by
  rw [drop_next h, hf, leastGo, if_neg (by rw [hn]; decide), if_neg (by rw [hl]; decide)]
theorem isnan_c (f : Nat) (w : World) : Calls Try.prog 71 #[.float .f64 f] w fun e w' => e = .returned (.bool (nanB f)) ∧ w' = w := isnan_any f w

set_option maxHeartbeats 1000000 in
theorem least_any (l : List Nat) (w : World) (s : Value) (hl : LiesF w l s) : Calls Try.prog 26 #[s] w fun e w' => e = .returned (.float .f64 (leastB l)) ∧ w' = w := by
  obtain ⟨a, cap, rfl, hc, hm, hn⟩ := hl.out
  have HN := Lib.hid hn
  have HI := Lib.hid inf_c
  have HQ := Lib.hid nan_c
  have HZ := Lib.hid isnan_c
  unfold maxLen at hm
  have hlen : l.length ≤ 9223372036854775807 := by omega
  clear hl hn hm hc
  go_enter Try.func26, Try.ntmps26
  go_wp2_with fail
  refine (HI.out _).mono ?_
  rintro e w1 ⟨rfl, rfl⟩
  go_wp2_with fail
  go_loop [3, 9] (fun least i => ∃ (k acc : Nat), k ≤ l.length ∧ i = .int .i64 k ∧ least = .float .f64 acc ∧ Hid (leastGo l 9218868437227405312 = leastGo (l.drop k) acc)) (fun _ i => l.length - (intOf i).toNat)
  case atStart => exact ⟨0, _, Nat.zero_le _, rfl, rfl, rfl⟩
  case round =>
    obtain ⟨k, acc, hk, rfl, rfl, hg⟩ := hrel
    by_cases hlt : k < l.length
    · obtain ⟨b, o, rfl, hcell⟩ := HN.out k hlt
      obtain ⟨f, hf⟩ : ∃ f, l[k] = f := ⟨_, rfl⟩
      rw [hf] at hcell
      cases hnan : nanB f with
      | true =>
        have HR := Lib.hid (leastB_none (hg.out.trans (least_n hlt hf hnan)))
        have HZ2 := Lib.hid (HZ.out f)
        have e1 : (FloatKind.f64.format.order f f != some Ordering.eq) = true := hnan
        rw [hnan] at HZ2
        clear hg hf hnan
        go_wp2_with fail
        refine (HZ2.out _).mono ?_
        rintro e w2 ⟨rfl, rfl⟩
        go_wp2_with fail
        refine (HQ.out _).mono ?_
        rintro e w3 ⟨rfl, rfl⟩
        go_wp2
        go_ret
        exact ⟨by rw [HR.out]; rfl, rfl⟩
      | false =>
        have HZ2 := Lib.hid (HZ.out f)
        have e1 : (FloatKind.f64.format.order f f != some Ordering.eq) = false := hnan
        rw [hnan] at HZ2
        cases hlt2 : ltB f acc with
        | true =>
          have e2 : (FloatKind.f64.format.order f acc == some Ordering.lt) = true := hlt2
          have HG := Lib.hid (hg.out.trans (least_l hlt hf hnan hlt2) : leastGo l 9218868437227405312 = leastGo (l.drop (k + 1)) f)
          clear hg hf hnan hlt2
          go_wp2_with fail
          refine (HZ2.out _).mono ?_
          rintro e w2 ⟨rfl, rfl⟩
          go_wp2
          go_round
          case rel => exact ⟨k + 1, f, hlt, by go_num, rfl, HG.out⟩
          case measure => simp [intOf]; omega
        | false =>
          have e2 : (FloatKind.f64.format.order f acc == some Ordering.lt) = false := hlt2
          have HG := Lib.hid (hg.out.trans (least_g hlt hf hnan hlt2) : leastGo l 9218868437227405312 = leastGo (l.drop (k + 1)) acc)
          clear hg hf hnan hlt2
          go_wp2_with fail
          refine (HZ2.out _).mono ?_
          rintro e w2 ⟨rfl, rfl⟩
          go_wp2
          go_round
          case rel => exact ⟨k + 1, acc, hlt, by go_num, rfl, HG.out⟩
          case measure => simp [intOf]; omega
    · have hgo := hg.out
      rw [List.drop_of_length_le (by omega)] at hgo
      cases h0 : (FloatKind.f64.format.order acc 0 == some Ordering.eq) with
      | true =>
        have HR := Lib.hid (leastB_zero hgo h0)
        clear hgo hg
        go_wp2
        go_ret
        exact ⟨by rw [HR.out]; rfl, rfl⟩
      | false =>
        have HR := Lib.hid (leastB_some hgo h0)
        clear hgo hg
        go_wp2
        go_ret
        exact ⟨by rw [HR.out]; rfl, rfl⟩

set_option maxHeartbeats 1000000 in
theorem pleast_any (l : List Nat) (w : World) (s : Value) (hl : LiesF w l s) : Calls Try.prog 27 #[s] w fun e w' => e = .returned (.float .f64 (leastB l)) ∧ ∃ d, w' = w.drewN d := by
  obtain ⟨a, cap, rfl, hc, hm, hn⟩ := hl.out
  have HN := Lib.hid hn
  have HI := Lib.hid inf_c
  have HQ := Lib.hid nan_c
  have HZ := Lib.hid isnan_c
  unfold maxLen at hm
  have hlen : l.length ≤ 9223372036854775807 := by omega
  clear hl hn hm hc
  go_enter Try.func27, Try.ntmps27
  go_wp2_with fail
  refine (HI.out _).mono ?_
  rintro e w1 ⟨rfl, rfl⟩
  go_wp2_with fail
  go_loopw [3, 4] (fun least i wr => ∃ (k acc d : Nat), wr = w1.drewN d ∧ k ≤ l.length ∧ i = .int .i64 k ∧ least = .float .f64 acc ∧ Hid (leastGo l 9218868437227405312 = leastGo (l.drop k) acc)) (fun _ i _ => l.length - (intOf i).toNat)
  case atStart => exact ⟨0, _, 0, rfl, Nat.zero_le _, rfl, rfl, rfl⟩
  case round =>
    obtain ⟨k, acc, d, rfl, hk, rfl, rfl, hg⟩ := hrel
    by_cases hlt : k < l.length
    · obtain ⟨b, o, rfl, hcell⟩ := HN.out k hlt
      obtain ⟨f, hf⟩ : ∃ f, l[k] = f := ⟨_, rfl⟩
      rw [hf] at hcell
      cases hnan : nanB f with
      | true =>
        have HR := Lib.hid (leastB_none (hg.out.trans (least_n hlt hf hnan)))
        have HZ2 := Lib.hid (HZ.out f)
        have e1 : (FloatKind.f64.format.order f f != some Ordering.eq) = true := hnan
        rw [hnan] at HZ2
        clear hg hf hnan
        go_wp2_with fail
        go_quiet (fail)
        go_wp2_with fail
        refine (HQ.out _).mono ?_
        rintro e w3 ⟨rfl, rfl⟩
        go_wp2
        go_ret
        exact ⟨by rw [HR.out]; rfl, _, rfl⟩
      | false =>
        have HZ2 := Lib.hid (HZ.out f)
        have e1 : (FloatKind.f64.format.order f f != some Ordering.eq) = false := hnan
        rw [hnan] at HZ2
        cases hlt2 : ltB f acc with
        | true =>
          have e2 : (FloatKind.f64.format.order f acc == some Ordering.lt) = true := hlt2
          have HG := Lib.hid (hg.out.trans (least_l hlt hf hnan hlt2) : leastGo l 9218868437227405312 = leastGo (l.drop (k + 1)) f)
          clear hg hf hnan hlt2
          go_wp2_with fail
          go_quiet (fail)
          go_wp2
          go_roundw
          case rel => exact ⟨k + 1, f, _, rfl, hlt, by go_num, rfl, HG.out⟩
          case measure => simp [intOf]; omega
        | false =>
          have e2 : (FloatKind.f64.format.order f acc == some Ordering.lt) = false := hlt2
          have HG := Lib.hid (hg.out.trans (least_g hlt hf hnan hlt2) : leastGo l 9218868437227405312 = leastGo (l.drop (k + 1)) acc)
          clear hg hf hnan hlt2
          go_wp2_with fail
          go_quiet (fail)
          go_wp2
          go_roundw
          case rel => exact ⟨k + 1, acc, _, rfl, hlt, by go_num, rfl, HG.out⟩
          case measure => simp [intOf]; omega
    · have hgo := hg.out
      rw [List.drop_of_length_le (by omega)] at hgo
      cases h0 : (FloatKind.f64.format.order acc 0 == some Ordering.eq) with
      | true =>
        have HR := Lib.hid (leastB_zero hgo h0)
        clear hgo hg
        go_wp2
        go_ret
        exact ⟨by rw [HR.out]; rfl, _, rfl⟩
      | false =>
        have HR := Lib.hid (leastB_some hgo h0)
        clear hgo hg
        go_wp2
        go_ret
        exact ⟨by rw [HR.out]; rfl, _, rfl⟩

theorem bits_any (x : Nat) (w : World) : Calls Try.prog 20 #[.float .f64 x, .float .f64 x] w fun e w' => e = .returned (.bool true) ∧ w' = w := by
  have h1 := bits_run x
  cases h : (FloatKind.f64.format.order x x != some Ordering.eq) with
  | true =>
    go_enter Try.func20, Try.ntmps20
    go_wp2
    go_ret
    exact ⟨rfl, rfl⟩
  | false =>
    go_enter Try.func20, Try.ntmps20
    go_wp2
    go_ret
    exact ⟨rfl, rfl⟩

theorem all_next {n : Int} {l : List Nat} {k f : Nat} (h : k < l.length) (hf : l[k] = f) : (l.take (k + 1)).all (withinB n) = ((l.take k).all (withinB n) && withinB n f) := by
  rw [List.take_succ_eq_append_getElem h, List.all_append, hf]; simp

set_option maxHeartbeats 1000000 in
theorem budgetLeast_any (l : List Nat) (n : Int) (w : World) (s : Value) (hl : LiesF w l s) (hn : I64 n) : Calls Try.prog 5 #[s, .int .i64 n] w fun e w' => e = .returned (.bool true) ∧ Below w.heap.size w w' := by
  obtain ⟨a, cap, rfl, hc, hm, hcl⟩ := hl.out
  have hn2 : n.natAbs ≤ 2 ^ 64 := by unfold I64 at hn; omega
  have HWL := Lib.hid (within_least n hn2 l)
  have HL := Lib.hid (least_any l w _ hl)
  have HP := Lib.hid (pleast_any l w _ hl)
  have HN := Lib.hid hcl
  have HW := Lib.hid fun m w => within_any n m w
  unfold maxLen at hm
  have hlen : l.length ≤ 9223372036854775807 := by omega
  clear hl hcl hm hc hn hn2
  by_cases h2 : 200 < (l.length : Int)
  · go_enter Try.func5, Try.ntmps5
    go_wp2
    go_ret
    exact ⟨rfl, Below.refl _ _⟩
  obtain ⟨X, hX⟩ : ∃ X, leastB l = X := ⟨_, rfl⟩
  rw [hX] at HWL HL HP
  clear hX
  go_enter Try.func5, Try.ntmps5
  go_wp2_with fail
  refine HL.out.mono ?_
  rintro e w1 ⟨rfl, rfl⟩
  go_wp2_with fail
  go_loop [6, 7] (fun c i => ∃ (k : Nat) (q : Bool), k ≤ l.length ∧ i = .int .i64 k ∧ c = .bool q ∧ Hid (q = (l.take k).all (withinB n))) (fun _ i => l.length - (intOf i).toNat)
  case atStart => exact ⟨0, true, Nat.zero_le _, rfl, rfl, rfl⟩
  case round =>
    obtain ⟨k, q, hk, rfl, rfl, hq⟩ := hrel
    by_cases hlt : k < l.length
    · obtain ⟨b, o, rfl, hcell⟩ := HN.out k hlt
      obtain ⟨f, hf⟩ : ∃ f, l[k] = f := ⟨_, rfl⟩
      have hnx := all_next (n := n) hlt hf
      rw [← hq.out] at hnx
      rw [hf] at hcell
      cases q with
      | false =>
        have HX := Lib.hid (show false = (l.take (k + 1)).all (withinB n) by rw [hnx]; rfl)
        clear hnx hf hq
        go_wp2
        go_round
        case rel => exact ⟨k + 1, false, hlt, by go_num, rfl, HX.out⟩
        case measure => simp [intOf]; omega
      | true =>
        have HX := Lib.hid (show withinB n f = (l.take (k + 1)).all (withinB n) by rw [hnx]; rfl)
        have HW2 := Lib.hid (HW.out f)
        generalize withinB n f = q2 at HX HW2
        clear hnx hf hq
        go_wp2_with fail
        refine (HW2.out _).mono ?_
        rintro e w3 ⟨rfl, rfl⟩
        go_wp2
        all_goals
          go_round
          case rel => exact ⟨k + 1, q2, hlt, by go_num, rfl, HX.out⟩
          case measure => simp [intOf]; omega
    · have hq2 := hq.out
      rw [List.take_of_length_le (by omega), ← HWL.out] at hq2
      have HW2 := Lib.hid (HW.out X)
      rw [← hq2] at HW2
      clear hq hq2
      go_wp2_with fail
      refine HP.out.mono ?_
      rintro e w3 ⟨rfl, d, rfl⟩
      go_wp2_with fail
      refine (bits_any X _).mono ?_
      rintro e w4 ⟨rfl, rfl⟩
      go_wp2_with fail
      refine (HW2.out _).mono ?_
      rintro e w5 ⟨rfl, rfl⟩
      go_wp2_with fail
      refine (wakes3_any _).mono ?_
      rintro e w6 ⟨rfl, hb⟩
      go_wp2
      go_ret
      exact ⟨rfl, (below_drewN (Below.refl _ _) d).trans hb⟩
end Go.Proofs.Ytjoolpmaehnhpaa
