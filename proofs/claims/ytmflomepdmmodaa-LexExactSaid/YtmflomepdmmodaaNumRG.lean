/-
  The page's own Get.
-/
import Derived.Test.YtmflomepdmmodaaNumG
namespace Go.Proofs.Ytmflomepdmmodaa
open Go.RowKit Go.Lib

theorem foldl_lt (l : List UInt8) : ∀ a : Nat, digs l = true → l.foldl (fun n c => 10 * n + (c.toNat - 48)) a < (a + 1) * 10 ^ l.length := by
  induction l with
  | nil => intro a _; simp
  | cons c l ih =>
    intro a h
    simp only [digs, List.all_cons, Bool.and_eq_true, isd, decide_eq_true_eq] at h
    simp only [List.foldl_cons, List.length_cons, Nat.pow_succ]
    refine Nat.lt_of_lt_of_le (ih _ h.2) ?_
    rw [Nat.mul_comm (10 ^ l.length) 10, ← Nat.mul_assoc]
    exact Nat.mul_le_mul_right _ (by omega)
theorem val_lt {l : List UInt8} (h : digs l = true) : val l < 10 ^ l.length := by
  have := foldl_lt l 0 h
  simpa [val] using this

set_option maxHeartbeats 1000000 in
theorem refget_any (s : ByteArray) (w : World) (hs : s.size ≤ maxLen) : Calls Try.prog 19 #[.string s] w fun e w' => e = .returned (getV s.data.toList) ∧ w' = w := by
  unfold maxLen at hs
  have hsl : s.data.toList.length = s.size := by simp
  by_cases h0 : s.size = 0
  · have hl : s.data.toList = [] := List.eq_nil_of_length_eq_zero (by omega)
    have HV := Lib.hid (getV_none (l := s.data.toList) (by rw [hl]; rfl))
    clear hl hsl
    go_enter Try.func19, Try.ntmps19
    go_wp2
    go_ret2
    rw [HV.out]
    exact ⟨rfl, rfl⟩
  have hne : s.data.toList ≠ [] := fun h => by rw [h] at hsl; simp at hsl; omega
  have e0 : ((s.size : Int) == 0) = false := by simpa using h0
  by_cases h7 : 7 < s.size
  · have HV := Lib.hid (getV_none (get_long (l := s.data.toList) (by omega)))
    clear hne hsl
    go_enter Try.func19, Try.ntmps19
    go_wp2
    go_ret2
    rw [HV.out]
    exact ⟨rfl, rfl⟩
  have h0' : 0 < s.size := by omega
  have e7 : ¬ 7 < (s.size : Int) := by omega
  by_cases h1 : 1 < s.size ∧ ((s[0].toNat : Int) = 48)
  · obtain ⟨h1, h2⟩ := h1
    have HV := Lib.hid (getV_none (l := s.data.toList) (by
      unfold getB; rw [if_pos (Or.inr ⟨by omega, by rw [head_at s h0']; congr 1; apply UInt8.toNat_inj.1; simp; omega⟩)]))
    have e2 : ((s[0].toNat : Int) == 48) = true := by simpa using h2
    clear hne hsl h2
    go_enter Try.func19, Try.ntmps19
    go_wp2
    go_ret2
    rw [HV.out]
    exact ⟨rfl, rfl⟩
  have HN2 : Hid (¬ (1 < s.data.toList.length ∧ s.data.toList.head? = some 48)) := by
    rintro ⟨h, h'⟩
    rw [head_at s h0'] at h'
    simp only [Option.some.injEq] at h'
    exact h1 ⟨by omega, by rw [h']; rfl⟩
  by_cases hA : 1 < s.size
  · have e2 : ((s[0].toNat : Int) == 48) = false := by
      have : ¬ (s[0].toNat : Int) = 48 := fun h => h1 ⟨hA, h⟩
      simpa using this
    clear h1 h0
    have HHN := Lib.hid hne
    have HHS := Lib.hid hsl
    clear hne hsl
    go_enter Try.func19, Try.ntmps19
    go_wp2
    go_loop [4, 5] (fun n i => ∃ k : Nat, k ≤ s.size ∧ i = .int .i64 k ∧ n = .int .i64 (val (s.data.toList.take k) : Nat) ∧ Hid (digs (s.data.toList.take k) = true) ∧ Hid (val (s.data.toList.take k) < 10000000)) (fun _ i => s.size - (RowKit.intOf i).toNat)
    case atStart => exact ⟨0, Nat.zero_le _, rfl, rfl, rfl, (show (0 : Nat) < 10000000 by omega)⟩
    case round =>
      obtain ⟨k, hk, rfl, rfl, hd, hv⟩ := hrel
      by_cases hlt : k < s.size
      · have hts := take_snoc s k hlt
        have hsn := val_snoc (s.data.toList.take k) s[k]
        have hdn := digs_snoc (s.data.toList.take k) s[k]
        rw [← hts] at hsn hdn
        rw [hd.out, Bool.true_and] at hdn
        have hc0 := s[k].toNat_lt
        by_cases l1 : (s[k].toNat : Int) < 48
        · have HF := Lib.hid (getV_none (getB_digs (isd_at s k hlt (by unfold isd; simp; omega))))
          clear hts hsn hdn hc0 hd hv
          go_wp2
          go_ret2
          rw [HF.out]
          exact ⟨rfl, rfl⟩
        by_cases l2 : 57 < (s[k].toNat : Int)
        · have HF := Lib.hid (getV_none (getB_digs (isd_at s k hlt (by unfold isd; simp; omega))))
          clear hts hsn hdn hc0 hd hv
          go_wp2
          go_ret2
          rw [HF.out]
          exact ⟨rfl, rfl⟩
        have hv0 := hv.out
        obtain ⟨v, hve⟩ : ∃ v : Nat, val (s.data.toList.take k) = v := ⟨_, rfl⟩
        rw [hve] at hsn hv0 ⊢
        have l3 : 48 ≤ (s[k].toNat : Int) := by omega
        have l4 : (s[k].toNat : Int) ≤ 57 := by omega
        have HDN : Hid (digs (s.data.toList.take (k + 1)) = true) := by rw [Hid, hdn]; unfold isd; simp; omega
        have HSN := Lib.hid (show ((val (s.data.toList.take (k + 1)) : Nat) : Int) = 10 * (v : Int) + ((s[k].toNat : Int) - 48) by rw [hsn]; omega)
        have hvs := val_at s (k + 1)
        have hw1 : IntKind.u8.wrap ((s[k].toNat : Int) - 48) = (s[k].toNat : Int) - 48 := IntWalk.u8_in _ (by omega)
        have HV5 : Hid (val (s.data.toList.take (k + 1)) < 10000000) := by
          have h1 := val_lt (l := s.data.toList.take (k + 1)) HDN.out
          have h2 : (s.data.toList.take (k + 1)).length ≤ 7 := by rw [List.length_take]; omega
          have h3 : 10 ^ (s.data.toList.take (k + 1)).length ≤ 10 ^ 7 := Nat.pow_le_pow_right (by omega) h2
          rw [Hid]; omega
        clear hts hsn hdn hc0 hd hv hvs hve l1 l2
        go_wp2
        go_round
        case rel => exact ⟨k + 1, hlt, by go_num, by rw [HSN.out], HDN, HV5⟩
        case measure => simp [RowKit.intOf]; omega
      · have hte : s.data.toList.take k = s.data.toList := List.take_of_length_le (by rw [HHS.out]; omega)
        rw [hte] at hd hv ⊢
        obtain ⟨v, hve⟩ : ∃ v : Nat, val s.data.toList = v := ⟨_, rfl⟩
        have hd0 := hd.out
        have hv0 := hv.out
        rw [hve] at hv0
        by_cases l5 : 1000000 < v
        · have HG := Lib.hid (getV_none (getB_great (l := s.data.toList) (by omega)))
          have l6 : 1000000 < (v : Int) := by omega
          rw [hve]
          clear hte hd hv hd0 hve l5
          go_wp2
          go_ret2
          rw [HG.out]
          exact ⟨rfl, rfl⟩
        · have HG := Lib.hid (getV_some (getB_of HHN.out HN2.out hd0 (by omega)))
          have l6 : ¬ 1000000 < (v : Int) := by omega
          rw [hve] at HG ⊢
          clear hte hd hv hd0 hve l5
          go_wp2
          go_ret2
          rw [HG.out]
          exact ⟨rfl, rfl⟩
  · clear h1 h0
    have HHN := Lib.hid hne
    have HHS := Lib.hid hsl
    clear hne hsl
    go_enter Try.func19, Try.ntmps19
    go_wp2
    go_loop [4, 5] (fun n i => ∃ k : Nat, k ≤ s.size ∧ i = .int .i64 k ∧ n = .int .i64 (val (s.data.toList.take k) : Nat) ∧ Hid (digs (s.data.toList.take k) = true) ∧ Hid (val (s.data.toList.take k) < 10000000)) (fun _ i => s.size - (RowKit.intOf i).toNat)
    case atStart => exact ⟨0, Nat.zero_le _, rfl, rfl, rfl, (show (0 : Nat) < 10000000 by omega)⟩
    case round =>
      obtain ⟨k, hk, rfl, rfl, hd, hv⟩ := hrel
      by_cases hlt : k < s.size
      · have hts := take_snoc s k hlt
        have hsn := val_snoc (s.data.toList.take k) s[k]
        have hdn := digs_snoc (s.data.toList.take k) s[k]
        rw [← hts] at hsn hdn
        rw [hd.out, Bool.true_and] at hdn
        have hc0 := s[k].toNat_lt
        by_cases l1 : (s[k].toNat : Int) < 48
        · have HF := Lib.hid (getV_none (getB_digs (isd_at s k hlt (by unfold isd; simp; omega))))
          clear hts hsn hdn hc0 hd hv
          go_wp2
          go_ret2
          rw [HF.out]
          exact ⟨rfl, rfl⟩
        by_cases l2 : 57 < (s[k].toNat : Int)
        · have HF := Lib.hid (getV_none (getB_digs (isd_at s k hlt (by unfold isd; simp; omega))))
          clear hts hsn hdn hc0 hd hv
          go_wp2
          go_ret2
          rw [HF.out]
          exact ⟨rfl, rfl⟩
        have hv0 := hv.out
        obtain ⟨v, hve⟩ : ∃ v : Nat, val (s.data.toList.take k) = v := ⟨_, rfl⟩
        rw [hve] at hsn hv0 ⊢
        have l3 : 48 ≤ (s[k].toNat : Int) := by omega
        have l4 : (s[k].toNat : Int) ≤ 57 := by omega
        have HDN : Hid (digs (s.data.toList.take (k + 1)) = true) := by rw [Hid, hdn]; unfold isd; simp; omega
        have HSN := Lib.hid (show ((val (s.data.toList.take (k + 1)) : Nat) : Int) = 10 * (v : Int) + ((s[k].toNat : Int) - 48) by rw [hsn]; omega)
        have hvs := val_at s (k + 1)
        have hw1 : IntKind.u8.wrap ((s[k].toNat : Int) - 48) = (s[k].toNat : Int) - 48 := IntWalk.u8_in _ (by omega)
        have HV5 : Hid (val (s.data.toList.take (k + 1)) < 10000000) := by
          have h1 := val_lt (l := s.data.toList.take (k + 1)) HDN.out
          have h2 : (s.data.toList.take (k + 1)).length ≤ 7 := by rw [List.length_take]; omega
          have h3 : 10 ^ (s.data.toList.take (k + 1)).length ≤ 10 ^ 7 := Nat.pow_le_pow_right (by omega) h2
          rw [Hid]; omega
        clear hts hsn hdn hc0 hd hv hvs hve l1 l2
        go_wp2
        go_round
        case rel => exact ⟨k + 1, hlt, by go_num, by rw [HSN.out], HDN, HV5⟩
        case measure => simp [RowKit.intOf]; omega
      · have hte : s.data.toList.take k = s.data.toList := List.take_of_length_le (by rw [HHS.out]; omega)
        rw [hte] at hd hv ⊢
        obtain ⟨v, hve⟩ : ∃ v : Nat, val s.data.toList = v := ⟨_, rfl⟩
        have hd0 := hd.out
        have hv0 := hv.out
        rw [hve] at hv0
        by_cases l5 : 1000000 < v
        · have HG := Lib.hid (getV_none (getB_great (l := s.data.toList) (by omega)))
          have l6 : 1000000 < (v : Int) := by omega
          rw [hve]
          clear hte hd hv hd0 hve l5
          go_wp2
          go_ret2
          rw [HG.out]
          exact ⟨rfl, rfl⟩
        · have HG := Lib.hid (getV_some (getB_of HHN.out HN2.out hd0 (by omega)))
          have l6 : ¬ 1000000 < (v : Int) := by omega
          rw [hve] at HG ⊢
          clear hte hd hv hd0 hve l5
          go_wp2
          go_ret2
          rw [HG.out]
          exact ⟨rfl, rfl⟩

end Go.Proofs.Ytmflomepdmmodaa
