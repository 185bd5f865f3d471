/-
  num.Get.
-/
import Derived.Test.YtmflomepdmmodaaNumF
import Derived.Test.YtmflomepdmmodaaRows
import Derived.ProofKit
import Derived.WalkKit
import Derived.LoopTactic
import Derived.Lib.Hide
import Derived.Below
namespace Go.Proofs.Ytmflomepdmmodaa
open Go.RowKit Go.Lib

/-- What Get hands back. -/
def getV (l : List UInt8) : Value := match getB l with
  | some n => .tuple #[.int .i64 n, .bool true]
  | none => .tuple #[.int .i64 0, .bool false]
theorem getV_some {l : List UInt8} {n : Nat} (h : getB l = some n) : getV l = .tuple #[.int .i64 n, .bool true] := by unfold getV; rw [h]
theorem getV_none {l : List UInt8} (h : getB l = none) : getV l = .tuple #[.int .i64 0, .bool false] := by unfold getV; rw [h]
theorem take_snoc (s : ByteArray) (k : Nat) (h : k < s.size) : s.data.toList.take (k + 1) = s.data.toList.take k ++ [s[k]] := by
  rw [List.take_succ_eq_append_getElem (by simpa using h)]; rfl

theorem getB_of {l : List UInt8} (h1 : l ≠ []) (h2 : ¬ (1 < l.length ∧ l.head? = some 48)) (h3 : digs l = true) (h4 : val l ≤ 1000000) : getB l = some (val l) := by
  unfold getB; rw [if_neg (by rintro (h | h); exact h1 h; exact h2 h), if_pos ⟨h3, h4⟩]
theorem getB_digs {l : List UInt8} (h3 : digs l = false) : getB l = none := by
  unfold getB; split; rfl; rw [if_neg (by rw [h3]; simp)]
theorem getB_great {l : List UInt8} (h3 : 1000000 < val l) : getB l = none := by
  unfold getB; split; rfl; rw [if_neg (by omega)]
theorem isd_at (s : ByteArray) (k : Nat) (h : k < s.size) (hd : isd s[k] = false) : digs s.data.toList = false := by
  have : s[k] ∈ s.data.toList := by
    have h' : k < s.data.toList.length := by simpa using h
    exact (List.getElem_mem (n := k) h' : s.data.toList[k] ∈ _)
  unfold digs
  rw [List.all_eq_false]
  exact ⟨_, this, by rw [hd]; decide⟩
theorem val_at (s : ByteArray) (k : Nat) : val (s.data.toList.take k) ≤ val s.data.toList := by
  have := val_append (s.data.toList.take k) (s.data.toList.drop k)
  rwa [List.take_append_drop] at this
theorem head_at (s : ByteArray) (h : 0 < s.size) : s.data.toList.head? = some s[0] := by
  have h' : 0 < s.data.toList.length := by simpa using h
  rw [List.head?_eq_getElem?, List.getElem?_eq_getElem h']; rfl

set_option maxHeartbeats 1000000 in
theorem get_any (s : ByteArray) (w : World) (hs : s.size ≤ maxLen) : Calls Try.prog 26 #[.string s] w fun e w' => e = .returned (getV s.data.toList) ∧ w' = w := by
  unfold maxLen at hs
  have hsl : s.data.toList.length = s.size := by simp
  by_cases h0 : s.size = 0
  · have hl : s.data.toList = [] := List.eq_nil_of_length_eq_zero (by omega)
    have hl2 : s.toList = [] := by rw [ByteArray.toList_eq]; exact hl
    have HV := Lib.hid (getV_none (l := s.data.toList) (by rw [hl]; rfl))
    clear hl hsl
    go_enter Try.func26, Try.ntmps26
    go_wp2
    go_ret2
    rw [HV.out]
    exact ⟨rfl, rfl⟩
  have hne : s.data.toList ≠ [] := fun h => by rw [h] at hsl; simp at hsl; omega
  have hne2 : (!s.toList.isEmpty) = true := by rw [ByteArray.toList_eq]; simpa using hne
  have hne3 : ¬ s.toList = [] := by rw [ByteArray.toList_eq]; exact hne
  have hne4 : s.toList.isEmpty = false := by simpa using hne2
  have h0' : 0 < s.size := by omega
  by_cases h1 : 1 < s.size ∧ ((s[0].toNat : Int) = 48)
  · obtain ⟨h1, h2⟩ := h1
    have HV := Lib.hid (getV_none (l := s.data.toList) (by
      unfold getB; rw [if_pos (Or.inr ⟨by omega, by rw [head_at s h0']; congr 1; apply UInt8.toNat_inj.1; simp; omega⟩)]))
    have e2 : ((s[0].toNat : Int) == 48) = true := by simpa using h2
    clear hne hsl h2
    go_enter Try.func26, Try.ntmps26
    go_wp2
    go_ret2
    rw [HV.out]
    exact ⟨rfl, rfl⟩
  have HN2 : Hid (¬ (1 < s.data.toList.length ∧ s.data.toList.head? = some 48)) := by
    rintro ⟨h, h'⟩
    rw [head_at s h0'] at h'
    simp only [Option.some.injEq] at h'
    exact h1 ⟨by omega, by rw [h']; rfl⟩
  by_cases hA : 1 < s.size
  · have e2 : ((s[0].toNat : Int) == 48) = false := by
      have : ¬ (s[0].toNat : Int) = 48 := fun h => h1 ⟨hA, h⟩
      simpa using this
    clear h1 h0
    have HHN := Lib.hid hne
    have HHS := Lib.hid hsl
    clear hne hsl
    go_enter Try.func26, Try.ntmps26
    go_wp2
    go_loop [4, 5] (fun n i => ∃ k : Nat, k ≤ s.size ∧ i = .int .i64 k ∧ n = .int .i64 (val (s.data.toList.take k) : Nat) ∧ Hid (digs (s.data.toList.take k) = true) ∧ Hid (val (s.data.toList.take k) ≤ 1000000)) (fun _ i => s.size - (RowKit.intOf i).toNat)
    case atStart => exact ⟨0, Nat.zero_le _, rfl, rfl, rfl, Nat.zero_le _⟩
    case round =>
      obtain ⟨k, hk, rfl, rfl, hd, hv⟩ := hrel
      by_cases hlt : k < s.size
      · have hts := take_snoc s k hlt
        have hsn := val_snoc (s.data.toList.take k) s[k]
        have hdn := digs_snoc (s.data.toList.take k) s[k]
        rw [← hts] at hsn hdn
        rw [hd.out, Bool.true_and] at hdn
        have hc0 := s[k].toNat_lt
        by_cases l1 : (s[k].toNat : Int) < 48
        · have HF := Lib.hid (getV_none (getB_digs (isd_at s k hlt (by unfold isd; simp; omega))))
          clear hts hsn hdn hc0 hd hv
          go_wp2
          go_ret2
          rw [HF.out]
          exact ⟨rfl, rfl⟩
        by_cases l2 : 57 < (s[k].toNat : Int)
        · have HF := Lib.hid (getV_none (getB_digs (isd_at s k hlt (by unfold isd; simp; omega))))
          clear hts hsn hdn hc0 hd hv
          go_wp2
          go_ret2
          rw [HF.out]
          exact ⟨rfl, rfl⟩
        have hv0 := hv.out
        obtain ⟨v, hve⟩ : ∃ v : Nat, val (s.data.toList.take k) = v := ⟨_, rfl⟩
        rw [hve] at hsn hv0 ⊢
        have l3 : 48 ≤ (s[k].toNat : Int) := by omega
        have l4 : (s[k].toNat : Int) ≤ 57 := by omega
        have HDN : Hid (digs (s.data.toList.take (k + 1)) = true) := by rw [Hid, hdn]; unfold isd; simp; omega
        have HSN := Lib.hid (show ((val (s.data.toList.take (k + 1)) : Nat) : Int) = 10 * (v : Int) + ((s[k].toNat : Int) - 48) by rw [hsn]; omega)
        have hvs := val_at s (k + 1)
        have hw1 : IntKind.u8.wrap ((s[k].toNat : Int) - 48) = (s[k].toNat : Int) - 48 := IntWalk.u8_in _ (by omega)
        by_cases l5 : 1000000 < 10 * (v : Int) + ((s[k].toNat : Int) - 48)
        · have HF := Lib.hid (getV_none (getB_great (l := s.data.toList) (by have := HSN.out; omega)))
          clear hts hsn hdn hc0 hd hv hvs hve l1 l2
          go_wp2
          go_ret2
          rw [HF.out]
          exact ⟨rfl, rfl⟩
        · have HV5 : Hid (val (s.data.toList.take (k + 1)) ≤ 1000000) := by have := HSN.out; rw [Hid]; omega
          clear hts hsn hdn hc0 hd hv hvs hve l1 l2
          go_wp2
          go_round
          case rel => exact ⟨k + 1, hlt, by go_num, by rw [HSN.out], HDN, HV5⟩
          case measure => simp [RowKit.intOf]; omega
      · have hte : s.data.toList.take k = s.data.toList := List.take_of_length_le (by rw [HHS.out]; omega)
        rw [hte] at hd hv ⊢
        have HG := Lib.hid (getV_some (getB_of HHN.out HN2.out hd.out hv.out))
        clear hte hd hv
        go_wp2
        go_ret2
        rw [HG.out]
        exact ⟨rfl, rfl⟩
  · clear h1 h0
    have HHN := Lib.hid hne
    have HHS := Lib.hid hsl
    clear hne hsl
    go_enter Try.func26, Try.ntmps26
    go_wp2
    go_loop [4, 5] (fun n i => ∃ k : Nat, k ≤ s.size ∧ i = .int .i64 k ∧ n = .int .i64 (val (s.data.toList.take k) : Nat) ∧ Hid (digs (s.data.toList.take k) = true) ∧ Hid (val (s.data.toList.take k) ≤ 1000000)) (fun _ i => s.size - (RowKit.intOf i).toNat)
    case atStart => exact ⟨0, Nat.zero_le _, rfl, rfl, rfl, Nat.zero_le _⟩
    case round =>
      obtain ⟨k, hk, rfl, rfl, hd, hv⟩ := hrel
      by_cases hlt : k < s.size
      · have hts := take_snoc s k hlt
        have hsn := val_snoc (s.data.toList.take k) s[k]
        have hdn := digs_snoc (s.data.toList.take k) s[k]
        rw [← hts] at hsn hdn
        rw [hd.out, Bool.true_and] at hdn
        have hc0 := s[k].toNat_lt
        by_cases l1 : (s[k].toNat : Int) < 48
        · have HF := Lib.hid (getV_none (getB_digs (isd_at s k hlt (by unfold isd; simp; omega))))
          clear hts hsn hdn hc0 hd hv
          go_wp2
          go_ret2
          rw [HF.out]
          exact ⟨rfl, rfl⟩
        by_cases l2 : 57 < (s[k].toNat : Int)
        · have HF := Lib.hid (getV_none (getB_digs (isd_at s k hlt (by unfold isd; simp; omega))))
          clear hts hsn hdn hc0 hd hv
          go_wp2
          go_ret2
          rw [HF.out]
          exact ⟨rfl, rfl⟩
        have hv0 := hv.out
        obtain ⟨v, hve⟩ : ∃ v : Nat, val (s.data.toList.take k) = v := ⟨_, rfl⟩
        rw [hve] at hsn hv0 ⊢
        have l3 : 48 ≤ (s[k].toNat : Int) := by omega
        have l4 : (s[k].toNat : Int) ≤ 57 := by omega
        have HDN : Hid (digs (s.data.toList.take (k + 1)) = true) := by rw [Hid, hdn]; unfold isd; simp; omega
        have HSN := Lib.hid (show ((val (s.data.toList.take (k + 1)) : Nat) : Int) = 10 * (v : Int) + ((s[k].toNat : Int) - 48) by rw [hsn]; omega)
        have hvs := val_at s (k + 1)
        have hw1 : IntKind.u8.wrap ((s[k].toNat : Int) - 48) = (s[k].toNat : Int) - 48 := IntWalk.u8_in _ (by omega)
        by_cases l5 : 1000000 < 10 * (v : Int) + ((s[k].toNat : Int) - 48)
        · have HF := Lib.hid (getV_none (getB_great (l := s.data.toList) (by have := HSN.out; omega)))
          clear hts hsn hdn hc0 hd hv hvs hve l1 l2
          go_wp2
          go_ret2
          rw [HF.out]
          exact ⟨rfl, rfl⟩
        · have HV5 : Hid (val (s.data.toList.take (k + 1)) ≤ 1000000) := by have := HSN.out; rw [Hid]; omega
          clear hts hsn hdn hc0 hd hv hvs hve l1 l2
          go_wp2
          go_round
          case rel => exact ⟨k + 1, hlt, by go_num, by rw [HSN.out], HDN, HV5⟩
          case measure => simp [RowKit.intOf]; omega
      · have hte : s.data.toList.take k = s.data.toList := List.take_of_length_le (by rw [HHS.out]; omega)
        rw [hte] at hd hv ⊢
        have HG := Lib.hid (getV_some (getB_of HHN.out HN2.out hd.out hv.out))
        clear hte hd hv
        go_wp2
        go_ret2
        rw [HG.out]
        exact ⟨rfl, rfl⟩

end Go.Proofs.Ytmflomepdmmodaa
