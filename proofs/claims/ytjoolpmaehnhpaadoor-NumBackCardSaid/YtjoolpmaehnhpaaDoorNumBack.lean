/-
  The walk of transhiplaw01.NumBack.
-/
import Derived.Test.YtjoolpmaehnhpaaDoorNumC
namespace Go.Proofs.YtjoolpmaehnhpaaDoor
open Go.RowKit Go.Lib

set_option maxHeartbeats 1000000 in
theorem numBack_any (n : Int) (w : World) (hn : I64 n) (hT0 : TabIs Tryd.prog w "internal/strconv.uint64pow10" .u64 pow10Tab) : Calls Tryd.prog 4 #[.int .i64 n] w fun e w' => e = .returned (.bool true) ∧ Below w.heap.size w w' := by
  have hT : Tab w := tabBelow_of_tabIs hT0
  have HP := Lib.hid (put_any n w hn hT)
  have HT := Lib.hid hT
  have HL := Lib.hid (itoa_length_le n hn.1 hn.2)
  have HG : Hid (∀ w', Calls Tryd.prog 7 #[.string ⟨(itoa n).toArray⟩] w' fun e w2 => e = .returned (getV (itoa n)) ∧ w2 = w') := fun w' =>
    get_any ⟨(itoa n).toArray⟩ w' (by show (itoa n).toArray.size ≤ maxLen; rw [List.size_toArray]; have := HL.out; unfold maxLen; omega)
  clear hT hT0
  by_cases h0 : n < 0
  · have HV := Lib.hid (getV_none (l := itoa n) (by rw [get_itoa, if_neg (by omega)]))
    clear hn
    go_enter Tryd.func4, Tryd.ntmps4
    go_wp2_with fail
    refine HP.out.mono ?_
    rintro e w1 ⟨rfl, hb⟩
    go_wp2_with fail
    refine (HG.out _).mono ?_
    rw [HV.out]
    rintro e w2 ⟨rfl, rfl⟩
    go_wp2_with fail
    refine (wakes1_any _ (HT.out.later hb)).mono ?_
    rintro e w3 ⟨rfl, hb3⟩
    go_wp2
    go_ret
    exact ⟨rfl, hb.trans (hb3.mono hb.size)⟩
  by_cases h1 : 1000000 < n
  · have HV := Lib.hid (getV_none (l := itoa n) (by rw [get_itoa, if_neg (by omega)]))
    clear hn
    go_enter Tryd.func4, Tryd.ntmps4
    go_wp2_with fail
    refine HP.out.mono ?_
    rintro e w1 ⟨rfl, hb⟩
    go_wp2_with fail
    refine (HG.out _).mono ?_
    rw [HV.out]
    rintro e w2 ⟨rfl, rfl⟩
    go_wp2_with fail
    refine (wakes1_any _ (HT.out.later hb)).mono ?_
    rintro e w3 ⟨rfl, hb3⟩
    go_wp2
    go_ret
    exact ⟨rfl, hb.trans (hb3.mono hb.size)⟩
  · have HV := Lib.hid (getV_some (l := itoa n) (n := n.toNat) (by rw [get_itoa, if_pos (by omega)]))
    have hto : ((n.toNat : Nat) : Int) = n := by omega
    rw [hto] at HV
    clear hn hto
    go_enter Tryd.func4, Tryd.ntmps4
    go_wp2_with fail
    refine HP.out.mono ?_
    rintro e w1 ⟨rfl, hb⟩
    go_wp2_with fail
    refine (HG.out _).mono ?_
    rw [HV.out]
    rintro e w2 ⟨rfl, rfl⟩
    go_wp2_with fail
    refine (wakes1_any _ (HT.out.later hb)).mono ?_
    rintro e w3 ⟨rfl, hb3⟩
    go_wp2
    go_ret
    exact ⟨rfl, hb.trans (hb3.mono hb.size)⟩
end Go.Proofs.YtjoolpmaehnhpaaDoor
