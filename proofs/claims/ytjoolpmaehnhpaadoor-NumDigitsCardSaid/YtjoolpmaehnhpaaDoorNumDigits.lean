/-
  The walk of transhiplaw01.NumDigits.
-/
import Derived.Test.YtjoolpmaehnhpaaDoorNumC
namespace Go.Proofs.YtjoolpmaehnhpaaDoor
open Go.RowKit Go.Lib

theorem cat_two (A B : List UInt8) : ((⟨A.toArray⟩ : ByteArray) ++ (⟨B.toArray⟩ : ByteArray)).toList = A ++ B := by
  rw [ByteArray.toList_eq, ByteArray.data_append]; simp
theorem cat_three (A B : List UInt8) : ((⟨#[45]⟩ : ByteArray) ++ (⟨A.toArray⟩ : ByteArray) ++ (⟨B.toArray⟩ : ByteArray)).toList = 45 :: (A ++ B) := by
  rw [ByteArray.toList_eq, ByteArray.data_append, ByteArray.data_append]; simp

set_option maxHeartbeats 1000000 in
theorem numDigits_any (n d : Int) (w : World) (hn : I64 n) (hd : I64 d) (hT0 : TabIs Tryd.prog w "internal/strconv.uint64pow10" .u64 pow10Tab) : Calls Tryd.prog 6 #[.int .i64 n, .int .i64 d] w fun e w' => e = .returned (.bool true) ∧ Below w.heap.size w w' := by
  have hT : Tab w := tabBelow_of_tabIs hT0
  have hT0 := Lib.hid hT
  clear hT
  by_cases c1 : n < 1
  · clear hn hd
    go_enter Tryd.func6, Tryd.ntmps6
    go_wp2
    go_ret
    exact ⟨rfl, Below.refl _ _⟩
  by_cases c2 : 1125899906842624 < n
  · clear hn hd
    go_enter Tryd.func6, Tryd.ntmps6
    go_wp2
    go_ret
    exact ⟨rfl, Below.refl _ _⟩
  by_cases c3 : d < 0
  · clear hn hd
    go_enter Tryd.func6, Tryd.ntmps6
    go_wp2
    go_ret
    exact ⟨rfl, Below.refl _ _⟩
  by_cases c4 : 9 < d
  · clear hn hd
    go_enter Tryd.func6, Tryd.ntmps6
    go_wp2
    go_ret
    exact ⟨rfl, Below.refl _ _⟩
  have E1 := itoa_digit (n := n) (d := d) (by omega) (by omega) (by omega)
  have E2 := itoa_digit_neg (n := n) (d := d) (by omega) (by omega) (by omega)
  have L1 := itoa_length_le n hn.1 hn.2
  have L2 := itoa_length_le d hd.1 hd.2
  have hs : I64 (10 * n + d) := ⟨by omega, by omega⟩
  have hs2 : I64 (-10 * n - d) := ⟨by omega, by omega⟩
  have P1 := Lib.hid fun (w : World) (h : Tab w) => put_any n w hn h
  have P2 := Lib.hid fun (w : World) (h : Tab w) => put_any d w hd h
  have P3 := Lib.hid fun (w : World) (h : Tab w) => put_any (10 * n + d) w hs h
  have P4 := Lib.hid fun (w : World) (h : Tab w) => put_any (-10 * n - d) w hs2 h
  rw [E1] at P3
  rw [E2] at P4
  clear E1 E2 hs hs2 hn hd
  obtain ⟨A, hA⟩ : ∃ A, itoa n = A := ⟨_, rfl⟩
  obtain ⟨B, hB⟩ : ∃ B, itoa d = B := ⟨_, rfl⟩
  rw [hA] at P1 P3 P4 L1
  rw [hB] at P2 P3 P4 L2
  clear hA hB
  go_enter Tryd.func6, Tryd.ntmps6
  go_wp2_with fail
  refine (P3.out _ hT0.out).mono ?_
  rintro e w1 ⟨rfl, hb⟩
  have hT1 := Lib.hid (hT0.out.later hb)
  have hB1 := hb
  clear hb
  go_wp2_with fail
  refine (P1.out _ hT1.out).mono ?_
  rintro e w2 ⟨rfl, hb⟩
  have hT2 := Lib.hid (hT1.out.later hb)
  have hB2 := hB1.trans (hb.mono hB1.size)
  clear hb hB1 hT1
  go_wp2_with fail
  refine (P2.out _ hT2.out).mono ?_
  rintro e w3 ⟨rfl, hb⟩
  have hT3 := Lib.hid (hT2.out.later hb)
  have hB3 := hB2.trans (hb.mono hB2.size)
  clear hb hB2 hT2
  have e2 := cat_two A B
  have e3 := cat_three A B
  go_wp2_with fail
  refine (P4.out _ hT3.out).mono ?_
  rintro e w4 ⟨rfl, hb⟩
  have hT4 := Lib.hid (hT3.out.later hb)
  have hB4 := hB3.trans (hb.mono hB3.size)
  clear hb hB3 hT3
  go_wp2_with fail
  refine (P1.out _ hT4.out).mono ?_
  rintro e w5 ⟨rfl, hb⟩
  have hT5 := Lib.hid (hT4.out.later hb)
  have hB5 := hB4.trans (hb.mono hB4.size)
  clear hb hB4 hT4
  go_wp2_with fail
  refine (P2.out _ hT5.out).mono ?_
  rintro e w6 ⟨rfl, hb⟩
  have hT6 := Lib.hid (hT5.out.later hb)
  have hB6 := hB5.trans (hb.mono hB5.size)
  clear hb hB5 hT5
  go_wp2_with fail
  refine (wakes1_any _ hT6.out).mono ?_
  rintro e w7 ⟨rfl, hb⟩
  have hB7 := hB6.trans (hb.mono hB6.size)
  go_wp2
  go_ret
  exact ⟨rfl, hB7⟩
end Go.Proofs.YtjoolpmaehnhpaaDoor
