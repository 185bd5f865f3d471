/-
  The walk of transhiplaw01.NumExact.
-/
import Derived.Test.YtjoolpmaehnhpaaDoorNumRef
namespace Go.Proofs.YtjoolpmaehnhpaaDoor
open Go.RowKit Go.Lib

set_option maxHeartbeats 1000000 in
theorem numExact_any (n : Int) (s : ByteArray) (w : World) (hn : I64 n) (hs : s.size ≤ maxLen) (hT0 : TabIs Tryd.prog w "internal/strconv.uint64pow10" .u64 pow10Tab) : Calls Tryd.prog 3 #[.int .i64 n, .string s] w fun e w' => e = .returned (.bool true) ∧ Below w.heap.size w w' := by
  have hT : Tab w := tabBelow_of_tabIs hT0
  have HT := Lib.hid hT
  have HN := Lib.hid hn
  have G1 := Lib.hid fun w => get_any s w hs
  have G2 := Lib.hid fun w => refget_any s w hs
  clear hT hT0 hn hs
  by_cases h0 : 100 < (s.size : Int)
  · go_enter Tryd.func3, Tryd.ntmps3
    go_wp2
    go_ret
    exact ⟨rfl, Below.refl _ _⟩
  cases hg : getB s.data.toList with
  | none =>
    rw [getV_none hg] at G1 G2
    clear hg
    go_enter Tryd.func3, Tryd.ntmps3
    go_wp2_with fail
    refine (G1.out _).mono ?_
    rintro e w1 ⟨rfl, rfl⟩
    go_wp2_with fail
    refine (G2.out _).mono ?_
    rintro e w2 ⟨rfl, rfl⟩
    go_wp2_with fail
    refine (put_any n _ HN.out HT.out).mono ?_
    rintro e w3 ⟨rfl, hb⟩
    have HT3 := Lib.hid (HT.out.later hb)
    go_wp2_with fail
    refine (refput_any n _ HN.out).mono ?_
    rintro e w4 ⟨rfl, hb4⟩
    have HT4 := Lib.hid (HT3.out.later hb4)
    have hb5 := hb.trans (hb4.mono hb.size)
    go_wp2_with fail
    refine (wakes1_any _ HT4.out).mono ?_
    rintro e w6 ⟨rfl, hb6⟩
    have hb7 := hb5.trans (hb6.mono hb5.size)
    go_wp2
    go_ret
    exact ⟨rfl, hb7⟩
  | some v =>
    rw [getV_some hg] at G1 G2
    clear hg
    go_enter Tryd.func3, Tryd.ntmps3
    go_wp2_with fail
    refine (G1.out _).mono ?_
    rintro e w1 ⟨rfl, rfl⟩
    go_wp2_with fail
    refine (G2.out _).mono ?_
    rintro e w2 ⟨rfl, rfl⟩
    go_wp2_with fail
    refine (put_any n _ HN.out HT.out).mono ?_
    rintro e w3 ⟨rfl, hb⟩
    have HT3 := Lib.hid (HT.out.later hb)
    go_wp2_with fail
    refine (refput_any n _ HN.out).mono ?_
    rintro e w4 ⟨rfl, hb4⟩
    have HT4 := Lib.hid (HT3.out.later hb4)
    have hb5 := hb.trans (hb4.mono hb.size)
    go_wp2_with fail
    refine (wakes1_any _ HT4.out).mono ?_
    rintro e w6 ⟨rfl, hb6⟩
    have hb7 := hb5.trans (hb6.mono hb5.size)
    go_wp2
    go_ret
    exact ⟨rfl, hb7⟩
end Go.Proofs.YtjoolpmaehnhpaaDoor
