/-
  The walk of transhiplaw01.NumUnlike.
-/
import Derived.Test.YtjoolpmaehnhpaaDoorNumC
import Derived.Deep.RegionHeld3
namespace Go.Proofs.YtjoolpmaehnhpaaDoor
open Go.RowKit Go.Lib

theorem beq_itoa (a b : Int) : (itoa a == itoa b) = (a == b) := by
  by_cases h : a = b
  · subst h; simp
  · have : ¬ itoa a = itoa b := fun h' => h (itoa_inj h')
    rw [beq_eq_false_iff_ne.2 h]; simpa using this

set_option maxHeartbeats 1000000 in
theorem numUnlike_any (a b : Int) (w : World) (ha : I64 a) (hb : I64 b) (hT0 : TabIs Tryd.prog w "internal/strconv.uint64pow10" .u64 pow10Tab) : Calls Tryd.prog 5 #[.int .i64 a, .int .i64 b] w fun e w' => e = .returned (.bool true) ∧ Below w.heap.size w w' := by
  have hT : Tab w := tabBelow_of_tabIs hT0
  have HT := Lib.hid hT
  have HA := Lib.hid ha
  have HB := Lib.hid hb
  have HE := Lib.hid (beq_itoa a b)
  clear hT hT0 ha hb
  go_enter Tryd.func5, Tryd.ntmps5
  go_wp2_with fail
  refine (put_any a _ HA.out HT.out).mono ?_
  rintro e w1 ⟨rfl, hb1⟩
  go_wp2_with fail
  have hT1 := Lib.hid (HT.out.later hb1)
  refine (put_any b _ HB.out hT1.out).mono ?_
  rintro e w2 ⟨rfl, hb2⟩
  have hT2 := Lib.hid (hT1.out.later hb2)
  have he := HE.out
  go_wp2_with fail
  refine (wakes1_any _ hT2.out).mono ?_
  rintro e w3 ⟨rfl, hb3⟩
  have hB := (hb1.trans (hb2.mono hb1.size)).trans (hb3.mono (Nat.le_trans hb1.size hb2.size))
  go_wp2
  go_ret
  exact ⟨rfl, hB⟩
end Go.Proofs.YtjoolpmaehnhpaaDoor
