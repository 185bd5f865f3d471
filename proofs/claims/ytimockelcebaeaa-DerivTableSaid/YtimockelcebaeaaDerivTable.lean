/-
  The walk of transhiplaw12.DerivTable.
-/
import Derived.Test.YtimockelcebaeaaDWakes
namespace Go.Proofs.Ytimockelcebaeaa.Dv
open Go.RowKit

set_option maxRecDepth 20000 in
set_option maxHeartbeats 2000000 in
theorem derivTable_any (r k : Int) (s : ByteArray) (w : World) : Calls Try.prog 7 #[.int .i64 r, .int .i64 k, .string s] w fun e w' => e = .returned (.bool true) ∧ Below w.heap.size w w' := by
  obtain ⟨R, hR, -⟩ := ruleIs_any s
  have HR := Lib.hid hR
  clear hR
  by_cases h : 60 < s.size
  · have e1 : decide ((60 : Int) < (s.size : Int)) = true := decide_eq_true (by omega)
    go_enter Try.func7, Try.ntmps7
    go_wp2
    all_goals go_ret
    all_goals exact ⟨rfl, Below.refl _ _⟩
  have e1 : decide ((60 : Int) < (s.size : Int)) = false := decide_eq_false (by omega)
  by_cases h28 : 1 ≤ r ∧ r ≤ 28
  · have HW := Lib.hid (ruleIs_word h28)
    have hf : ((wordN r).toList = []) = False := eq_false (fun e => by have h := word_full h28; rw [e, ByteArray.toList_eq] at h; cases h)
    have CW := Lib.hid (fun w => dword_any r w)
    have CRW := Lib.hid (fun w => drefword_any r w)
    clear h28
    go_enter Try.func7, Try.ntmps7
    go_wp2_with fail
    refine (CW.out _).mono ?_
    rintro e w1 ⟨rfl, rfl⟩
    go_wp2_with fail
    refine (dkids_any r _).mono ?_
    rintro e w2 ⟨rfl, rfl⟩
    go_wp2_with fail
    refine (drefkids_any r _).mono ?_
    rintro e w3 ⟨rfl, hb⟩
    have hB := hb
    clear hb
    go_wp2_with fail
    refine (dinner_any r k _).mono ?_
    rintro e w4 ⟨rfl, rfl⟩
    go_wp2_with fail
    refine (refinner_any r k _).mono ?_
    rintro e w5 ⟨rfl, rfl⟩
    go_wp2_with fail
    refine (dequal_any r _).mono ?_
    rintro e w6 ⟨rfl, rfl⟩
    go_wp2_with fail
    refine (refequal_any r _).mono ?_
    rintro e w7 ⟨rfl, rfl⟩
    go_wp2_with fail
    refine (CRW.out _).mono ?_
    rintro e w8 ⟨rfl, hb⟩
    have hB := below_call hB hb hB.size
    clear hb
    go_wp2_with fail
    refine (drule_any s R HR.out _).mono ?_
    rintro e w9 ⟨rfl, rfl⟩
    go_wp2_with fail
    refine (drefrule_any s R HR.out _).mono ?_
    rintro e w10 ⟨rfl, hb⟩
    have hB := below_call hB hb hB.size
    clear hb
    go_wp2_with fail
    refine (drule_any (wordN r) r HW.out _).mono ?_
    rintro e w11 ⟨rfl, rfl⟩
    go_wp2_with fail
    refine (wakes12_any _).mono ?_
    rintro e w12 ⟨rfl, hb⟩
    have hB := below_call hB hb hB.size
    clear hb
    go_wp2
    go_ret
    exact ⟨rfl, hB⟩
  · have CW := Lib.hid (fun w => dword_any r w)
    have CRW := Lib.hid (fun w => drefword_any r w)
    rw [out_word h28] at CW CRW
    clear h28
    go_enter Try.func7, Try.ntmps7
    go_wp2_with fail
    refine (CW.out _).mono ?_
    rintro e w1 ⟨rfl, rfl⟩
    go_wp2_with fail
    refine (dkids_any r _).mono ?_
    rintro e w2 ⟨rfl, rfl⟩
    go_wp2_with fail
    refine (drefkids_any r _).mono ?_
    rintro e w3 ⟨rfl, hb⟩
    have hB := hb
    clear hb
    go_wp2_with fail
    refine (dinner_any r k _).mono ?_
    rintro e w4 ⟨rfl, rfl⟩
    go_wp2_with fail
    refine (refinner_any r k _).mono ?_
    rintro e w5 ⟨rfl, rfl⟩
    go_wp2_with fail
    refine (dequal_any r _).mono ?_
    rintro e w6 ⟨rfl, rfl⟩
    go_wp2_with fail
    refine (refequal_any r _).mono ?_
    rintro e w7 ⟨rfl, rfl⟩
    go_wp2_with fail
    refine (CRW.out _).mono ?_
    rintro e w8 ⟨rfl, hb⟩
    have hB := below_call hB hb hB.size
    clear hb
    go_wp2_with fail
    refine (drule_any s R HR.out _).mono ?_
    rintro e w9 ⟨rfl, rfl⟩
    go_wp2_with fail
    refine (drefrule_any s R HR.out _).mono ?_
    rintro e w10 ⟨rfl, hb⟩
    have hB := below_call hB hb hB.size
    clear hb
    go_wp2_with fail
    refine (wakes12_any _).mono ?_
    rintro e w12 ⟨rfl, hb⟩
    have hB := below_call hB hb hB.size
    clear hb
    go_wp2
    go_ret
    exact ⟨rfl, hB⟩
end Go.Proofs.Ytimockelcebaeaa.Dv
