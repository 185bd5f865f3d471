/-
  The walk of transhiplaw04.TermTable.
-/
import Derived.Test.YtpaaleaomnhocaaWakes4
namespace Go.Proofs.Ytpaaleaomnhocaa
open Go.RowKit

set_option maxHeartbeats 1000000 in
theorem termTable_any (k s i : Int) (w : World) : Calls Try.prog 4 #[.int .i64 k, .int .i64 s, .int .i64 i] w fun e w' => e = .returned (.bool true) ∧ Below w.heap.size w w' := by
  go_enter Try.func4, Try.ntmps4
  go_wp2_with (first | (go_at_call 46; refine (kids_any _ _ _).mono ?_; rintro e w' ⟨rfl, rfl⟩) | fail)
  refine (refkids_any _ _ _).mono ?_
  rintro e w1 ⟨rfl, hb1⟩
  go_wp2_with (first | (go_at_call 48; refine (binds_any _ _ _).mono ?_; rintro e w' ⟨rfl, rfl⟩) | (go_at_call 49; refine (refbinds_any _ _ _).mono ?_; rintro e w' ⟨rfl, rfl⟩) | fail)
  refine (wakes4_any _).mono ?_
  rintro e w2 ⟨rfl, hb2⟩
  go_wp2
  go_ret
  exact ⟨rfl, hb1.trans (hb2.mono hb1.size)⟩
end Go.Proofs.Ytpaaleaomnhocaa
