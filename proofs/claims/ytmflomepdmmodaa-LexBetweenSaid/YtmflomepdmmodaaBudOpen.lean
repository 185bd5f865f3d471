/-
  Layer 3's rows: what they share.
-/
import Derived.Test.YtmflomepdmmodaaRows
import Derived.ProofKit
import Derived.OpenShut
import Derived.Carry
import Derived.Laws.Cover2
namespace Go.Proofs.Ytmflomepdmmodaa
open Go.RowKit Go.ChangeShapes Go.WideShapes Go.ChangeAt
theorem own : ownKnob Try.prog.godebug = none := by kernel_rfl
theorem laidOut : laidOutB Try.prog = true := by kernel_rfl
end Go.Proofs.Ytmflomepdmmodaa
