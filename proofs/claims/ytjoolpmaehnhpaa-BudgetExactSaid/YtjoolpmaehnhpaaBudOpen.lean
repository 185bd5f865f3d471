/-
  Layer 3's rows: what they share.
-/
import Derived.Test.YtjoolpmaehnhpaaRows
import Derived.ProofKit
import Derived.OpenShut
import Derived.Carry
import Derived.Laws.Cover2
namespace Go.Proofs.Ytjoolpmaehnhpaa
open Go.RowKit Go.ChangeShapes Go.WideShapes Go.ChangeAt
theorem own : ownKnob Try.prog.godebug = none := by kernel_rfl
theorem laidOut : laidOutB Try.prog = true := by kernel_rfl
end Go.Proofs.Ytjoolpmaehnhpaa
