/-
  Layer 3's rows: what they share.
-/
import Derived.Test.YtjoolpmaehnhpaaRows
import Derived.ProofKit
import Derived.OpenShut
import Derived.Carry
import Derived.Laws.Cover2
namespace Go.Proofs.Ytjoolpmaehnhpaa
theorem own : ownKnob Try.prog.godebug = none := by kernel_rfl
end Go.Proofs.Ytjoolpmaehnhpaa
