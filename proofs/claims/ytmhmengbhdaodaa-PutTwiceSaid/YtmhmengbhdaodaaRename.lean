/-
  lift.Rename.
-/
import Derived.Test.YtmhmengbhdaodaaEachR
import Derived.Test.YtmhmengbhdaodaaEnds
import Derived.Test.YtmhmengbhdaodaaTop
namespace Go.Proofs.Ytmhmengbhdaodaa
open Go.RowKit

end Go.Proofs.Ytmhmengbhdaodaa
