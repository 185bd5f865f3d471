/-
  lift.each: a term's copy, its variables moved as a function says.
-/
import Derived.Test.YtmhmengbhdaodaaInts
import Derived.Test.YtmhmengbhdaodaaDesk
import Derived.Deep.RegionHeld3
namespace Go.Proofs.Ytmhmengbhdaodaa
open Go.RowKit

end Go.Proofs.Ytmhmengbhdaodaa
