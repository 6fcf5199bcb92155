/-
  The comparison of two lines. No condition.
-/
import Derived.Test.YtkeiaenacpmilaaDoorLine3
import Derived.Deep.RegionWith
namespace Go.Proofs.YtkeiaenacpmilaaDoor
open Go.RowKit

/-- two lines are the same in every part -/
def Ln.same (a b : Ln) : Bool := (a.k == b.k) && ((a.le.toList == b.le.toList) && ((a.na.toList == b.na.toList) && ((a.se.toList == b.se.toList) && ((a.va.toList == b.va.toList) && (a.ta.toList == b.ta.toList)))))
end Go.Proofs.YtkeiaenacpmilaaDoor
