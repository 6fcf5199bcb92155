/-
  What the program's test of a line returns: the plain test 'vline'. Conditions: parts no longer than an int says.
-/
import Derived.Test.YtkeiaenacpmilaaDoorVL0
import Derived.Test.YtkeiaenacpmilaaDoorVL1
import Derived.Test.YtkeiaenacpmilaaDoorVL2
import Derived.Test.YtkeiaenacpmilaaDoorVL3
import Derived.Deep.RegionWith
namespace Go.Proofs.YtkeiaenacpmilaaDoor
open Go.RowKit

end Go.Proofs.YtkeiaenacpmilaaDoor
