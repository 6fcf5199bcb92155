/-
  What two layers have in common: CommonLayer of the specification. Conditions: parts of at most 1048576 bytes.
-/
import Derived.Test.YtoicohheoddfjaaDoorComE
namespace Go.Proofs.YtoicohheoddfjaaDoor
open Go.RowKit

end Go.Proofs.YtoicohheoddfjaaDoor
