/-
  What two layers have in common: CommonLayer of the specification. Conditions: parts of at most 1048576 bytes.
-/
import Derived.Test.YtkjoolmhcfajnaaDoorComE
namespace Go.Proofs.YtkjoolmhcfajnaaDoor
open Go.RowKit

end Go.Proofs.YtkjoolmhcfajnaaDoor
