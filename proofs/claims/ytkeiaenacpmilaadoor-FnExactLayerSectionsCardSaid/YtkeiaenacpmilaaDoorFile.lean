/-
  What the program's test of a file returns, and the law's own helpers: sizes, copies and comparison of files. Conditions: at most 1048576 lines, each part at most 1048576 bytes.
-/
import Derived.Test.YtkeiaenacpmilaaDoorMem
import Derived.Test.YtkeiaenacpmilaaDoorVLine
namespace Go.Proofs.YtkeiaenacpmilaaDoor
open Go.RowKit

end Go.Proofs.YtkeiaenacpmilaaDoor
