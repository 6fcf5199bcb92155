/-
  The arguments that the drawn laws of files generate. Conditions: none but that the bytes lie in memory.
-/
import Derived.Test.YtgjineoiebokhaaDoorRdr
namespace Go.Proofs.YtgjineoiebokhaaDoor
open Go.RowKit

end Go.Proofs.YtgjineoiebokhaaDoor
