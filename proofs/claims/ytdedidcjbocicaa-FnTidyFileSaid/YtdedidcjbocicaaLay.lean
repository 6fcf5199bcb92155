/-
  The layer of a file: LayerOf of the program. Conditions: at most 1048576 bytes in all.
-/
import Derived.Test.YtdedidcjbocicaaLayP
namespace Go.Proofs.Ytdedidcjbocicaa
open Go.RowKit

end Go.Proofs.Ytdedidcjbocicaa
