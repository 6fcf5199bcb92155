/-
  MergeLayers of the specification. Conditions: parts of at most 1048576 bytes.
-/
import Derived.Test.YtddecipodofliaaDoorMrgS
namespace Go.Proofs.YtddecipodofliaaDoor
open Go.RowKit

end Go.Proofs.YtddecipodofliaaDoor
