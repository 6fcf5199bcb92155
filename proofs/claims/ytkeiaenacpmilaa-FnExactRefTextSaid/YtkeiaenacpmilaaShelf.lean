/-
  No function of Go's library is called here: nothing is laid.
-/
import Derived.Test.YtkeiaenacpmilaaProg
namespace Go.Proofs.Ytkeiaenacpmilaa
end Go.Proofs.Ytkeiaenacpmilaa
