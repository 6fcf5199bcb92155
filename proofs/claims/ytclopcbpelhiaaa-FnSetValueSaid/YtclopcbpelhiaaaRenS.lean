/-
  Files whose sections have other names: RenameSection of the program and of the specification. Conditions: at most 1048576 bytes in all.
-/
import Derived.Test.YtclopcbpelhiaaaRenK
namespace Go.Proofs.Ytclopcbpelhiaaa
open Go.RowKit

def renSL (ls : List Ln) (s to : ByteArray) : List Ln := renR ls (headsOf' ls s) (headsOf' ls to) (headP ls s) to
def renSB (ls : List Ln) (s to : ByteArray) : Bool := renRB ls (headsOf' ls s) (headsOf' ls to) (headP ls s) to

end Go.Proofs.Ytclopcbpelhiaaa
