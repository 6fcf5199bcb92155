/-
  Files with a note more mean the same. No program; condition: the edit went well.
-/
import Derived.Test.YtclopcbpelhiaaaTidyQ
import Derived.Test.YtclopcbpelhiaaaLook
import Derived.Test.YtclopcbpelhiaaaNoteQ
namespace Go.Proofs.Ytclopcbpelhiaaa
open Go.RowKit

theorem note_same {ls : List Ln} {s key note : ByteArray} {R : List Ln} (h : NoteQ ls s key note R) : Same R ls := h.same
end Go.Proofs.Ytclopcbpelhiaaa
