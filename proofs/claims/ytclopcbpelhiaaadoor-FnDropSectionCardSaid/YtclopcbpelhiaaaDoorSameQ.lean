/-
  Files with a note more mean the same. No program; condition: the edit went well.
-/
import Derived.Test.YtclopcbpelhiaaaDoorTidyQ
import Derived.Test.YtclopcbpelhiaaaDoorLook
import Derived.Test.YtclopcbpelhiaaaDoorNoteQ
namespace Go.Proofs.YtclopcbpelhiaaaDoor
open Go.RowKit

theorem note_same {ls : List Ln} {s key note : ByteArray} {R : List Ln} (h : NoteQ ls s key note R) : Same R ls := h.same
end Go.Proofs.YtclopcbpelhiaaaDoor
