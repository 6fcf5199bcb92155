/-
  Files with a note more mean the same. No program; condition: the edit went well.
-/
import Derived.Test.YtgjineoiebokhaaDoorTidyQ
import Derived.Test.YtgjineoiebokhaaDoorLook
import Derived.Test.YtgjineoiebokhaaDoorNoteQ
namespace Go.Proofs.YtgjineoiebokhaaDoor
open Go.RowKit

theorem note_same {ls : List Ln} {s key note : ByteArray} {R : List Ln} (h : NoteQ ls s key note R) : Same R ls := h.same
end Go.Proofs.YtgjineoiebokhaaDoor
