/-
  A file without a section: DropSection of the program and of the specification. Conditions: at most 1048576 bytes in all.
-/
import Derived.Test.YtgjineoiebokhaaDoorCopyF
import Derived.Test.YtgjineoiebokhaaDoorRegM
namespace Go.Proofs.YtgjineoiebokhaaDoor
open Go.RowKit

/-- the lines without a section's, none if it is not there -/
def dropSL (ls : List Ln) (s : ByteArray) : List Ln := if headsOf' ls s = [] then [] else keepL ls (inSec ls s) ls.length
def dropSB (ls : List Ln) (s : ByteArray) : Bool := !(headsOf' ls s).isEmpty
theorem dropSL_le (ls : List Ln) (s : ByteArray) (hn : ls.length ≤ 1048576) : (dropSL ls s).length ≤ 1048576 := by
  unfold dropSL
  split
  · simp
  · exact Nat.le_trans (keepL_le _ _ _) hn
end Go.Proofs.YtgjineoiebokhaaDoor
