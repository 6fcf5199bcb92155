/-
  The pairs of a key and the line of a key: pairsOf and WhereIs of the program; GetValue of both. Conditions: at most 1048576 bytes in all.
-/
import Derived.Test.YtkeiaenacpmilaaDoorPair
namespace Go.Proofs.YtkeiaenacpmilaaDoor
open Go.RowKit

/-- the lines of a section of a file, none if it is not valid -/
def secOf (ls : List Ln) (s : ByteArray) : List Nat := if vfile ls = true then secTo ls s ls.length else []
/-- the pairs of a key of a file, none if it is not valid -/
def pairsOf' (ls : List Ln) (s key : ByteArray) : List Nat := if vfile ls = true then pairsTo ls s key ls.length else []
theorem pairsOf_eq (ls : List Ln) (s key : ByteArray) : (secOf ls s).filter (isKey ls key) = pairsOf' ls s key := by
  unfold secOf pairsOf'
  split
  · exact pairsTo_eq _ _ _ _
  · rfl
theorem secOf_lt {ls : List Ln} {s : ByteArray} {i : Nat} (h : i ∈ secOf ls s) : i < ls.length := by
  unfold secOf at h
  split at h
  · exact secTo_lt h
  · cases h
theorem secOf_le (ls : List Ln) (s : ByteArray) : (secOf ls s).length ≤ ls.length := by
  unfold secOf
  split
  · exact secTo_le _ _ _
  · exact Nat.zero_le _
theorem whereOf_eq (ls : List Ln) (s key : ByteArray) : whereOf ls s key = match (pairsOf' ls s key).getLast? with | some i => (i : Int) | none => -1 := by
  unfold whereOf pairsOf'
  by_cases h : vfile ls = true
  · rw [if_pos h, if_pos h]; exact lastP_pairs _ _ _ _
  · rw [if_neg h, if_neg h]; rfl

end Go.Proofs.YtkeiaenacpmilaaDoor
