/-
  The sections of a file: SectionsOf of the program and of the specification. Conditions: at most 1048576 bytes in all.
-/
import Derived.Test.YtkeiaenacpmilaaDoorKeys
import Derived.Test.YtkeiaenacpmilaaDoorTa
namespace Go.Proofs.YtkeiaenacpmilaaDoor
open Go.RowKit

/-- line k is of those that begin or fill a section -/
def secLine (ls : List Ln) (k : Nat) : Bool := ls[k]!.k == 2 || ls[k]!.k == 3
/-- the sections among the first k lines -/
def secsTo (ls : List Ln) : Nat → List ByteArray
  | 0 => []
  | k + 1 => if secLine ls k = true then addT (secsTo ls k) (nowAt ls (k + 1)) else secsTo ls k
theorem secsTo_yes {ls : List Ln} {k : Nat} (h : secLine ls k = true) : secsTo ls (k + 1) = addT (secsTo ls k) (nowAt ls (k + 1)) := by
  show (if _ then _ else _) = _
  rw [if_pos h]
theorem secsTo_no {ls : List Ln} {k : Nat} (h : secLine ls k = false) : secsTo ls (k + 1) = secsTo ls k := by
  show (if _ then _ else _) = _
  rw [if_neg (by rw [h]; simp)]
theorem secsTo_le (ls : List Ln) (k : Nat) : (secsTo ls k).length ≤ k := by
  induction k with
  | zero => exact Nat.le_refl _
  | succ k ih =>
    by_cases h : secLine ls k = true
    · rw [secsTo_yes h]
      have := addT_le (secsTo ls k) (nowAt ls (k + 1))
      omega
    · rw [secsTo_no (by simpa using h)]; omega
/-- the sections of a file, none if it is not valid -/
def secsOf' (ls : List Ln) : List ByteArray := if vfile ls = true then secsTo ls ls.length else []
theorem secsOf_le (ls : List Ln) : (secsOf' ls).length ≤ ls.length := by
  unfold secsOf'
  split
  · exact secsTo_le _ _
  · exact Nat.zero_le _
theorem vfile_line {ls : List Ln} (hv : vfile ls = true) : ∀ i (h : i < ls.length), vline ls[i] = true := by
  have h1 : vlines ls = true := by
    unfold vfile at hv
    rw [Bool.and_eq_true] at hv
    exact hv.1
  unfold vlines at h1
  rw [List.all_eq_true] at h1
  exact fun i hi => h1 _ (List.getElem_mem hi)

end Go.Proofs.YtkeiaenacpmilaaDoor
