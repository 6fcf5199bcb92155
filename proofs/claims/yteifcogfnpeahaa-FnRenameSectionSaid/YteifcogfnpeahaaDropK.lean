/-
  A file without a key: DropKey of the program and of the specification. Conditions: at most 1048576 bytes in all.
-/
import Derived.Test.YteifcogfnpeahaaCut
import Derived.Test.YteifcogfnpeahaaTidyP
namespace Go.Proofs.Yteifcogfnpeahaa
open Go.RowKit

/-- the lines without a key's, none if it is not there -/
def dropKL (ls : List Ln) (s key : ByteArray) : List Ln := if whereOf ls s key < 0 then [] else keepL ls (isPair ls s key) ls.length
theorem dropKL_le (ls : List Ln) (s key : ByteArray) (hn : ls.length ≤ 1048576) : (dropKL ls s key).length ≤ 1048576 := by
  unfold dropKL
  split
  · simp
  · exact Nat.le_trans (keepL_le _ _ _) hn
theorem pairs_none {ls : List Ln} {s key : ByteArray} (h : whereOf ls s key < 0) : pairsOf' ls s key = [] := by
  rw [whereOf_eq] at h
  rcases hg : (pairsOf' ls s key).getLast? with _ | i
  · exact List.getLast?_eq_none_iff.1 hg
  · rw [hg] at h; simp at h; omega
theorem pairs_some {ls : List Ln} {s key : ByteArray} (h : ¬ whereOf ls s key < 0) : vfile ls = true ∧ 0 < (pairsOf' ls s key).length := by
  have hv : vfile ls = true := by
    rcases hb : vfile ls with _ | _
    · rw [whereOf_no s key hb] at h; omega
    · rfl
  refine ⟨hv, ?_⟩
  rcases Nat.eq_zero_or_pos (pairsOf' ls s key).length with h0 | h0
  · rw [whereOf_eq, List.eq_nil_of_length_eq_zero h0] at h
    simp at h
  · exact h0
theorem getB_where (ls : List Ln) (s key : ByteArray) : getB ls s key = !decide (whereOf ls s key < 0) := rfl

end Go.Proofs.Yteifcogfnpeahaa
