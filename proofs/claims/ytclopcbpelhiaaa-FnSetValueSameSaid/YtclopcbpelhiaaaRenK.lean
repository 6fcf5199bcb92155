/-
  Files with other names: RenameKey and RenameSection of the program and of the specification. Conditions: at most 1048576 bytes in all.
-/
import Derived.Test.YtclopcbpelhiaaaCopyF
namespace Go.Proofs.Ytclopcbpelhiaaa
open Go.RowKit

/-- the renamed lines: none if there is nothing to be renamed, or if the name is there -/
def renR (ls : List Ln) (L T : List Nat) (P : Nat → Bool) (to : ByteArray) : List Ln := if L = [] then [] else if T = [] then chkL (renS ls P to) else []
def renRB (ls : List Ln) (L T : List Nat) (P : Nat → Bool) (to : ByteArray) : Bool := if L = [] then false else if T = [] then vfile (renS ls P to) else false
section
variable {ls : List Ln} {L T : List Nat} {P : Nat → Bool} {to : ByteArray}
theorem renR_1 (h : L = []) : renR ls L T P to = [] := by unfold renR; rw [if_pos h]
theorem renRB_1 (h : L = []) : renRB ls L T P to = false := by unfold renRB; rw [if_pos h]
theorem renR_2 (h : ¬ L = []) (h2 : ¬ T = []) : renR ls L T P to = [] := by unfold renR; rw [if_neg h, if_neg h2]
theorem renRB_2 (h : ¬ L = []) (h2 : ¬ T = []) : renRB ls L T P to = false := by unfold renRB; rw [if_neg h, if_neg h2]
theorem renR_3 (h : ¬ L = []) (h2 : T = []) : renR ls L T P to = chkL (renS ls P to) := by unfold renR; rw [if_neg h, if_pos h2]
theorem renRB_3 (h : ¬ L = []) (h2 : T = []) : renRB ls L T P to = vfile (renS ls P to) := by unfold renRB; rw [if_neg h, if_pos h2]
theorem renR_le : (renR ls L T P to).length ≤ ls.length := by
  unfold renR
  split
  · simp
  · split
    · exact Nat.le_trans (chkL_le _) (by rw [renS_length]; exact Nat.le_refl _)
    · simp
end
theorem pairs_valid {ls : List Ln} {s key : ByteArray} (h : ¬ pairsOf' ls s key = []) : vfile ls = true := by
  rcases hv : vfile ls with _ | _
  · exact absurd (by unfold pairsOf'; rw [if_neg (by rw [hv]; simp)]) h
  · rfl
theorem where_pairs (ls : List Ln) (s key : ByteArray) : whereOf ls s key < 0 ↔ pairsOf' ls s key = [] := by
  refine ⟨pairs_none, fun h => ?_⟩
  rcases Int.lt_or_le (whereOf ls s key) 0 with h9 | h9
  · exact h9
  · have h8 := (pairs_some (show ¬ whereOf ls s key < 0 by omega)).2
    rw [h] at h8
    simp at h8
theorem filter_contains {n : Nat} (P : Nat → Bool) {i : Nat} (hi : i < n) : ((List.range n).filter P).contains i = P i := by
  rw [Bool.eq_iff_iff]
  simp [hi]
theorem renS_fits {ls : List Ln} {S : Nat → Bool} {to : ByteArray} (hf : AllFit ls) (hto : to.size ≤ 1048576) : AllFit (renS ls S to) := by
  refine ⟨by rw [renS_length]; exact hf.1, fun i h => ?_⟩
  have hi : i < ls.length := by rw [renS_length] at h; exact h
  rw [renS_get ls S to i hi]
  have h2 := hf.2 i hi
  split
  · exact ⟨h2.1, hto, h2.2.2⟩
  · exact h2
def renKL (ls : List Ln) (s key to : ByteArray) : List Ln := renR ls (pairsOf' ls s key) (pairsOf' ls s to) (isPair ls s key) to
def renKB (ls : List Ln) (s key to : ByteArray) : Bool := renRB ls (pairsOf' ls s key) (pairsOf' ls s to) (isPair ls s key) to

end Go.Proofs.Ytclopcbpelhiaaa
