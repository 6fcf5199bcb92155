/-
  The notes above a key: NotesOf of the program and of the specification. Conditions: at most 1048576 bytes in all.
-/
import Derived.Test.YtgjineoiebokhaaDoorGrow
namespace Go.Proofs.YtgjineoiebokhaaDoor
open Go.RowKit

/-- how many notes stand right above line k -/
def noteFrom (ls : List Ln) : Nat → Nat
  | 0 => 0
  | k + 1 => if (ls[k]!.k == 1) = true then noteFrom ls k else k + 1
theorem noteFrom_yes {ls : List Ln} {k : Nat} (h : (ls[k]!.k == 1) = true) : noteFrom ls (k + 1) = noteFrom ls k := by
  show (if _ then _ else _) = _
  rw [if_pos h]
theorem noteFrom_no {ls : List Ln} {k : Nat} (h : (ls[k]!.k == 1) = false) : noteFrom ls (k + 1) = k + 1 := by
  show (if _ then _ else _) = _
  rw [if_neg (by rw [h]; simp)]
theorem noteFrom_le (ls : List Ln) (k : Nat) : noteFrom ls k ≤ k := by
  induction k with
  | zero => exact Nat.le_refl _
  | succ k ih =>
    unfold noteFrom
    split <;> omega
/-- the values of the lines from a to b -/
def valsFrom (ls : List Ln) (a b : Nat) : List ByteArray := (List.range (b - a)).map fun i => ls[a + i]!.va
theorem valsFrom_length (ls : List Ln) (a b : Nat) : (valsFrom ls a b).length = b - a := by simp [valsFrom]
theorem valsFrom_succ (ls : List Ln) (a b : Nat) (h : a ≤ b) : valsFrom ls a (b + 1) = valsFrom ls a b ++ [ls[b]!.va] := by
  unfold valsFrom
  rw [show b + 1 - a = (b - a) + 1 from by omega, List.range_succ, List.map_append, List.map_singleton, show a + (b - a) = b from by omega]
/-- the notes above a key of a file -/
def notesOf' (ls : List Ln) (s key : ByteArray) : List ByteArray := if whereOf ls s key < 0 then [] else valsFrom ls (noteFrom ls (whereOf ls s key).toNat) (whereOf ls s key).toNat
theorem notesOf_no {ls : List Ln} {s key : ByteArray} (h : whereOf ls s key < 0) : notesOf' ls s key = [] := by rw [notesOf', if_pos h]
theorem notesOf_yes {ls : List Ln} {s key : ByteArray} {k : Nat} (h : whereOf ls s key = k) : notesOf' ls s key = valsFrom ls (noteFrom ls k) k := by
  rw [notesOf', h, if_neg (by omega), Int.toNat_natCast]
theorem where_lt' (ls : List Ln) (s key : ByteArray) : whereOf ls s key < ls.length ∧ -1 ≤ whereOf ls s key := by
  unfold whereOf
  split
  · exact lastP_lt _ _ _ _
  · omega
theorem notesOf_le (ls : List Ln) (s key : ByteArray) : (notesOf' ls s key).length ≤ ls.length := by
  have h := where_lt' ls s key
  by_cases h0 : whereOf ls s key < 0
  · rw [notesOf_no h0]; exact Nat.zero_le _
  · obtain ⟨k, hk⟩ : ∃ k : Nat, whereOf ls s key = k := ⟨(whereOf ls s key).toNat, by omega⟩
    rw [notesOf_yes hk, valsFrom_length]
    omega

end Go.Proofs.YtgjineoiebokhaaDoor
