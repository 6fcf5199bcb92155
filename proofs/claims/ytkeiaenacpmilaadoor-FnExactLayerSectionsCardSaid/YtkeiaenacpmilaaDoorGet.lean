/-
  The value of a key: GetValue of the program and of the specification. Conditions: at most 1048576 bytes in all.
-/
import Derived.Test.YtkeiaenacpmilaaDoorWhere
namespace Go.Proofs.YtkeiaenacpmilaaDoor
open Go.RowKit

/-- the value of a key of a file -/
def getV (ls : List Ln) (s key : ByteArray) : ByteArray := if whereOf ls s key < 0 then ⟨#[]⟩ else ls[(whereOf ls s key).toNat]!.va
/-- a key of a file is there -/
def getB (ls : List Ln) (s key : ByteArray) : Bool := !decide (whereOf ls s key < 0)
theorem get_no {ls : List Ln} {s key : ByteArray} (h : whereOf ls s key < 0) : getV ls s key = ⟨#[]⟩ ∧ getB ls s key = false := by
  unfold getV getB
  rw [if_pos h]
  exact ⟨rfl, by simp [h]⟩
theorem get_yes {ls : List Ln} {s key : ByteArray} {k : Nat} (h : whereOf ls s key = k) (hk : k < ls.length) : getV ls s key = ls[k].va ∧ getB ls s key = true := by
  unfold getV getB
  rw [h, if_neg (by omega), Int.toNat_natCast, get_bang hk]
  exact ⟨rfl, by simp⟩
theorem where_lt (ls : List Ln) (s key : ByteArray) : whereOf ls s key < ls.length ∧ -1 ≤ whereOf ls s key := by
  unfold whereOf
  split
  · exact lastP_lt _ _ _ _
  · omega

theorem ret_get {a b : ByteArray} {p q : Bool} (h : a = b) (h2 : p = q) : Ending.returned (.tuple #[.string a, .bool p]) = .returned (.tuple #[.string b, .bool q]) := by rw [h, h2]

end Go.Proofs.YtkeiaenacpmilaaDoor
