/-
  What the tests of texts return: spaces, printable, indexOf, validValue of the specification; fewSpaces, printable, validSep, ValidValue of the program. Conditions: texts shorter than 4294967281 bytes.
-/
import Derived.Test.YtkeiaenacpmilaaProg
import Derived.Test.YtkeiaenacpmilaaPure
import Derived.Test.YtkeiaenacpmilaaShelf
import Derived.Test.YtkeiaenacpmilaaName
import Derived.WalkKit
import Derived.WalkSpells
import Derived.WalkLawsBesides
import Derived.Deep.QuietTactic
import Derived.BigQuiet
namespace Go.Proofs.Ytkeiaenacpmilaa
open Go.RowKit

theorem fewSpaces_pure (s : ByteArray) : ((⟨(Lib.trimB s.data.toList 32).toArray⟩ : ByteArray).toList = [] ↔ allB sp s = true) := by
  rw [Lib.toList_data]
  show (Lib.trimB s.data.toList 32).toArray.toList = [] ↔ _
  rw [List.toList_toArray]
  exact trimB_nil _

/-- a draw more or none -/
theorem below_or {w w' : World} (h : w' = w ∨ w' = w.drew) : Grows w w' := by
  rcases h with rfl | rfl
  · exact Below.refl _ _
  · exact (Below.refl _ _).drew

/-- the last byte of a text -/
theorem getLast_eq (s : ByteArray) (h : 0 < s.size) : s.data.toList.getLast? = some (s[s.size - 1]'(by omega)) := by
  rw [List.getLast?_eq_getElem?, ← Lib.size_eq]
  exact Lib.data_getElem? s _ (by omega)
theorem head_eq (s : ByteArray) (h : 0 < s.size) : s.data.toList.head? = some (s[0]'h) := by
  rw [List.head?_eq_getElem?]
  exact Lib.data_getElem? s _ (by omega)
theorem edge_eq (s : ByteArray) (h : 0 < s.size) : edge s.data.toList = (!sp (s[0]'h) && !sp (s[s.size - 1]'(by omega))) := by
  have h32 : ∀ b : UInt8, decide (some b ≠ some (32 : UInt8)) = !sp b := by
    intro b
    rw [← eq32, Bool.eq_iff_iff, decide_eq_true_iff]
    simp
  unfold edge
  rw [head_eq s h, getLast_eq s h, h32, h32]
theorem edge_nil (s : ByteArray) (h : s.size = 0) : edge s.data.toList = true := by
  have : s.data.toList = [] := List.eq_nil_of_length_eq_zero (by rw [← Lib.size_eq]; exact h)
  rw [this]; rfl

theorem ne32 (b : UInt8) : ((b.toNat : Int) != 32) = !sp b := by
  unfold sp
  rw [Bool.eq_iff_iff]
  simp
  omega

theorem trim_self (s : ByteArray) : ((⟨(Lib.trimB s.data.toList 32).toArray⟩ : ByteArray).toList == s.toList) = edge s.data.toList := by
  rw [Lib.toList_data, Lib.toList_data]
  show ((Lib.trimB s.data.toList 32).toArray.toList == _) = _
  rw [List.toList_toArray, Bool.eq_iff_iff, beq_iff_eq]
  exact trimB_self _

/-- the place of the first byte '=', -1 if there is none -/
def eqIx (s : ByteArray) : Int := if eqAt s.data.toList < s.size then (eqAt s.data.toList : Int) else -1

theorem eqIx_yes {s : ByteArray} (h : eqAt s.data.toList < s.size) : eqIx s = eqAt s.data.toList := by rw [eqIx, if_pos h]
theorem eqIx_no {s : ByteArray} (h : ¬ eqAt s.data.toList < s.size) : eqIx s = -1 := by rw [eqIx, if_neg h]
theorem eqIx_index (s : ByteArray) : Lib.indexByte s.data.toList 61 = eqIx s := by rw [eqAt_index, eqIx, Lib.size_eq]
theorem eqIx_one {s : ByteArray} (h : s.toList = [61]) : eqIx s = 0 := by
  rw [← eqIx_index, ← Lib.toList_data, h]; rfl

theorem below_drewN {B : Nat} {a w : World} (h : Below B a w) (n : Nat) : Below B a (w.drewN n) := ⟨h.os, h.tape, h.output, h.size, h.block⟩
theorem vsep_yes {s : ByteArray} {k : Nat} (hk : k < s.size) (he : eqAt s.data.toList = k) : vsep s = (vspaces (s.extract 0 k) && vspaces (s.extract (k + 1) s.size)) := by
  unfold vsep
  rw [he, ← lspaces_eq, ← lspaces_eq, Lib.extract_data, Lib.extract_to_end]
  simp [hk]
theorem vsep_no {s : ByteArray} (he : ¬ eqAt s.data.toList < s.size) : vsep s = false := by
  unfold vsep
  simp [he]
theorem extract_le (s : ByteArray) (a b : Nat) : (s.extract a b).size ≤ s.size := by
  rw [ByteArray.size_extract]; omega

end Go.Proofs.Ytkeiaenacpmilaa
