/-
  What the method valid of each form of a line returns; what the program's test of a line returns: the plain test 'vline'. Conditions: parts no longer than an int says.
-/
import Derived.Test.YtkeiaenacpmilaaDoorForm
import Derived.Deep.RegionWith
namespace Go.Proofs.YtkeiaenacpmilaaDoor
open Go.RowKit

theorem Grows.bc {a b : World} (h : Grows a b) : ∀ k o, k < a.heap.size → b.cell? ⟨k, o, none⟩ = a.cell? ⟨k, o, none⟩ := fun k o hk => Below.cell (p := ⟨k, o, none⟩) h hk

theorem vnote_eq (s : ByteArray) : vnote s = (Lib.hasPrefix s.data.toList [35] && (decide (s.size ≤ 40) && allB pr s)) := by
  have h1 : Lib.hasPrefix s.data.toList [35] = (decide (1 ≤ s.size) && decide (s.data.toList.head? = some 35)) := by
    rw [Lib.size_eq]
    unfold Lib.hasPrefix
    cases s.data.toList with
    | nil => rfl
    | cons b t =>
      have : (35 == b) = decide (b = 35) := by rw [Bool.eq_iff_iff, beq_iff_eq, decide_eq_true_iff]; exact eq_comm
      simp [List.isPrefixOf, this]
  unfold vnote
  rw [h1]
  cases allB pr s <;> cases decide (1 ≤ s.size) <;> cases decide (s.size ≤ 40) <;> cases decide (s.data.toList.head? = some 35) <;> rfl

end Go.Proofs.YtkeiaenacpmilaaDoor
