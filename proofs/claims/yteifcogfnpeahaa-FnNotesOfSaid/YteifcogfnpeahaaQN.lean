/-
  Plain facts on the notes above a key. No program, no condition.
-/
import Derived.Test.YteifcogfnpeahaaQP
import Derived.Test.YteifcogfnpeahaaNotes
namespace Go.Proofs.Yteifcogfnpeahaa
open Go.RowKit

/-! ### notes stand above -/
theorem noteFrom_notes (ls : List Ln) : ∀ k i, noteFrom ls k ≤ i → i < k → ls[i]!.k = 1 := by
  intro k
  induction k with
  | zero => intro i _ h; omega
  | succ k ih =>
    intro i h1 h2
    by_cases h : (ls[k]!.k == 1) = true
    · rw [noteFrom_yes h] at h1
      by_cases e : i = k
      · subst e; exact eq_of_beq h
      · exact ih i h1 (by omega)
    · rw [noteFrom_no (by simpa using h)] at h1; omega
theorem noteFrom_above (ls : List Ln) : ∀ k m, noteFrom ls k = m + 1 → ls[m]!.k ≠ 1 := by
  intro k
  induction k with
  | zero => intro m h; simp [noteFrom] at h
  | succ k ih =>
    intro m h
    by_cases h1 : (ls[k]!.k == 1) = true
    · rw [noteFrom_yes h1] at h; exact ih m h
    · rw [noteFrom_no (by simpa using h1)] at h
      have : m = k := by omega
      subst this
      simpa using h1
theorem valsFrom_get (ls : List Ln) (a b i : Nat) (h : i < (valsFrom ls a b).length) : (valsFrom ls a b)[i] = ls[a + i]!.va := by
  simp [valsFrom]
end Go.Proofs.Yteifcogfnpeahaa
