/-
  What the program's test of a line returns: the plain test 'vline'. Conditions: parts no longer than an int says.
-/
import Derived.Test.YtkjoolmhcfajnaaDoorStr
import Derived.Deep.RegionWith
namespace Go.Proofs.YtkjoolmhcfajnaaDoor
open Go.RowKit

theorem same_0 (le na se va ta : ByteArray) : vline ⟨0, le, na, se, va, ta⟩ = (Ln.same ⟨0, le, ⟨#[]⟩, ⟨#[]⟩, ⟨#[]⟩, ⟨#[]⟩⟩ ⟨0, le, na, se, va, ta⟩ && (vspaces le)) := by
  unfold vline Ln.same nul
  simp
  have e : ∀ s : ByteArray, ([] == s.toList) = s.toList.isEmpty := by intro s; cases s.toList <;> rfl
  have e0 : (⟨#[]⟩ : ByteArray).toList = [] := by rw [Lib.toList_data]
  try rw [e0]
  try simp only [e]
  cases vspaces le <;> simp
  try (cases na.toList.isEmpty <;> cases se.toList.isEmpty <;> cases va.toList.isEmpty <;> cases ta.toList.isEmpty <;> simp)

theorem same_1 (le na se va ta : ByteArray) : vline ⟨1, le, na, se, va, ta⟩ = (Ln.same ⟨1, le, ⟨#[]⟩, ⟨#[]⟩, va, ⟨#[]⟩⟩ ⟨1, le, na, se, va, ta⟩ && (vspaces le && vnote va)) := by
  unfold vline Ln.same nul
  simp
  have e : ∀ s : ByteArray, ([] == s.toList) = s.toList.isEmpty := by intro s; cases s.toList <;> rfl
  have e0 : (⟨#[]⟩ : ByteArray).toList = [] := by rw [Lib.toList_data]
  try rw [e0]
  try simp only [e]
  cases vspaces le <;> simp
  try (cases na.toList.isEmpty <;> cases se.toList.isEmpty <;> cases va.toList.isEmpty <;> cases ta.toList.isEmpty <;> simp)

theorem same_2 (le na se va ta : ByteArray) : vline ⟨2, le, na, se, va, ta⟩ = (Ln.same ⟨2, le, na, ⟨#[]⟩, ⟨#[]⟩, ta⟩ ⟨2, le, na, se, va, ta⟩ && (vspaces le && (vname na && vspaces ta))) := by
  unfold vline Ln.same nul
  simp
  have e : ∀ s : ByteArray, ([] == s.toList) = s.toList.isEmpty := by intro s; cases s.toList <;> rfl
  have e0 : (⟨#[]⟩ : ByteArray).toList = [] := by rw [Lib.toList_data]
  try rw [e0]
  try simp only [e]
  cases vspaces le <;> simp
  try (cases na.toList.isEmpty <;> cases se.toList.isEmpty <;> cases va.toList.isEmpty <;> cases ta.toList.isEmpty <;> simp)

theorem same_3 (le na se va ta : ByteArray) : vline ⟨3, le, na, se, va, ta⟩ = (Ln.same ⟨3, le, na, se, va, ta⟩ ⟨3, le, na, se, va, ta⟩ && (vspaces le && (vname na && (vsep se && (vvalue va && (vspaces ta && (!nul va || nul ta))))))) := by
  unfold vline Ln.same nul
  simp

end Go.Proofs.YtkjoolmhcfajnaaDoor
