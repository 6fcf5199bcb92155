/-
  What a valid line of each kind has, and the type tests on the program's forms. No condition.
-/
import Derived.Test.YtkeiaenacpmilaaDoorFile
import Derived.Test.YtkeiaenacpmilaaDoorHelp
namespace Go.Proofs.YtkeiaenacpmilaaDoor
open Go.RowKit
theorem nul_eq {s : ByteArray} (h : nul s = true) : s = ⟨#[]⟩ := by
  unfold nul at h
  rw [Lib.toList_data] at h
  obtain ⟨⟨d⟩⟩ := s
  have : d = [] := by simpa using h
  rw [this]

theorem vline_0 {le na se va ta : ByteArray} (h : vline ⟨0, le, na, se, va, ta⟩ = true) : na = ⟨#[]⟩ ∧ se = ⟨#[]⟩ ∧ va = ⟨#[]⟩ ∧ ta = ⟨#[]⟩ := by
  have h : (vspaces le && (nul na && (nul se && (nul va && nul ta)))) = true := h
  simp only [Bool.and_eq_true] at h
  exact ⟨nul_eq h.2.1, nul_eq h.2.2.1, nul_eq h.2.2.2.1, nul_eq h.2.2.2.2⟩
theorem vline_1 {le na se va ta : ByteArray} (h : vline ⟨1, le, na, se, va, ta⟩ = true) : na = ⟨#[]⟩ ∧ se = ⟨#[]⟩ ∧ ta = ⟨#[]⟩ := by
  have h : (vspaces le && (nul na && (nul se && (nul ta && vnote va)))) = true := h
  simp only [Bool.and_eq_true] at h
  exact ⟨nul_eq h.2.1, nul_eq h.2.2.1, nul_eq h.2.2.2.1⟩
theorem vline_2 {le na se va ta : ByteArray} (h : vline ⟨2, le, na, se, va, ta⟩ = true) : se = ⟨#[]⟩ ∧ va = ⟨#[]⟩ := by
  have h : (vspaces le && (vname na && (nul se && (nul va && vspaces ta)))) = true := h
  simp only [Bool.and_eq_true] at h
  exact ⟨nul_eq h.2.2.1, nul_eq h.2.2.2.1⟩
theorem vline_k {l : Ln} (h : vline l = true) : l.k = 0 ∨ l.k = 1 ∨ l.k = 2 ∨ l.k = 3 := by
  by_cases k0 : l.k = 0
  · exact .inl k0
  by_cases k1 : l.k = 1
  · exact .inr (.inl k1)
  by_cases k2 : l.k = 2
  · exact .inr (.inr (.inl k2))
  by_cases k3 : l.k = 3
  · exact .inr (.inr (.inr k3))
  · unfold vline at h
    rw [if_neg k0, if_neg k1, if_neg k2, if_neg k3, Bool.and_false] at h
    cases h

end Go.Proofs.YtkeiaenacpmilaaDoor
