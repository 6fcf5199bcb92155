/-
  What a valid line of each kind has, and the type tests on the program's forms. No condition.
-/
import Derived.Test.YtdedidcjbocicaaFile
import Derived.Test.YtdedidcjbocicaaHelp
namespace Go.Proofs.Ytdedidcjbocicaa
open Go.RowKit
theorem nul_eq {s : ByteArray} (h : nul s = true) : s = ⟨#[]⟩ := by
  unfold nul at h
  rw [Lib.toList_data] at h
  obtain ⟨⟨d⟩⟩ := s
  have : d = [] := by simpa using h
  rw [this]

theorem ta_0_0 (v : Value) (w : World) : (Instr.typeAssert (.iface 78 v) 64 78 true).run Try.prog w = .ok (.tuple #[v, .bool true]) w := by kernel_rfl
theorem ta_0_1 (v : Value) (w : World) : (Instr.typeAssert (.iface 78 v) 64 60 true).run Try.prog w = .ok (.tuple #[.agg #[.string ⟨#[]⟩, .string ⟨#[]⟩], .bool false]) w := by kernel_rfl
theorem ta_0_2 (v : Value) (w : World) : (Instr.typeAssert (.iface 78 v) 64 46 true).run Try.prog w = .ok (.tuple #[.agg #[.string ⟨#[]⟩, .string ⟨#[]⟩, .string ⟨#[]⟩], .bool false]) w := by kernel_rfl
theorem ta_0_3 (v : Value) (w : World) : (Instr.typeAssert (.iface 78 v) 64 52 true).run Try.prog w = .ok (.tuple #[.agg #[.string ⟨#[]⟩, .string ⟨#[]⟩, .string ⟨#[]⟩, .string ⟨#[]⟩, .string ⟨#[]⟩], .bool false]) w := by kernel_rfl
theorem ta_1_0 (v : Value) (w : World) : (Instr.typeAssert (.iface 60 v) 64 78 true).run Try.prog w = .ok (.tuple #[.agg #[.string ⟨#[]⟩], .bool false]) w := by kernel_rfl
theorem ta_1_1 (v : Value) (w : World) : (Instr.typeAssert (.iface 60 v) 64 60 true).run Try.prog w = .ok (.tuple #[v, .bool true]) w := by kernel_rfl
theorem ta_1_2 (v : Value) (w : World) : (Instr.typeAssert (.iface 60 v) 64 46 true).run Try.prog w = .ok (.tuple #[.agg #[.string ⟨#[]⟩, .string ⟨#[]⟩, .string ⟨#[]⟩], .bool false]) w := by kernel_rfl
theorem ta_1_3 (v : Value) (w : World) : (Instr.typeAssert (.iface 60 v) 64 52 true).run Try.prog w = .ok (.tuple #[.agg #[.string ⟨#[]⟩, .string ⟨#[]⟩, .string ⟨#[]⟩, .string ⟨#[]⟩, .string ⟨#[]⟩], .bool false]) w := by kernel_rfl
theorem ta_2_0 (v : Value) (w : World) : (Instr.typeAssert (.iface 46 v) 64 78 true).run Try.prog w = .ok (.tuple #[.agg #[.string ⟨#[]⟩], .bool false]) w := by kernel_rfl
theorem ta_2_1 (v : Value) (w : World) : (Instr.typeAssert (.iface 46 v) 64 60 true).run Try.prog w = .ok (.tuple #[.agg #[.string ⟨#[]⟩, .string ⟨#[]⟩], .bool false]) w := by kernel_rfl
theorem ta_2_2 (v : Value) (w : World) : (Instr.typeAssert (.iface 46 v) 64 46 true).run Try.prog w = .ok (.tuple #[v, .bool true]) w := by kernel_rfl
theorem ta_2_3 (v : Value) (w : World) : (Instr.typeAssert (.iface 46 v) 64 52 true).run Try.prog w = .ok (.tuple #[.agg #[.string ⟨#[]⟩, .string ⟨#[]⟩, .string ⟨#[]⟩, .string ⟨#[]⟩, .string ⟨#[]⟩], .bool false]) w := by kernel_rfl
theorem ta_3_0 (v : Value) (w : World) : (Instr.typeAssert (.iface 52 v) 64 78 true).run Try.prog w = .ok (.tuple #[.agg #[.string ⟨#[]⟩], .bool false]) w := by kernel_rfl
theorem ta_3_1 (v : Value) (w : World) : (Instr.typeAssert (.iface 52 v) 64 60 true).run Try.prog w = .ok (.tuple #[.agg #[.string ⟨#[]⟩, .string ⟨#[]⟩], .bool false]) w := by kernel_rfl
theorem ta_3_2 (v : Value) (w : World) : (Instr.typeAssert (.iface 52 v) 64 46 true).run Try.prog w = .ok (.tuple #[.agg #[.string ⟨#[]⟩, .string ⟨#[]⟩, .string ⟨#[]⟩], .bool false]) w := by kernel_rfl
theorem ta_3_3 (v : Value) (w : World) : (Instr.typeAssert (.iface 52 v) 64 52 true).run Try.prog w = .ok (.tuple #[v, .bool true]) w := by kernel_rfl

theorem vline_0 {le na se va ta : ByteArray} (h : vline ⟨0, le, na, se, va, ta⟩ = true) : na = ⟨#[]⟩ ∧ se = ⟨#[]⟩ ∧ va = ⟨#[]⟩ ∧ ta = ⟨#[]⟩ := by
  have h : (vspaces le && (nul na && (nul se && (nul va && nul ta)))) = true := h
  simp only [Bool.and_eq_true] at h
  exact ⟨nul_eq h.2.1, nul_eq h.2.2.1, nul_eq h.2.2.2.1, nul_eq h.2.2.2.2⟩
theorem vline_1 {le na se va ta : ByteArray} (h : vline ⟨1, le, na, se, va, ta⟩ = true) : na = ⟨#[]⟩ ∧ se = ⟨#[]⟩ ∧ ta = ⟨#[]⟩ := by
  have h : (vspaces le && (nul na && (nul se && (nul ta && vnote va)))) = true := h
  simp only [Bool.and_eq_true] at h
  exact ⟨nul_eq h.2.1, nul_eq h.2.2.1, nul_eq h.2.2.2.1⟩
theorem vline_2 {le na se va ta : ByteArray} (h : vline ⟨2, le, na, se, va, ta⟩ = true) : se = ⟨#[]⟩ ∧ va = ⟨#[]⟩ := by
  have h : (vspaces le && (vname na && (nul se && (nul va && vspaces ta)))) = true := h
  simp only [Bool.and_eq_true] at h
  exact ⟨nul_eq h.2.2.1, nul_eq h.2.2.2.1⟩
theorem vline_k {l : Ln} (h : vline l = true) : l.k = 0 ∨ l.k = 1 ∨ l.k = 2 ∨ l.k = 3 := by
  by_cases k0 : l.k = 0
  · exact .inl k0
  by_cases k1 : l.k = 1
  · exact .inr (.inl k1)
  by_cases k2 : l.k = 2
  · exact .inr (.inr (.inl k2))
  by_cases k3 : l.k = 3
  · exact .inr (.inr (.inr k3))
  · unfold vline at h
    rw [if_neg k0, if_neg k1, if_neg k2, if_neg k3, Bool.and_false] at h
    cases h

end Go.Proofs.Ytdedidcjbocicaa
