/-
  Which keys and sections a file tells: plain facts on lists that have each text once. No program; condition: the file is valid where it is said.
-/
import Derived.Test.YteifcogfnpeahaaTidyP
namespace Go.Proofs.Yteifcogfnpeahaa
open Go.RowKit

/-! ### what is in a list of texts that grows once each -/
theorem hasT_mem {xs : List ByteArray} {s : ByteArray} : hasT xs s = true ↔ s ∈ xs := by
  unfold hasT
  rw [List.any_eq_true]
  constructor
  · rintro ⟨x, hx, h⟩
    have : x = s := toList_inj (by simpa using h)
    subst this
    exact hx
  · intro h
    exact ⟨s, h, by simp⟩
theorem addT_iff {xs : List ByteArray} {s x : ByteArray} : x ∈ addT xs s ↔ x ∈ xs ∨ x = s := by
  unfold addT
  split
  · rename_i h
    have := hasT_mem.1 h
    constructor
    · exact .inl
    · rintro (h | rfl)
      · exact h
      · exact this
  · rw [List.mem_append, List.mem_singleton]
theorem addT_nodup {xs : List ByteArray} {s : ByteArray} (h : xs.Nodup) : (addT xs s).Nodup := by
  unfold addT
  split
  · exact h
  · rename_i h2
    have hs : s ∉ xs := fun h3 => h2 (hasT_mem.2 h3)
    rw [List.nodup_append]
    refine ⟨h, by simp, ?_⟩
    intro a ha b hb e
    rw [List.mem_singleton] at hb
    subst hb; subst e
    exact hs ha
theorem keysTo_nodup (ls : List Ln) (s : ByteArray) : ∀ k, (keysTo ls s k).Nodup := by
  intro k
  induction k with
  | zero => exact List.nodup_nil
  | succ k ih =>
    by_cases h : (ls[k]!.k == 3 && inSec ls s k) = true
    · rw [keysTo_yes h]; exact addT_nodup ih
    · rw [keysTo_no (by simpa using h)]; exact ih
theorem secsTo_nodup (ls : List Ln) : ∀ k, (secsTo ls k).Nodup := by
  intro k
  induction k with
  | zero => exact List.nodup_nil
  | succ k ih =>
    by_cases h : secLine ls k = true
    · rw [secsTo_yes h]; exact addT_nodup ih
    · rw [secsTo_no (by simpa using h)]; exact ih
theorem keysTo_in (ls : List Ln) (s x : ByteArray) : ∀ k, 0 ≤ lastP ls s x k → x ∈ keysTo ls s k := by
  intro k
  induction k with
  | zero => intro h; simp [lastP] at h
  | succ k ih =>
    intro h
    by_cases hp : isPair ls s x k = true
    · unfold isPair isKey at hp
      rw [Bool.and_eq_true, Bool.and_eq_true] at hp
      rw [keysTo_yes (by rw [hp.1.1, hp.2]; rfl)]
      exact addT_iff.2 (.inr (toList_inj (eq_of_beq hp.1.2).symm))
    · rw [lastP_no (by simpa using hp)] at h
      by_cases hk : (ls[k]!.k == 3 && inSec ls s k) = true
      · rw [keysTo_yes hk]; exact addT_iff.2 (.inl (ih h))
      · rw [keysTo_no (by simpa using hk)]; exact ih h
theorem secsTo_in (ls : List Ln) (s x : ByteArray) : ∀ k, 0 ≤ lastP ls s x k → s ∈ secsTo ls k := by
  intro k
  induction k with
  | zero => intro h; simp [lastP] at h
  | succ k ih =>
    intro h
    by_cases hp : isPair ls s x k = true
    · unfold isPair isKey at hp
      rw [Bool.and_eq_true, Bool.and_eq_true] at hp
      rw [secsTo_yes (by unfold secLine; rw [hp.1.1, Bool.or_true])]
      have h2 := hp.2
      unfold inSec at h2
      exact addT_iff.2 (.inr (toList_inj (eq_of_beq h2).symm))
    · rw [lastP_no (by simpa using hp)] at h
      by_cases hk : secLine ls k = true
      · rw [secsTo_yes hk]; exact addT_iff.2 (.inl (ih h))
      · rw [secsTo_no (by simpa using hk)]; exact ih h
/-- a key is there exactly if it is told -/
theorem getB_iff {ls : List Ln} (hv : vfile ls = true) (s k : ByteArray) : getB ls s k = true ↔ s ∈ secsOf' ls ∧ k ∈ keysOf' ls s := by
  unfold secsOf' keysOf'
  rw [if_pos hv, if_pos hv, show getB ls s k = !decide (whereOf ls s k < 0) from rfl, whereOf_yes s k hv]
  constructor
  · intro h
    have h0 : 0 ≤ lastP ls s k ls.length := by simp at h; exact h
    exact ⟨secsTo_in ls s k _ h0, keysTo_in ls s k _ h0⟩
  · rintro ⟨_, h⟩
    have := keysTo_last ls s _ k h
    simp
    exact this

end Go.Proofs.Yteifcogfnpeahaa
