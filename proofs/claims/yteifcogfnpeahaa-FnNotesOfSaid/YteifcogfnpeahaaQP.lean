/-
  Plain facts on files that the promises of the first chapter turn on: the line of a key is a pair, keys and sections are told once. No program; conditions: the file is valid where it is said.
-/
import Derived.Test.YteifcogfnpeahaaTold
namespace Go.Proofs.Yteifcogfnpeahaa
open Go.RowKit

theorem lastP_pair (ls : List Ln) (s key : ByteArray) : ∀ (k i : Nat), lastP ls s key k = i → i < k ∧ isPair ls s key i = true := by
  intro k
  induction k with
  | zero => intro i h; simp only [lastP] at h; omega
  | succ k ih =>
    intro i h
    by_cases hp : isPair ls s key k = true
    · rw [lastP_yes hp] at h
      have : i = k := by omega
      subst this
      exact ⟨by omega, hp⟩
    · rw [lastP_no (by simpa using hp)] at h
      have := ih i h
      exact ⟨by omega, this.2⟩
theorem where_pair {ls : List Ln} {s key : ByteArray} {i : Nat} (h : whereOf ls s key = i) : i < ls.length ∧ isPair ls s key i = true ∧ vfile ls = true := by
  unfold whereOf at h
  by_cases hv : vfile ls = true
  · rw [if_pos hv] at h
    have := lastP_pair ls s key _ i h
    exact ⟨this.1, this.2, hv⟩
  · rw [if_neg hv] at h; omega
/-- the line of a key is a pair of it -/
theorem where_line {ls : List Ln} {s key : ByteArray} {i : Nat} (h : whereOf ls s key = i) (hi : i < ls.length) : ls[i].k = 3 ∧ ls[i].na = key := by
  have h2 := (where_pair h).2.1
  unfold isPair isKey at h2
  rw [Bool.and_eq_true, Bool.and_eq_true, get_bang hi] at h2
  exact ⟨eq_of_beq h2.1.1, toList_inj (eq_of_beq h2.1.2)⟩

theorem keys_has {ls : List Ln} (hv : vfile ls = true) (s k : ByteArray) : hasT (keysOf' ls s) k = getB ls s k := by
  rw [Bool.eq_iff_iff, hasT_mem, getB_iff hv]
  constructor
  · intro h
    refine ⟨?_, h⟩
    unfold keysOf' at h
    rw [if_pos hv] at h
    unfold secsOf'
    rw [if_pos hv]
    exact secsTo_in ls s k _ (keysTo_last ls s _ k h)
  · exact fun h => h.2
theorem keys_nodup (ls : List Ln) (s : ByteArray) : (keysOf' ls s).Nodup := by
  unfold keysOf'
  split
  · exact keysTo_nodup _ _ _
  · exact List.nodup_nil
theorem secs_nodup (ls : List Ln) : (secsOf' ls).Nodup := by
  unfold secsOf'
  split
  · exact secsTo_nodup _ _
  · exact List.nodup_nil
/-- keys are of sections -/
theorem keys_sec {ls : List Ln} {s : ByteArray} (h : keysOf' ls s ≠ []) : hasT (secsOf' ls) s = true := by
  have hv : vfile ls = true := by
    rcases hv : vfile ls with _ | _
    · exact absurd (by unfold keysOf'; rw [if_neg (by rw [hv]; simp)]) h
    · rfl
  obtain ⟨k, t, hk⟩ := List.exists_cons_of_ne_nil h
  have := keys_has hv s k
  have h2 : hasT (keysOf' ls s) k = true := hasT_mem.2 (by rw [hk]; simp)
  rw [h2] at this
  exact hasT_mem.2 ((getB_iff hv s k).1 this.symm).1

/-! ### sections are names but for the first one -/
theorem vline_head {l : Ln} (h : vline l = true) (h2 : l.k = 2) : vname l.na = true := by
  unfold vline at h
  simp [h2] at h
  exact h.2.1
theorem nowAt_valid {ls : List Ln} (hv : vfile ls = true) : ∀ k, k ≤ ls.length → nowAt ls k = ⟨#[]⟩ ∨ vname (nowAt ls k) = true := by
  intro k
  induction k with
  | zero => intro _; exact .inl rfl
  | succ k ih =>
    intro hk
    have hk2 : k < ls.length := by omega
    rw [nowAt_succ hk2]
    by_cases h2 : ls[k].k = 2
    · rw [if_pos h2]
      exact .inr (vline_head (vfile_line hv k hk2) h2)
    · rw [if_neg h2]
      exact ih (by omega)
theorem vname_empty : vname (⟨#[]⟩ : ByteArray) = false := vname_size (.inl rfl)
theorem nowAt_first {ls : List Ln} (hv : vfile ls = true) {k : Nat} (hk : k < ls.length) (h : nowAt ls (k + 1) = ⟨#[]⟩) : nowAt ls k = ⟨#[]⟩ := by
  rw [nowAt_succ hk] at h
  by_cases h2 : ls[k].k = 2
  · rw [if_pos h2] at h
    have := vline_head (vfile_line hv k hk) h2
    rw [h, vname_empty] at this
    cases this
  · rw [if_neg h2] at h; exact h
theorem secsTo_first {ls : List Ln} (hv : vfile ls = true) : ∀ k, k ≤ ls.length → nowAt ls k = ⟨#[]⟩ → ∀ x ∈ secsTo ls k, x = ⟨#[]⟩ := by
  intro k
  induction k with
  | zero => intro _ _ x hx; cases hx
  | succ k ih =>
    intro hk h x hx
    have h0 := nowAt_first hv (by omega) h
    by_cases hs : secLine ls k = true
    · rw [secsTo_yes hs] at hx
      rcases addT_iff.1 hx with hx | hx
      · exact ih (by omega) h0 x hx
      · rw [hx, h]
    · rw [secsTo_no (by simpa using hs)] at hx
      exact ih (by omega) h0 x hx
theorem secsTo_names {ls : List Ln} (hv : vfile ls = true) : ∀ k, k ≤ ls.length → ∀ i (h : i < (secsTo ls k).length), vname (secsTo ls k)[i] = true ∨ (i = 0 ∧ (secsTo ls k)[i] = ⟨#[]⟩) := by
  intro k
  induction k with
  | zero => intro _ i h; exact absurd h (by simp [secsTo])
  | succ k ih =>
    intro hk i h
    by_cases hs : secLine ls k = true
    · by_cases ht : hasT (secsTo ls k) (nowAt ls (k + 1)) = true
      · have e : secsTo ls (k + 1) = secsTo ls k := by rw [secsTo_yes hs, addT_yes ht]
        have := ih (by omega) i (by rw [e] at h; exact h)
        simpa only [e] using this
      · have e : secsTo ls (k + 1) = secsTo ls k ++ [nowAt ls (k + 1)] := by rw [secsTo_yes hs, addT_no (by simpa using ht)]
        by_cases hi : i < (secsTo ls k).length
        · have := ih (by omega) i hi
          simp only [e]
          rw [List.getElem_append_left hi]
          exact this
        · have hl : i = (secsTo ls k).length := by rw [e] at h; simp at h; omega
          subst hl
          simp only [e]
          rw [List.getElem_append_right (Nat.le_refl _)]
          simp only [Nat.sub_self, List.getElem_singleton]
          rcases nowAt_valid hv (k + 1) hk with h1 | h1
          · refine .inr ⟨?_, h1⟩
            rcases Nat.eq_zero_or_pos (secsTo ls k).length with h9 | h9
            · exact h9
            · exfalso
              have hx := secsTo_first hv k (by omega) (nowAt_first hv (by omega) h1) _ (List.getElem_mem h9)
              exact ht (hasT_mem.2 (by rw [h1, ← hx]; exact List.getElem_mem h9))
          · exact .inl h1
    · have e : secsTo ls (k + 1) = secsTo ls k := secsTo_no (by simpa using hs)
      have := ih (by omega) i (by rw [e] at h; exact h)
      simpa only [e] using this
theorem secs_names (ls : List Ln) (i : Nat) (h : i < (secsOf' ls).length) : vname (secsOf' ls)[i] = true ∨ (i = 0 ∧ (secsOf' ls)[i] = ⟨#[]⟩) := by
  rcases hv : vfile ls with _ | _
  · have e : secsOf' ls = [] := by unfold secsOf'; rw [if_neg (by rw [hv]; simp)]
    rw [e] at h; exact absurd h (by simp)
  · have e : secsOf' ls = secsTo ls ls.length := by unfold secsOf'; rw [if_pos hv]
    have := secsTo_names hv ls.length (Nat.le_refl _) i (by rw [e] at h; exact h)
    simpa only [e] using this

end Go.Proofs.Yteifcogfnpeahaa
