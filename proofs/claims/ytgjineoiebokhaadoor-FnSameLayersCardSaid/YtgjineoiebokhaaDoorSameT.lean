/-
  Layers are the same both ways, and by what is common. Pure. No condition.
-/
import Derived.Test.YtgjineoiebokhaaDoorLayT
namespace Go.Proofs.YtgjineoiebokhaaDoor
open Go.RowKit

theorem ent_same {a b : Ent} (h : a.same b = true) : a = b := by
  unfold Ent.same at h
  simp only [Bool.and_eq_true, beq_iff_eq] at h
  obtain ⟨h1, h2, h3, h4⟩ := h
  obtain ⟨a1, a2, a3, a4⟩ := a
  obtain ⟨b1, b2, b3, b4⟩ := b
  simp only at h1 h2 h3 h4
  rw [toList_inj h1, toList_inj h2, h3, toList_inj h4]
theorem inE_sub {bs : List Ent} {e : Ent} (h : inE bs e = true) : e ∈ bs := by
  unfold inE at h
  split at h
  · rename_i x hx
    rw [Bool.and_eq_true] at h
    rw [← ent_same h.2]
    exact List.mem_of_getElem? hx
  · cases h
theorem sameE_iff {xs bs : List Ent} (hb : (bs.map Ent.key).Nodup) : sameE xs bs = true ↔ xs.length = bs.length ∧ ∀ e ∈ xs, e ∈ bs := by
  unfold sameE
  rw [Bool.and_eq_true, decide_eq_true_iff, List.all_eq_true]
  constructor
  · rintro ⟨h1, h2⟩
    exact ⟨h1, fun e he => inE_sub (h2 e he)⟩
  · rintro ⟨h1, h2⟩
    exact ⟨h1, fun e he => inE_mem hb (h2 e he)⟩
theorem nodup_of_keys {xs : List Ent} (h : (xs.map Ent.key).Nodup) : xs.Nodup := (List.pairwise_map.1 h).imp (fun hne e => hne (by rw [e]))
theorem sameE_flip {xs bs : List Ent} (hx : (xs.map Ent.key).Nodup) (hb : (bs.map Ent.key).Nodup) (h : sameE xs bs = true) : sameE bs xs = true := by
  haveI : DecidableEq Ent := fun a b => Classical.propDecidable (a = b)
  obtain ⟨h1, h2⟩ := (sameE_iff hb).1 h
  exact (sameE_iff hx).2 ⟨h1.symm, all_in (nodup_of_keys hx) h2 (by omega)⟩
theorem sameL_flip {xs bs : List Ent} (h1 : vlayer xs = true) (h2 : vlayer bs = true) : sameL bs xs = sameL xs bs := by
  unfold sameL
  rw [h1, h2, Bool.true_and, Bool.true_and, Bool.true_and, Bool.true_and, Bool.eq_iff_iff]
  exact ⟨sameE_flip (vlayer_keys h2) (vlayer_keys h1), sameE_flip (vlayer_keys h1) (vlayer_keys h2)⟩
theorem sameL_lens {xs bs : List Ent} (h1 : vlayer xs = true) (h2 : vlayer bs = true) : sameL xs bs = (decide ((comE xs bs).length = xs.length) && decide (xs.length = bs.length)) := by
  by_cases hl : xs.length = bs.length
  · rw [Bool.eq_iff_iff, sameL_com h1 h2 hl, Bool.and_eq_true, decide_eq_true_iff, decide_eq_true_iff]
    exact ⟨fun h => ⟨h, hl⟩, fun h => h.1⟩
  · have h3 : sameL xs bs = false := by
      unfold sameL sameE
      rw [decide_eq_false hl]
      simp
    rw [h3, decide_eq_false hl, Bool.and_false]
theorem comE_fit {xs bs : List Ent} (h : EFit xs) : EFit (comE xs bs) := by
  unfold comE
  split
  · unfold keepE
    split
    · refine ⟨Nat.le_trans (List.length_filter_le _ _) h.1, fun i hi => ?_⟩
      obtain ⟨j, hj, e⟩ := List.getElem_of_mem ((List.mem_filter.1 (List.getElem_mem hi)).1)
      rw [← e]
      exact h.2 j hj
    · exact ⟨by simp, fun i hi => absurd hi (by simp)⟩
  · exact ⟨by simp, fun i hi => absurd hi (by simp)⟩
end Go.Proofs.YtgjineoiebokhaaDoor
