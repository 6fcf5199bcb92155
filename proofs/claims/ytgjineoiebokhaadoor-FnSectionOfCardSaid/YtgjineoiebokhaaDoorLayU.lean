/-
  The sections' parts of a layer add up to the layer. Pure. No condition.
-/
import Derived.Test.YtgjineoiebokhaaDoorLayT
namespace Go.Proofs.YtgjineoiebokhaaDoor
open Go.RowKit

/-- how many entries the first k sections have -/
def secN (K : List Ent) (ss : List ByteArray) (k : Nat) : Nat := ((ss.take k).map fun x => (keepE K (ofSec x)).length).foldl (· + ·) 0
theorem secN_zero (K : List Ent) (ss : List ByteArray) : secN K ss 0 = 0 := rfl
theorem secN_succ (K : List Ent) {ss : List ByteArray} {k : Nat} (hk : k < ss.length) : secN K ss (k + 1) = secN K ss k + (keepE K (ofSec ss[k])).length := by
  unfold secN
  rw [List.take_succ_eq_append_getElem hk, List.map_append, List.foldl_append]
  rfl
theorem secN_all {K : List Ent} (h : vlayer K = true) : secN K (secL K) (secL K).length = K.length := by
  unfold secN
  rw [List.take_length]
  have e : ∀ x, keepE K (ofSec x) = K.filter (ofSec x) := fun x => keepE_yes h
  simp only [e]
  refine part_sum (secL K) K (secL_nodup K) (fun e he => ?_)
  unfold secL
  rw [if_pos h]
  exact (secF_mem K [] e.s).2 (.inr ⟨e, he, rfl⟩)
theorem sec_in {K : List Ent} {s : ByteArray} {e : Ent} (he : e ∈ keepE K (ofSec s)) : e.s = s := by
  unfold keepE at he
  split at he
  · have h1 := (List.mem_filter.1 he).2
    unfold ofSec at h1
    rw [beq_iff_eq] at h1
    exact toList_inj h1
  · cases he
theorem sec_valid {K : List Ent} (h : vlayer K = true) (s : ByteArray) : vlayer (keepE K (ofSec s)) = true := by
  rw [keepE_yes h]
  exact vlayer_filter h (vlayer_keys h) _
theorem sec_fit {K : List Ent} (h : EFit K) (s : ByteArray) : EFit (keepE K (ofSec s)) := by
  unfold keepE
  split
  · refine ⟨Nat.le_trans (List.length_filter_le _ _) h.1, fun i hi => ?_⟩
    obtain ⟨j, hj, e⟩ := List.getElem_of_mem ((List.mem_filter.1 (List.getElem_mem hi)).1)
    rw [← e]
    exact h.2 j hj
  · exact ⟨by simp, fun i hi => absurd hi (by simp)⟩
end Go.Proofs.YtgjineoiebokhaaDoor
