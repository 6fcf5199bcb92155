/-
  What two layers have in common, both ways: pure. Conditions: both layers are valid.
-/
import Derived.Test.YtcecjdjfbgmogaaDoorMrgX
namespace Go.Proofs.YtcecjdjfbgmogaaDoor
open Go.RowKit

theorem inM_iff {bs : List Ent} (hb : vlayer bs = true) (e : Ent) : inE bs e = true ↔ e ∈ bs := by
  constructor
  · intro h
    unfold inE at h
    split at h
    · rename_i x hx
      rw [Bool.and_eq_true] at h
      have h2 := h.2
      unfold Ent.same at h2
      simp only [Bool.and_eq_true, beq_iff_eq] at h2
      obtain ⟨h1, h3, h4, h5⟩ := h2
      have hxe : x = e := by
        obtain ⟨a1, a2, a3, a4⟩ := x
        obtain ⟨b1, b2, b3, b4⟩ := e
        simp only at h1 h3 h4 h5
        rw [toList_inj h1, toList_inj h3, h4, toList_inj h5]
      rw [← hxe]
      exact List.mem_of_getElem? hx
    · cases h
  · exact fun h => inE_mem (vlayer_keysM hb) h
theorem keysM_filter {es : List Ent} (p : Ent → Bool) (h : (es.map Ent.key).Nodup) : ((es.filter p).map Ent.key).Nodup :=
  List.Nodup.sublist (List.Sublist.map _ List.filter_sublist) h
theorem vlayerM_filter {es : List Ent} (p : Ent → Bool) (h : vlayer es = true) : vlayer (es.filter p) = true := by
  have h1 := vlayer_keysM h
  have h2 := vlayer_20 h
  have h3 := List.length_filter_le p es
  unfold vlayer okE
  simp only [Bool.and_eq_true, decide_eq_true_eq, List.all_eq_true]
  refine ⟨⟨fun x hx => vlayer_vent h x (List.mem_filter.1 hx).1, distE_keys _ (keysM_filter p h1)⟩, by omega⟩
/-- the same either way -/
theorem com_flip {K L : List Ent} (h1 : vlayer K = true) (h2 : vlayer L = true) : sameL (comE L K) (comE K L) = true := by
  rw [comE_yes h2 h1, comE_yes h1 h2]
  have v1 := vlayerM_filter (inE K) h2
  have v2 := vlayerM_filter (inE L) h1
  unfold sameL
  rw [v1, v2, Bool.true_and, Bool.true_and]
  refine sameE_of (vlayer_keysM v1) (vlayer_keysM v2) (fun e => ?_)
  rw [List.mem_filter, List.mem_filter, inM_iff h1, inM_iff h2]
  exact And.comm
/-- common with what is common -/
theorem com_again {K L : List Ent} (h1 : vlayer K = true) (h2 : vlayer L = true) : comE K (comE K L) = comE K L := by
  have v2 := vlayerM_filter (inE L) h1
  rw [comE_yes h1 h2, comE_yes h1 v2]
  refine List.filter_congr (fun e he => ?_)
  rw [Bool.eq_iff_iff, inM_iff v2, List.mem_filter]
  exact ⟨fun h => h.2, fun h => ⟨he, h⟩⟩
theorem com_self {K : List Ent} (h1 : vlayer K = true) : comE K K = K := by
  rw [comE_yes h1 h1, List.filter_eq_self]
  exact fun e he => (inM_iff h1 e).2 he
end Go.Proofs.YtcecjdjfbgmogaaDoor
