/-
  The layer of a file whose key was dropped is the file's layer without its entry; the layer of a file without a section. No program; condition: the file is valid.
-/
import Derived.Test.YtgjineoiebokhaaDoorSameQ
namespace Go.Proofs.YtgjineoiebokhaaDoor
open Go.RowKit

theorem filter_keys {es : List Ent} (h : (es.map Ent.key).Nodup) (p : Ent → Bool) : ((es.filter p).map Ent.key).Nodup :=
  List.Pairwise.sublist (List.Sublist.map Ent.key List.filter_sublist) h
theorem vlayer_filter {es : List Ent} (h : vlayer es = true) (hk : (es.map Ent.key).Nodup) (p : Ent → Bool) : vlayer (es.filter p) = true := by
  have h1 := vlayer_vent h
  have h2 := vlayer_20 h
  have h3 := List.length_filter_le p es
  unfold vlayer okE
  rw [Bool.and_eq_true, Bool.and_eq_true, List.all_eq_true, decide_eq_true_iff]
  exact ⟨⟨fun e he => h1 e (List.mem_filter.1 he).1, distE_keys _ (filter_keys hk p)⟩, by omega⟩
theorem cutQ_yes {ls : List Ln} {s key : ByteArray} (hv : vfile ls = true) (hb : getB ls s key = true) : cutB (layOf ls) s key = true ∧ cutL (layOf ls) s key = (layOf ls).filter (notAt s key) := by
  have h : cutB (layOf ls) s key = true := by
    unfold cutB
    rw [lay_valid hv, Bool.true_and, List.any_eq_true]
    exact ⟨entL ls s key, (lay_mem_get hv).2 ⟨hb, rfl⟩, (of_iff _ _ _).2 ⟨rfl, rfl⟩⟩
  exact ⟨h, by unfold cutL; rw [if_pos h]⟩
theorem drop_lay {ls : List Ln} {s key : ByteArray} {R : List Ln} (h : DropQ ls s key R) : ∀ e, e ∈ layOf R ↔ e ∈ (layOf ls).filter (notAt s key) := by
  intro e
  rw [List.mem_filter, lay_mem_get h.v0, lay_mem_get h.vR]
  by_cases he : e.s = s ∧ e.k = key
  · have h1 : getB R e.s e.k = false := by rw [he.1, he.2]; exact h.gone
    have h2 : notAt s key e = false := by unfold notAt; rw [(of_iff e s key).2 he]; rfl
    rw [h1, h2]
    simp
  · have h1 := h.other he
    have h2 : notAt s key e = true := by
      unfold notAt
      rcases ho : e.of s key with _ | _
      · rfl
      · exact absurd ((of_iff e s key).1 ho) he
    rw [h1.1, h2]
    constructor
    · rintro ⟨h3, h4⟩
      refine ⟨⟨h3, ?_⟩, rfl⟩
      rw [h4]
      unfold entL
      simp only
      rw [h1.2 h3]
    · rintro ⟨⟨h3, h4⟩, _⟩
      refine ⟨h3, ?_⟩
      rw [h4]
      unfold entL
      simp only
      rw [h1.2 h3]
/-- what the promise of DropKey says of layers -/
theorem drop_sameL {ls : List Ln} {s key : ByteArray} {R : List Ln} (h : DropQ ls s key R) : vlayer (layOf R) = true ∧ vlayer ((layOf ls).filter (notAt s key)) = true ∧ sameE (layOf R) ((layOf ls).filter (notAt s key)) = true :=
  ⟨lay_valid h.vR, vlayer_filter (lay_valid h.v0) (lay_keys ls) _, sameE_of (lay_keys R) (filter_keys (lay_keys ls) _) (drop_lay h)⟩
end Go.Proofs.YtgjineoiebokhaaDoor
