/-
  What DropKey and DropSection of a file tell of its layers, in one piece each. Pure. Conditions: at most 1048576 bytes in all.
-/
import Derived.Test.YtgjineoiebokhaaDoorDropSQ
import Derived.Test.YtgjineoiebokhaaDoorEntH
import Derived.Test.YtgjineoiebokhaaDoorSameL
namespace Go.Proofs.YtgjineoiebokhaaDoor
open Go.RowKit

theorem ent_fits {e : Ent} (h : vent e = true) : e.fits := by
  unfold vent vplace at h
  simp only [Bool.and_eq_true] at h
  have h1 := vname_le h.1.2
  have h2 := vvalue_le h.2.2.1
  have h3 : e.s.size ≤ 8 := by
    have h4 := h.1.1
    by_cases h5 : e.s.toList = []
    · have h6 : ¬ 0 < e.s.size := fun h7 => by
        have h8 := isEmpty_ne h7
        rw [h5] at h8
        cases h8
      omega
    · rw [vsec_ne h5] at h4
      exact vname_le h4
  exact ⟨by omega, by omega, by omega⟩
theorem vlayer_fit {es : List Ent} (h : vlayer es = true) : EFit es :=
  ⟨by have := vlayer_20 h; omega, fun i hi => ent_fits (vlayer_vent h _ (List.getElem_mem hi))⟩
theorem keepR_fits {ls R : List Ln} (hf : AllFit ls) (hl : R.length ≤ 1048576) (hm : ∀ l ∈ R, l ∈ ls) : AllFit R := by
  refine ⟨hl, fun i hi => ?_⟩
  obtain ⟨j, hj, e⟩ := List.getElem_of_mem (hm _ (List.getElem_mem hi))
  rw [← e]
  exact hf.2 j hj

/-- what the file that DropKey makes tells -/
structure DropT (K : List Ln) (s key : ByteArray) (R : List Ln) : Prop where
  fits : AllFit R
  gone : getB R s key = false
  len : R.length < K.length
  layK : EFit (layOf K)
  layR : EFit (layOf R)
  cut : cutB (layOf K) s key = true
  cutF : EFit (cutL (layOf K) s key)
  same : sameL (layOf R) (cutL (layOf K) s key) = true
theorem dropT_of {K : List Ln} {s key : ByteArray} (hf : AllFit K) (hb : getB K s key = true) : DropT K s key (dropKL K s key) := by
  have hw : ¬ whereOf K s key < 0 := by
    unfold getB at hb
    simpa using hb
  have h := dropQ_of hw
  obtain ⟨h1, h2⟩ := cutQ_yes h.v0 hb
  obtain ⟨h3, h4, h5⟩ := drop_sameL h
  refine ⟨keepR_fits hf (dropKL_le K s key hf.1) (fun l hl => ?_), h.gone, h.len, vlayer_fit (lay_valid h.v0), vlayer_fit h3, h1, ?_, ?_⟩
  · unfold dropKL at hl
    rw [if_neg hw] at hl
    exact keepL_mem _ (Nat.le_refl _) hl
  · rw [h2]
    exact vlayer_fit h4
  · rw [h2]
    unfold sameL
    rw [h3, h4, h5]
    rfl

/-- what the file that DropSection makes tells -/
structure DropST (K : List Ln) (s : ByteArray) (R : List Ln) : Prop where
  fits : AllFit R
  layK : EFit (layOf K)
  layR : EFit (layOf R)
  secs : hasT (secsOf' R) s = false
  none : keepE (layOf R) (ofSec s) = []
  part : ∀ x, x ≠ s → sameL (keepE (layOf K) (ofSec x)) (keepE (layOf R) (ofSec x)) = true
  fitK : ∀ x, EFit (keepE (layOf K) (ofSec x))
  fitR : ∀ x, EFit (keepE (layOf R) (ofSec x))
theorem dropST_of {K : List Ln} {s : ByteArray} (hf : AllFit K) (hb : dropSB K s = true) : DropST K s (dropSL K s) := by
  have h := dropSQ_of hb
  have hne : ¬ headsOf' K s = [] := fun e => by unfold dropSB at hb; rw [e] at hb; cases hb
  have hk := lay_valid h.v0
  have hr := lay_valid h.vR
  refine ⟨keepR_fits hf (dropSL_le K s hf.1) (fun l hl => ?_), vlayer_fit hk, vlayer_fit hr, h.secs, ?_, fun x hx => ?_, fun x => ?_, fun x => ?_⟩
  · unfold dropSL at hl
    rw [if_neg hne] at hl
    exact keepL_mem _ (Nat.le_refl _) hl
  · rw [keepE_yes hr]
    exact (h.part (x := s)).1 rfl
  · rw [keepE_yes hr, keepE_yes hk]
    unfold sameL
    rw [vlayer_filter hk (lay_keys K) _, vlayer_filter hr (lay_keys _) _, (h.part (x := x)).2 hx]
    rfl
  · rw [keepE_yes hk]
    exact vlayer_fit (vlayer_filter hk (lay_keys K) _)
  · rw [keepE_yes hr]
    exact vlayer_fit (vlayer_filter hr (lay_keys _) _)
end Go.Proofs.YtgjineoiebokhaaDoor
