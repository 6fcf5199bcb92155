/-
  What is set and dropped again means what was there; what a note changes. Pure. No condition.
-/
import Derived.Test.YtclopcbpelhiaaaSetR
import Derived.Test.YtclopcbpelhiaaaSameQ
namespace Go.Proofs.Ytclopcbpelhiaaa
open Go.RowKit

theorem dropKL_fits {ls : List Ln} {s key : ByteArray} (hf : AllFit ls) : AllFit (dropKL ls s key) := by
  have hm : ∀ l ∈ dropKL ls s key, l ∈ ls := fun l hl => by
    unfold dropKL at hl
    split at hl
    · cases hl
    · exact keepL_mem _ (Nat.le_refl _) hl
  refine ⟨dropKL_le ls s key hf.1, fun i hi => ?_⟩
  obtain ⟨j, hj, e⟩ := List.getElem_of_mem (hm _ (List.getElem_mem hi))
  rw [← e]
  exact hf.2 j hj
theorem set_drop {K : List Ln} {s key v : ByteArray} (hb : setB K s key v = true) (hn : getB K s key = false) :
    (vfile (dropKL (setL K s key v) s key) && (vfile K && (tellsB (dropKL (setL K s key v) s key) K && tellsB K (dropKL (setL K s key v) s key)))) = true := by
  have h := (setQ_of hb).1
  have hg := h.get
  have hw : ¬ whereOf (setL K s key v) s key < 0 := by
    have h1 := hg.1
    unfold getB at h1
    simpa using h1
  have hd := dropQ_of hw
  refine same_mean (fun s' key' => ?_) hd.vR h.v0
  rw [hd.look, h.look]
  by_cases hx : s' = s ∧ key' = key
  · rw [if_pos hx, hx.1, hx.2]
    have h1 := (get_look h.v0 s key).1
    rw [hn] at h1
    cases hl : look (tagOf K) s key with
    | none => rfl
    | some x => rw [hl] at h1; cases h1
  · rw [if_neg hx, if_neg hx]

/-- what the file that AddNote makes tells -/
structure NoteT (K : List Ln) (s key note : ByteArray) (R : List Ln) : Prop where
  fits : AllFit R
  notes : notesOf' R s key = notesOf' K s key ++ [note]
  mean : (vfile R && (vfile K && (tellsB R K && tellsB K R))) = true
  len : R.length = K.length + 1
theorem noteT_of {K : List Ln} {s key note : ByteArray} (hf : AllFit K) (hno : note.size ≤ 1048576) (hb : addNB K s key note = true) : NoteT K s key note (addNL K s key note) := by
  have h := noteQ_of hb
  exact ⟨addNL_fits hf hno hb, h.notes, same_mean (note_same h) h.vR h.v0, h.len⟩
theorem ValsAt.news {w : World} {ad : Addr} {xs : List Value} (h : ValsAt w (some ad) xs) : ∀ j u, xs[j]? = some u → w.cell? (ad.add j) = some u := by
  intro j u hj
  obtain ⟨hlt, e⟩ := List.getElem?_eq_some_iff.1 hj
  obtain ⟨b, o, e1, _, hc⟩ := h (by omega)
  injection e1 with e1
  subst e1
  have h1 := hc j hlt
  rw [e] at h1
  unfold Addr.add
  split
  · rename_i h9
    rw [h9, Nat.add_zero] at h1
    exact h1
  · exact h1
end Go.Proofs.Ytclopcbpelhiaaa
