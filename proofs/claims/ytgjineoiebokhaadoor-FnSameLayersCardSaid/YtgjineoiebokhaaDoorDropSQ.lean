/-
  Plain facts on sections that are dropped: nothing is told of the section any more, all else as before. No program; condition: the file is valid.
-/
import Derived.Test.YtgjineoiebokhaaDoorCutQ
import Derived.Test.YtgjineoiebokhaaDoorDropS
namespace Go.Proofs.YtgjineoiebokhaaDoor
open Go.RowKit

/-- the tagged line is of another section -/
def offS (s : ByteArray) (p : ByteArray × Ln) : Bool := !(p.1.toList == s.toList)
theorem keep_sec (ls : List Ln) (s : ByteArray) : ∀ k, k ≤ ls.length → ((nowAt ls k).toList == s.toList) = false → nowF ⟨#[]⟩ (keepL ls (inSec ls s) k) = nowAt ls k := by
  intro k
  induction k with
  | zero => intro _ _; rfl
  | succ k ih =>
    intro hk hn
    have hk2 : k < ls.length := by omega
    have hin : inSec ls s k = false := hn
    rw [keepL_no hin, get_bang hk2, nowF_append]
    show (if ls[k].k = 2 then ls[k].na else nowF ⟨#[]⟩ (keepL ls (inSec ls s) k)) = nowAt ls (k + 1)
    rw [nowAt_succ hk2]
    by_cases h2 : ls[k].k = 2
    · rw [if_pos h2, if_pos h2]
    · rw [if_neg h2, if_neg h2]
      refine ih (by omega) ?_
      rw [nowAt_succ hk2, if_neg h2] at hn
      exact hn
theorem keep_tags (ls : List Ln) (s : ByteArray) : ∀ k, k ≤ ls.length → tagOf (keepL ls (inSec ls s) k) = (tagOf (ls.take k)).filter (offS s) := by
  intro k
  induction k with
  | zero => intro _; rfl
  | succ k ih =>
    intro hk
    have hk2 : k < ls.length := by omega
    rw [tagOf_succ hk2, List.filter_append]
    by_cases hp : inSec ls s k = true
    · have : offS s (nowAt ls (k + 1), ls[k]) = false := by unfold offS; unfold inSec at hp; rw [hp]; rfl
      rw [keepL_yes hp, ih (by omega), List.filter_cons, this]
      simp
    · have hp' : inSec ls s k = false := by simpa using hp
      have : offS s (nowAt ls (k + 1), ls[k]) = true := by unfold offS; unfold inSec at hp'; rw [hp']; rfl
      have hn := keep_sec ls s (k + 1) hk (by unfold inSec at hp'; exact hp')
      rw [keepL_no hp', get_bang hk2] at hn ⊢
      unfold tagOf at ih ⊢
      rw [tagF_snoc, hn, ih (by omega), List.filter_cons, this]
      simp
theorem look_filter (s : ByteArray) (s' key : ByteArray) : ∀ T : List (ByteArray × Ln), look (T.filter (offS s)) s' key = if s' = s then none else look T s' key := by
  intro T
  induction T with
  | nil => split <;> rfl
  | cons p T ih =>
    rw [List.filter_cons]
    by_cases he : s' = s
    · rw [if_pos he] at ih ⊢
      split
      · rename_i h
        rw [look_cons, ih]
        have : hit s' key p = false := by
          unfold hit
          unfold offS at h
          have h9 : (p.1.toList == s'.toList) = false := by rw [he]; simpa using h
          rw [h9, Bool.and_false]
        rw [this]; rfl
      · exact ih
    · rw [if_neg he] at ih ⊢
      split
      · rw [look_cons, look_cons, ih]
      · rename_i h
        rw [look_cons, ih]
        have : hit s' key p = false := by
          unfold hit
          have h9 : (p.1.toList == s'.toList) = false := by
            unfold offS at h
            have h8 : p.1.toList = s.toList := by simpa using h
            rw [beq_eq_false_iff_ne, h8]
            exact fun e => he (toList_inj e).symm
          rw [h9, Bool.and_false]
        rw [this]
        simp
theorem secsT_mem {x : ByteArray} : ∀ (T : List (ByteArray × Ln)) (acc : List ByteArray), x ∈ T.foldl (fun acc p => if (p.2.k == 2 || p.2.k == 3) = true then addT acc p.1 else acc) acc → x ∈ acc ∨ ∃ p ∈ T, p.1 = x := by
  intro T
  induction T with
  | nil => intro acc h; exact .inl h
  | cons p T ih =>
    intro acc h
    rw [List.foldl_cons] at h
    rcases ih _ h with h1 | ⟨q, hq, e⟩
    · split at h1
      · rcases addT_iff.1 h1 with h2 | h2
        · exact .inl h2
        · exact .inr ⟨p, by simp, h2.symm⟩
      · exact .inl h1
    · exact .inr ⟨q, by simp [hq], e⟩
/-- the facts of a section that was dropped -/
structure DropSQ (ls : List Ln) (s : ByteArray) (R : List Ln) : Prop where
  v0 : vfile ls = true
  vR : vfile R = true
  look : ∀ s' key', look (tagOf R) s' key' = if s' = s then none else Go.Proofs.YtgjineoiebokhaaDoor.look (tagOf ls) s' key'
  secs : hasT (secsOf' R) s = false
theorem dropSQ_of {ls : List Ln} {s : ByteArray} (h : dropSB ls s = true) : DropSQ ls s (dropSL ls s) := by
  have hne : ¬ headsOf' ls s = [] := fun e => by unfold dropSB at h; rw [e] at h; cases h
  have hv := heads_valid hne
  unfold dropSL
  rw [if_neg hne]
  have ht := keep_tags ls s ls.length (Nat.le_refl _)
  rw [List.take_length] at ht
  have hvR : vfile (keepL ls (inSec ls s) ls.length) = true := by
    have h20 := vfile_20 hv
    have hl := keepL_le ls (inSec ls s) ls.length
    unfold vfile vlines
    rw [Bool.and_eq_true, List.all_eq_true, decide_eq_true_iff]
    refine ⟨fun x hx => ?_, by omega⟩
    obtain ⟨j, hj, rfl⟩ := List.getElem_of_mem (keepL_mem ls.length (Nat.le_refl _) hx)
    exact vfile_line hv j hj
  refine ⟨hv, hvR, fun s' key' => by rw [ht, look_filter], ?_⟩
  rw [secsOf_T hvR, ht]
  rcases hh : hasT (secsT ((tagOf ls).filter (offS s))) s with _ | _
  · rfl
  · exfalso
    rcases secsT_mem _ _ (hasT_mem.1 hh) with h1 | ⟨p, hp, e⟩
    · cases h1
    · have := (List.mem_filter.1 hp).2
      unfold offS at this
      rw [e] at this
      simp at this
theorem DropSQ.gone {ls : List Ln} {s : ByteArray} {R : List Ln} (h : DropSQ ls s R) (key : ByteArray) : getB R s key = false := by
  rw [(get_look h.vR s key).1, h.look s key, if_pos rfl]
  rfl
theorem DropSQ.other {ls : List Ln} {s s' : ByteArray} {R : List Ln} (h : DropSQ ls s R) (hne : s' ≠ s) (key' : ByteArray) : getB R s' key' = getB ls s' key' ∧ (getB ls s' key' = true → getV R s' key' = getV ls s' key') := by
  have h1 := get_look h.vR s' key'
  have h0 := get_look h.v0 s' key'
  have h2 := h.look s' key'
  rw [if_neg hne] at h2
  have e : getB R s' key' = getB ls s' key' := by rw [h1.1, h0.1, h2]
  exact ⟨e, fun hb => by rw [h1.2 (by rw [e]; exact hb), h0.2 hb, h2]⟩
/-- the parts of the layers -/
theorem DropSQ.part {ls : List Ln} {s x : ByteArray} {R : List Ln} (h : DropSQ ls s R) : (x = s → (layOf R).filter (ofSec x) = []) ∧
    (x ≠ s → sameE ((layOf ls).filter (ofSec x)) ((layOf R).filter (ofSec x)) = true) := by
  have hs : ∀ e : Ent, ofSec x e = true ↔ e.s = x := fun e => by
    unfold ofSec
    rw [beq_iff_eq]
    exact ⟨fun h => toList_inj h, fun h => by rw [h]⟩
  refine ⟨fun hx => ?_, fun hx => ?_⟩
  · rw [List.filter_eq_nil_iff]
    intro e he hes
    have h1 := (lay_mem_get h.vR).1 he
    have h2 := (hs e).1 hes
    rw [h2, hx, h.gone] at h1
    cases h1.1
  · refine sameE_of (filter_keys (lay_keys ls) _) (filter_keys (lay_keys R) _) (fun e => ?_)
    rw [List.mem_filter, List.mem_filter, lay_mem_get h.v0, lay_mem_get h.vR, hs]
    constructor
    · rintro ⟨⟨h3, h4⟩, h5⟩
      have h1 := h.other (s' := e.s) (by rw [h5]; exact hx) e.k
      refine ⟨⟨by rw [h1.1]; exact h3, ?_⟩, h5⟩
      rw [h4]
      unfold entL
      simp only
      rw [h1.2 h3]
    · rintro ⟨⟨h3, h4⟩, h5⟩
      have h1 := h.other (s' := e.s) (by rw [h5]; exact hx) e.k
      rw [h1.1] at h3
      refine ⟨⟨h3, ?_⟩, h5⟩
      rw [h4]
      unfold entL
      simp only
      rw [h1.2 h3]
end Go.Proofs.YtgjineoiebokhaaDoor
