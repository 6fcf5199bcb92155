/-
  Merged layers tell what both tell; cut entries are gone; flat layers are their own. No program, no condition.
-/
import Derived.Test.YtkjoolmhcfajnaaDoorRslP
namespace Go.Proofs.YtkjoolmhcfajnaaDoor
open Go.RowKit

theorem ovr_of (xs : List Ent) (e : Ent) (s k : ByteArray) : (ovr xs e).of s k = e.of s k := by
  unfold ovr
  split
  · rename_i t ht
    obtain ⟨_, h1, h2⟩ := lastE_mem ht
    unfold overE Ent.of
    split
    · split
      · simp only [h1, h2]
      · rfl
    · rw [h1, h2]
  · rfl
theorem merge_find (xs bs : List Ent) (s k : ByteArray) : (mergeR xs bs).find? (fun x => x.of s k) = match bs.find? (fun x => x.of s k) with
    | some b => some (ovr xs b)
    | none => xs.find? (fun x => x.of s k) := by
  unfold mergeR
  rw [List.find?_append, List.find?_map]
  have h1 : ((fun x : Ent => x.of s k) ∘ ovr xs) = fun x : Ent => x.of s k := by
    funext e
    exact ovr_of xs e s k
  rw [h1]
  cases hb : bs.find? (fun x => x.of s k) with
  | some b => rfl
  | none =>
    show (none : Option Ent).or _ = _
    rw [Option.none_or, List.find?_filter]
    congr 1
    funext a
    by_cases ha : a.of s k = true
    · have h2 : freshIn bs a = true := by
        obtain ⟨h3, h4⟩ := (of_iff a s k).1 ha
        unfold freshIn
        rw [h3, h4]
        rw [List.find?_eq_none] at hb
        rw [Bool.not_eq_true', ← Bool.not_eq_true, List.any_eq_true]
        rintro ⟨y, hy, h5⟩
        exact hb y hy h5
      simp [h2, ha]
    · have ha' : a.of s k = false := by simpa using ha
      simp [ha']
theorem vent_ops3 {e : Ent} (h : vent e = true) : e.op = 0 ∨ e.op = 1 ∨ e.op = 2 := by
  unfold vent opB at h
  simp only [Bool.and_eq_true, decide_eq_true_eq] at h
  have := h.2.1
  omega
theorem step_over {t b : Ent} (h1 : vent t = true) (h2 : vent b = true) : stepV none (overE t b) = stepV (stepV none b) t := by
  rcases vent_ops3 h1 with h | h | h
  · unfold overE
    rw [if_neg (by omega)]
    unfold stepV
    simp [h]
  · unfold overE
    rw [if_neg (by omega)]
    unfold stepV
    simp [h]
  · unfold overE
    rw [if_pos h]
    rcases vent_ops3 h2 with g | g | g
    · rw [if_neg (by omega)]
      unfold stepV addV
      simp [h, g]
    · rw [if_pos g]
      unfold stepV addV
      simp [h, g]
    · rw [if_neg (by omega)]
      unfold stepV addV
      simp [h, g]
theorem allE_one (a : List Ent) : allE [a] = a := by simp [allE]
theorem allE_two (a b : List Ent) : allE [a, b] = b ++ a := by simp [allE]
theorem told_one (a : List Ent) (h : distE a = true) (s k : ByteArray) : toldV [a] s k = match a.find? (fun x => x.of s k) with
    | some e => stepV none e
    | none => none := by
  unfold toldV
  rw [allE_one, foldV_at s k a noV h]
  rfl
theorem told_two (a b : List Ent) (h : distE a = true) (s k : ByteArray) : toldV [a, b] s k = match a.find? (fun x => x.of s k) with
    | some e => stepV (toldV [b] s k) e
    | none => toldV [b] s k := by
  unfold toldV
  rw [allE_two, allE_one, foldV_app, foldV_at s k a _ h]
  cases a.find? (fun x => x.of s k) <;> rfl
theorem told_merge {xs bs : List Ent} (h1 : vlayer xs = true) (h2 : vlayer bs = true) (h3 : vlayer (mergeR xs bs) = true) (s k : ByteArray) : toldV [mergeR xs bs] s k = toldV [xs, bs] s k := by
  rw [told_one _ (vlayer_dist h3), told_two _ _ (vlayer_dist h1), told_one _ (vlayer_dist h2), merge_find]
  cases hb : bs.find? (fun x => x.of s k) with
  | none => rfl
  | some b =>
    have hbm := List.mem_of_find?_eq_some hb
    have hbp := List.find?_some hb
    obtain ⟨e1, e2⟩ := (of_iff b s k).1 hbp
    have hl : lastE xs b.s b.k = xs.find? (fun x => x.of s k) := by rw [find_last xs (vlayer_dist h1), e1, e2]
    simp only []
    unfold ovr
    rw [hl]
    cases hx : xs.find? (fun x => x.of s k) with
    | none => rfl
    | some t => exact step_over (vlayer_vent h1 t (List.mem_of_find?_eq_some hx)) (vlayer_vent h2 b hbm)
theorem vstack_one (a : List Ent) : vstack [a] = vlayer a := by simp [vstack]
theorem vstack_two (a b : List Ent) : vstack [a, b] = (vlayer a && vlayer b) := by simp [vstack]
theorem mergeB_iff {xs bs : List Ent} (h : mergeB xs bs = true) : vlayer xs = true ∧ vlayer bs = true ∧ vlayer (mergeR xs bs) = true ∧ mergeL xs bs = mergeR xs bs := by
  unfold mergeB at h
  simp only [Bool.and_eq_true] at h
  refine ⟨h.1, h.2.1, h.2.2, ?_⟩
  rw [(mergeL_yes h.1 h.2.1).1]
  unfold chkE
  rw [if_pos h.2.2]
theorem distE_filter (p : Ent → Bool) : ∀ es : List Ent, distE es = true → distE (es.filter p) = true := by
  intro es
  induction es with
  | nil => intro h; exact h
  | cons e t ih =>
    intro h
    rw [distE, Bool.and_eq_true] at h
    rw [List.filter_cons]
    split
    · rw [distE, Bool.and_eq_true]
      refine ⟨?_, ih h.2⟩
      have h1 := h.1
      rw [List.all_eq_true] at h1 ⊢
      exact fun x hx => h1 x (List.mem_filter.1 hx).1
    · exact ih h.2
/-- what is cut is gone -/
theorem told_cut {es : List Ent} (h : vlayer es = true) (s k : ByteArray) : toldV [es.filter (notAt s k)] s k = none := by
  have h1 : ∀ x ∈ es.filter (notAt s k), ¬ (x.of s k = true) := fun x hx h2 => by
    have h3 := (List.mem_filter.1 hx).2
    unfold notAt at h3
    rw [h2] at h3
    cases h3
  have h0 : distE (es.filter (notAt s k)) = true := distE_filter _ _ (vlayer_dist h)
  rw [told_one _ h0, List.find?_eq_none.2 h1]
end Go.Proofs.YtkjoolmhcfajnaaDoor
