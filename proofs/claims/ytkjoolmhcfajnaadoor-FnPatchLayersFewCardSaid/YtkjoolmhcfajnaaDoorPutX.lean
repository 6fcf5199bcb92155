/-
  An entry put into a layer: it is there, putting it twice is putting it once, and cut again the layer is as it was. Conditions: both layers are valid.
-/
import Derived.Test.YtkjoolmhcfajnaaDoorMrgP
namespace Go.Proofs.YtkjoolmhcfajnaaDoor
open Go.RowKit

theorem of_self (e : Ent) : e.of e.s e.k = true := (of_iff e e.s e.k).2 ⟨rfl, rfl⟩
theorem putR_mem (l : List Ent) (e : Ent) : e ∈ putR l e := by
  unfold putR
  split
  · have h1 := (entIdx_lt l e.s e.k).1
    exact List.mem_set (by omega) e
  · simp
/-- in a layer whose places are all different an entry is at its own index -/
theorem idx_self {P : List Ent} (hd : distE P = true) {e : Ent} (he : e ∈ P) : ∃ j, ∃ hj : j < P.length, entIdx P e.s e.k = (j : Int) ∧ P[j] = e := by
  rcases last_idx hd e.s e.k with ⟨_, h1⟩ | ⟨j, hj, h1, h2⟩
  · have h2 : (lastE P e.s e.k).isSome = true := by
      rw [lastE_isSome, List.any_eq_true]
      exact ⟨e, he, of_self e⟩
    rw [h1] at h2
    cases h2
  · refine ⟨j, hj, h1, ?_⟩
    have h3 := lastE_mem h2
    have h4 : P[j].of e.s e.k = true := (of_iff _ _ _).2 h3.2
    clear h1 h2 h3
    induction P generalizing j with
    | nil => cases he
    | cons x t ih =>
      rcases List.mem_cons.1 he with rfl | ht
      · rcases j with _ | j
        · rfl
        · have h5 := dist_none hd (of_self e) (t[j]'(by simpa using hj)) (List.getElem_mem _)
          simp only [List.getElem_cons_succ] at h4
          rw [h5] at h4
          cases h4
      · rcases j with _ | j
        · simp only [List.getElem_cons_zero] at h4
          have h5 := dist_none hd h4 e ht
          rw [of_self] at h5
          cases h5
        · simp only [List.getElem_cons_succ] at h4 ⊢
          exact ih (dist_tail hd) ht j (by simpa using hj) h4
/-- put twice it is as put once -/
theorem putR_again {l : List Ent} {e : Ent} (h : vlayer (putR l e) = true) : putR (putR l e) e = putR l e := by
  have hm := putR_mem l e
  obtain ⟨P, hP⟩ : ∃ P, putR l e = P := ⟨_, rfl⟩
  rw [hP] at h hm ⊢
  obtain ⟨j, hj, h1, h2⟩ := idx_self (vlayer_dist h) hm
  unfold putR
  rw [h1, if_pos (by omega), Int.toNat_natCast]
  have h3 : P.set j P[j] = P := List.set_getElem_self hj
  rw [h2] at h3
  exact h3
theorem filter_set {p : Ent → Bool} {e : Ent} (he : p e = false) : ∀ (l : List Ent) (j : Nat), (∀ h : j < l.length, p l[j] = false) → (l.set j e).filter p = l.filter p
  | [], _, _ => rfl
  | x :: t, 0, h => by
    have h0 := h (by simp)
    simp only [List.getElem_cons_zero] at h0
    simp [he, h0]
  | x :: t, j + 1, h => by
    have ih := filter_set he t j (fun hj => by have := h (by simpa using hj); simpa using this)
    rw [List.set_cons_succ, List.filter_cons, List.filter_cons, ih]
theorem entFrom_of (s k : ByteArray) : ∀ (es : List Ent) (i j : Nat), entFrom s k es i = ((i + j : Nat) : Int) → ∀ hj : j < es.length, es[j].of s k = true := by
  intro es i j h hj
  rcases find_idx s k es i with ⟨h1, _⟩ | ⟨q, hq, h1, h2⟩
  · omega
  · have : q = j := by omega
    subst this
    have h3 := List.find?_some h2
    exact h3
/-- what is left when the place is cut -/
theorem put_cut (l : List Ent) (e : Ent) : (putR l e).filter (notAt e.s e.k) = l.filter (notAt e.s e.k) := by
  have hne : notAt e.s e.k e = false := by unfold notAt; rw [of_self]; rfl
  unfold putR
  split
  · rename_i h0
    refine filter_set hne l _ (fun hj => ?_)
    unfold notAt
    rw [entFrom_of e.s e.k l 0 _ (by unfold entIdx; rw [Nat.zero_add]; have := Int.toNat_of_nonneg h0; unfold entIdx at this; omega) hj]
    rfl
  · rw [List.filter_append]
    simp [hne]
theorem cut_put {l : List Ent} {e : Ent} (h : vlayer (putR l e) = true) : cutB (putR l e) e.s e.k = true ∧ cutL (putR l e) e.s e.k = l.filter (notAt e.s e.k) := by
  have h1 : cutB (putR l e) e.s e.k = true := by
    unfold cutB
    rw [h, Bool.true_and, List.any_eq_true]
    exact ⟨e, putR_mem l e, of_self e⟩
  refine ⟨h1, ?_⟩
  unfold cutL
  rw [if_pos h1, put_cut]
/-- the layer that is left: cut, or as it was -/
theorem cut_had {l : List Ent} {e : Ent} (h : vlayer l = true) : (if cutB l e.s e.k = true then cutL l e.s e.k else l) = l.filter (notAt e.s e.k) := by
  by_cases hb : cutB l e.s e.k = true
  · rw [if_pos hb]
    unfold cutL
    rw [if_pos hb]
  · rw [if_neg hb]
    symm
    rw [List.filter_eq_self]
    intro x hx
    unfold notAt
    have hx' : x.of e.s e.k = false := by
      rw [← Bool.not_eq_true]
      intro hx1
      refine hb ?_
      unfold cutB
      rw [h, Bool.true_and, List.any_eq_true]
      exact ⟨x, hx, hx1⟩
    rw [hx']
    rfl
end Go.Proofs.YtkjoolmhcfajnaaDoor
