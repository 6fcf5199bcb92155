/-
  What the functions on layers make of valid layers: sections, cuts, what is common, as plain functions of lists. No program.
-/
import Derived.Test.YtkeiaenacpmilaaDoorLayV
import Derived.Test.YtkeiaenacpmilaaDoorGrowE
namespace Go.Proofs.YtkeiaenacpmilaaDoor
open Go.RowKit

/-- the entries of a valid layer that are kept -/
def keepE (es : List Ent) (p : Ent → Bool) : List Ent := if vlayer es = true then es.filter p else []
theorem keepE_yes {es : List Ent} {p : Ent → Bool} (h : vlayer es = true) : keepE es p = es.filter p := by rw [keepE, if_pos h]
theorem keepE_no {es : List Ent} {p : Ent → Bool} (h : vlayer es = false) : keepE es p = [] := by rw [keepE, if_neg (by rw [h]; simp)]
theorem keepE_le (es : List Ent) (p : Ent → Bool) : (keepE es p).length ≤ es.length := by
  unfold keepE
  split
  · exact List.length_filter_le _ _
  · simp
theorem filter_step {es : List Ent} {p : Ent → Bool} {k : Nat} (hk : k < es.length) : (es.take (k + 1)).filter p = (es.take k).filter p ++ (if p es[k] = true then [es[k]] else []) := by
  rw [List.take_succ_eq_append_getElem hk, List.filter_append]
  congr 1
  simp only [List.filter_cons, List.filter_nil]
def ofSec (s : ByteArray) (e : Ent) : Bool := e.s.toList == s.toList
def notAt (s k : ByteArray) (e : Ent) : Bool := !(e.of s k)

theorem of_trans {a b : Ent} {s k : ByteArray} (h1 : a.of s k = true) (h2 : b.of s k = true) : a.of b.s b.k = true := by
  unfold Ent.of at *
  simp only [Bool.and_eq_true, beq_iff_eq] at *
  exact ⟨h1.1.trans h2.1.symm, h1.2.trans h2.2.symm⟩
theorem dist_tail {e : Ent} {t : List Ent} (h : distE (e :: t) = true) : distE t = true := by
  unfold distE at h
  rw [Bool.and_eq_true] at h
  exact h.2
theorem dist_none {e : Ent} {t : List Ent} {s k : ByteArray} (h : distE (e :: t) = true) (he : e.of s k = true) : ∀ x ∈ t, x.of s k = false := by
  intro x hx
  unfold distE at h
  rw [Bool.and_eq_true, List.all_eq_true] at h
  have h1 := h.1 x hx
  rw [← Bool.not_eq_true]
  intro h2
  rw [of_trans he h2] at h1
  cases h1
theorem cut_from {s k : ByteArray} : ∀ (es : List Ent) (i : Nat), distE es = true → es.any (fun x => x.of s k) = true → ∃ j, j < es.length ∧ entFrom s k es i = ((i + j : Nat) : Int) ∧ es.take j ++ es.drop (j + 1) = es.filter (notAt s k) := by
  intro es
  induction es with
  | nil => intro i _ h; simp at h
  | cons e t ih =>
    intro i hd ha
    by_cases he : e.of s k = true
    · refine ⟨0, by simp, by rw [entFrom, if_pos he]; simp, ?_⟩
      have hn := dist_none hd he
      simp only [List.take_zero, List.nil_append, List.drop_one, List.tail_cons, Nat.zero_add]
      rw [List.filter_cons, if_neg (by unfold notAt; rw [he]; simp)]
      symm
      rw [List.filter_eq_self]
      intro x hx
      unfold notAt
      rw [hn x hx]; rfl
    · have he' : e.of s k = false := by simpa using he
      rw [List.any_cons, he', Bool.false_or] at ha
      obtain ⟨j, hj, h1, h2⟩ := ih (i + 1) (dist_tail hd) ha
      refine ⟨j + 1, by simpa using hj, by rw [entFrom, if_neg he, h1]; omega, ?_⟩
      rw [List.take_succ_cons, List.drop_succ_cons, List.cons_append, h2, List.filter_cons, if_pos (by unfold notAt; rw [he']; rfl)]
theorem find_last {s k : ByteArray} : ∀ es : List Ent, distE es = true → lastE es s k = es.find? (fun x => x.of s k) := by
  intro es
  refine snocInd (P := fun es => distE es = true → lastE es s k = es.find? (fun x => x.of s k)) (fun _ => rfl) ?_ es
  intro l a ih h
  rw [distE_snoc, Bool.and_eq_true] at h
  rw [lastE_snoc, List.find?_append, ih h.1]
  by_cases ha : a.of s k = true
  · rw [if_pos ha]
    have hn : l.find? (fun x => x.of s k) = none := by
      rw [List.find?_eq_none]
      intro x hx h2
      have h3 := h.2
      unfold freshE at h3
      rw [List.all_eq_true] at h3
      have h4 := h3 x hx
      rw [of_trans h2 ha] at h4
      cases h4
    rw [hn]
    simp [ha]
  · rw [if_neg ha]
    have : ([a].find? fun x => x.of s k) = none := by simp [ha]
    rw [this]
    simp
theorem cutLen {es : List Ent} {s k : ByteArray} : (es.filter (notAt s k)).length = es.length ↔ es.any (fun x => x.of s k) = false := by
  rw [List.length_filter_eq_length_iff]
  constructor
  · intro h
    rw [← Bool.not_eq_true, List.any_eq_true]
    rintro ⟨x, hx, h2⟩
    have := h x hx
    unfold notAt at this
    rw [h2] at this
    cases this
  · intro h x hx
    unfold notAt
    rw [← Bool.not_eq_true, List.any_eq_true] at h
    cases h2 : x.of s k
    · rfl
    · exact absurd ⟨x, hx, h2⟩ h
theorem vlayer_dist {es : List Ent} (h : vlayer es = true) : distE es = true := by
  unfold vlayer okE at h
  simp only [Bool.and_eq_true] at h
  exact h.1.2
theorem vlayer_vent {es : List Ent} (h : vlayer es = true) : ∀ e ∈ es, vent e = true := by
  unfold vlayer okE at h
  simp only [Bool.and_eq_true, List.all_eq_true] at h
  exact h.1.1
theorem vlayer_20 {es : List Ent} (h : vlayer es = true) : es.length ≤ 20 := by
  unfold vlayer at h
  simp only [Bool.and_eq_true, decide_eq_true_eq] at h
  exact h.2
/-- what CutEntry makes -/
def cutB (es : List Ent) (s k : ByteArray) : Bool := vlayer es && es.any (fun x => x.of s k)
def cutL (es : List Ent) (s k : ByteArray) : List Ent := if cutB es s k = true then es.filter (notAt s k) else []
theorem cutL_le (es : List Ent) (s k : ByteArray) : (cutL es s k).length ≤ es.length := by
  unfold cutL
  split
  · exact List.length_filter_le _ _
  · simp
/-- the entry has a key -/
theorem vent_key {e : Ent} (h : vent e = true) : Ent.zero.same e = false := by
  unfold vent vplace at h
  simp only [Bool.and_eq_true] at h
  have h1 := h.1.2
  unfold vname at h1
  simp only [Bool.and_eq_true, decide_eq_true_eq] at h1
  have h2 : ¬ e.k.toList = [] := toList_ne (by omega)
  unfold Ent.same Ent.zero
  have h3 : (((⟨#[]⟩ : ByteArray).toList == e.k.toList)) = false := by
    rw [beq_eq_false_iff_ne]
    intro h4
    exact h2 (h4.symm.trans (toList_nil rfl))
  simp only []
  rw [h3]
  simp
/-- an entry is what another layer tells at its place -/
theorem common_eq {bs : List Ent} {e : Ent} (hb : distE bs = true) (he : vent e = true) : ((lastE bs e.s e.k).getD Ent.zero).same e = inE bs e := by
  rw [find_last bs hb]
  unfold inE
  cases h : bs.find? (fun x => x.of e.s e.k) with
  | none =>
    have hn : bs.any (fun x => x.of e.s e.k) = false := by
      rw [← Bool.not_eq_true, List.any_eq_true]
      rintro ⟨x, hx, h2⟩
      exact (List.find?_eq_none.1 h) x hx h2
    rw [entIdx_none hn]
    show Ent.zero.same e = _
    rw [vent_key he]
    split <;> simp
  | some x =>
    obtain ⟨j, hj, h1, h2⟩ := entIdx_some bs 0 x h
    unfold entIdx
    rw [h1]
    have h3 : ((0 + j : Nat) : Int).toNat = j := by omega
    rw [h3, List.getElem?_eq_getElem hj, h2]
    simp
def comE (xs bs : List Ent) : List Ent := if vlayer bs = true then keepE xs (inE bs) else []
theorem comE_le (xs bs : List Ent) : (comE xs bs).length ≤ xs.length := by
  unfold comE
  split
  · exact keepE_le _ _
  · simp
end Go.Proofs.YtkeiaenacpmilaaDoor
