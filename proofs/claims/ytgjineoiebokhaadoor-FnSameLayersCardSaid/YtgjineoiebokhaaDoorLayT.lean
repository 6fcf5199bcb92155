/-
  What the parts of layers tell: cuts, sections. Pure. No condition.
-/
import Derived.Test.YtgjineoiebokhaaDoorDropX
import Derived.Test.YtgjineoiebokhaaDoorLaySec
namespace Go.Proofs.YtgjineoiebokhaaDoor
open Go.RowKit

theorem keys_of_distE : ∀ es : List Ent, distE es = true → (es.map Ent.key).Nodup
  | [], _ => List.nodup_nil
  | e :: t, h => by
    unfold distE at h
    rw [Bool.and_eq_true, List.all_eq_true] at h
    rw [List.map_cons, List.nodup_cons]
    refine ⟨fun hm => ?_, keys_of_distE t h.2⟩
    obtain ⟨x, hx, e1⟩ := List.mem_map.1 hm
    have h1 := h.1 x hx
    obtain ⟨e2, e3⟩ := key_inj e1
    have h2 : e.of x.s x.k = true := (of_iff e x.s x.k).2 ⟨e2.symm, e3.symm⟩
    rw [h2] at h1
    cases h1
theorem vlayer_keys {es : List Ent} (h : vlayer es = true) : (es.map Ent.key).Nodup := keys_of_distE es (vlayer_dist h)
theorem cut_one (s k : ByteArray) : ∀ es : List Ent, distE es = true → (∃ x ∈ es, x.of s k = true) → (es.filter (notAt s k)).length + 1 = es.length
  | [], _, he => by obtain ⟨x, hx, _⟩ := he; cases hx
  | e :: t, h, he => by
    by_cases ho : e.of s k = true
    · have h1 := dist_none h ho
      have h2 : t.filter (notAt s k) = t := List.filter_eq_self.2 (fun x hx => by unfold notAt; rw [h1 x hx]; rfl)
      have h3 : notAt s k e = false := by unfold notAt; rw [ho]; rfl
      rw [List.filter_cons, h3, h2]
      rfl
    · have h3 : notAt s k e = true := by
        unfold notAt
        rcases hb : e.of s k with _ | _
        · rfl
        · exact absurd hb ho
      obtain ⟨x, hx, h4⟩ := he
      have hx2 : x ∈ t := by
        rcases List.mem_cons.1 hx with h5 | h5
        · rw [h5] at h4; exact absurd h4 ho
        · exact h5
      have ih := cut_one s k t (dist_tail h) ⟨x, hx2, h4⟩
      rw [List.filter_cons, h3, if_pos rfl, List.length_cons, List.length_cons, ih]
/-- the cut at an entry of a valid layer -/
theorem cut_at {es : List Ent} (h : vlayer es = true) {e : Ent} (he : e ∈ es) : cutB es e.s e.k = true ∧ vlayer (cutL es e.s e.k) = true ∧ (cutL es e.s e.k).length + 1 = es.length ∧ EFit (cutL es e.s e.k) := by
  have ho : e.of e.s e.k = true := (of_iff e e.s e.k).2 ⟨rfl, rfl⟩
  have h1 : cutB es e.s e.k = true := by
    unfold cutB
    rw [h, Bool.true_and, List.any_eq_true]
    exact ⟨e, he, ho⟩
  have h2 : cutL es e.s e.k = es.filter (notAt e.s e.k) := by unfold cutL; rw [if_pos h1]
  have h3 := vlayer_filter h (vlayer_keys h) (notAt e.s e.k)
  rw [h2]
  exact ⟨h1, h3, cut_one e.s e.k es (vlayer_dist h) ⟨e, he, ho⟩, vlayer_fit h3⟩
theorem addT_mem2 {xs : List ByteArray} {s x : ByteArray} : x ∈ addT xs s ↔ x ∈ xs ∨ x = s := by
  unfold addT
  split
  · rename_i h
    constructor
    · exact .inl
    · rintro (h1 | rfl)
      · exact h1
      · exact hasT_mem.1 h
  · rw [List.mem_append, List.mem_singleton]
theorem secF_mem : ∀ (es : List Ent) (acc : List ByteArray) (x : ByteArray), x ∈ es.foldl (fun a e => addT a e.s) acc ↔ x ∈ acc ∨ ∃ e ∈ es, e.s = x
  | [], acc, x => by simp
  | e :: t, acc, x => by
    rw [List.foldl_cons, secF_mem t, addT_mem2]
    constructor
    · rintro ((h | h) | ⟨y, hy, h⟩)
      · exact .inl h
      · exact .inr ⟨e, List.mem_cons_self, h.symm⟩
      · exact .inr ⟨y, List.mem_cons_of_mem _ hy, h⟩
    · rintro (h | ⟨y, hy, h⟩)
      · exact .inl (.inl h)
      · rcases List.mem_cons.1 hy with h1 | h1
        · subst h1; exact .inl (.inr h.symm)
        · exact .inr ⟨y, h1, h⟩
theorem secF_nodup : ∀ (es : List Ent) (acc : List ByteArray), acc.Nodup → (es.foldl (fun a e => addT a e.s) acc).Nodup
  | [], _, h => h
  | e :: t, acc, h => by
    rw [List.foldl_cons]
    exact secF_nodup t _ (addT_nodup h)
theorem secL_nodup (es : List Ent) : (secL es).Nodup := by
  unfold secL
  split
  · exact secF_nodup es [] List.nodup_nil
  · exact List.nodup_nil
/-- each section of a layer has an entry -/
theorem secL_some {es : List Ent} {x : ByteArray} (hx : x ∈ secL es) : 0 < (keepE es (ofSec x)).length := by
  unfold secL at hx
  split at hx
  · rename_i hv
    rcases (secF_mem es [] x).1 hx with h | ⟨e, he, h⟩
    · cases h
    · rw [keepE_yes hv]
      refine List.length_pos_of_mem (List.mem_filter.2 ⟨he, ?_⟩)
      unfold ofSec
      rw [h]
      simp
  · cases hx
/-- the sections' parts are the layer -/
theorem part_sum : ∀ (xs : List ByteArray) (es : List Ent), xs.Nodup → (∀ e ∈ es, e.s ∈ xs) → (xs.map fun x => (es.filter (ofSec x)).length).foldl (· + ·) 0 = es.length := by
  have hs : ∀ (e : Ent) (x : ByteArray), ofSec x e = true ↔ e.s = x := fun e x => by
    unfold ofSec
    rw [beq_iff_eq]
    exact ⟨fun h => toList_inj h, fun h => by rw [h]⟩
  have hfold : ∀ (l : List Nat) (a : Nat), l.foldl (· + ·) a = a + l.foldl (· + ·) 0 := by
    intro l
    induction l with
    | nil => intro a; rfl
    | cons y l ih => intro a; rw [List.foldl_cons, List.foldl_cons, ih (a + y), ih (0 + y)]; omega
  intro xs
  induction xs with
  | nil =>
    intro es _ h
    rcases es with _ | ⟨e, t⟩
    · rfl
    · exact absurd (h e List.mem_cons_self) (by simp)
  | cons x xs ih =>
    intro es hn h
    rw [List.nodup_cons] at hn
    have h1 := ih (es.filter fun e => !ofSec x e) hn.2 (fun e he => by
      obtain ⟨h2, h3⟩ := List.mem_filter.1 he
      rcases List.mem_cons.1 (h e h2) with h4 | h4
      · rw [(hs e x).2 h4] at h3; cases h3
      · exact h4)
    have h5 : ∀ y ∈ xs, ((es.filter fun e => !ofSec x e).filter (ofSec y)).length = (es.filter (ofSec y)).length := fun y hy => by
      rw [List.filter_filter]
      congr 1
      refine List.filter_congr (fun e _ => ?_)
      rcases hb : ofSec y e with _ | _
      · rfl
      · rw [Bool.true_and]
        have h6 := (hs e y).1 hb
        rcases hc : ofSec x e with _ | _
        · rfl
        · have h7 := (hs e x).1 hc
          rw [← h7, h6] at hn
          exact absurd hy hn.1
    have h6 : (xs.map fun y => ((es.filter fun e => !ofSec x e).filter (ofSec y)).length) = xs.map fun y => (es.filter (ofSec y)).length := List.map_congr_left h5
    rw [h6] at h1
    rw [List.map_cons, List.foldl_cons, hfold, h1]
    have h7 : ∀ l : List Ent, (l.filter (ofSec x)).length + (l.filter fun e => !ofSec x e).length = l.length := by
      intro l
      induction l with
      | nil => rfl
      | cons e l ih2 =>
        rw [List.filter_cons, List.filter_cons]
        rcases hb : ofSec x e with _ | _
        · simp only [Bool.not_false, if_true]
          rw [if_neg (by simp), List.length_cons, List.length_cons]
          omega
        · simp only [Bool.not_true, if_true]
          rw [if_neg (by simp), List.length_cons, List.length_cons]
          omega
    have := h7 es
    omega
end Go.Proofs.YtgjineoiebokhaaDoor
