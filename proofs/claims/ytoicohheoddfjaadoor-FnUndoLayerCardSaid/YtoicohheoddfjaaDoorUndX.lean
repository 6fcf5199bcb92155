/-
  A patch over a flat layer tells what the other layer tells; flat layers that tell the same are the same. No program, no condition.
-/
import Derived.Test.YtoicohheoddfjaaDoorRslX
import Derived.Test.YtoicohheoddfjaaDoorPatP
import Derived.Test.YtoicohheoddfjaaDoorSameL
import Derived.Test.YtoicohheoddfjaaDoorLawVL
namespace Go.Proofs.YtoicohheoddfjaaDoor
open Go.RowKit

theorem keysU_of_distE : ∀ es : List Ent, distE es = true → (es.map Ent.key).Nodup
  | [], _ => List.nodup_nil
  | e :: t, h => by
    unfold distE at h
    rw [Bool.and_eq_true, List.all_eq_true] at h
    rw [List.map_cons, List.nodup_cons]
    refine ⟨fun hm => ?_, keysU_of_distE t h.2⟩
    obtain ⟨x, hx, e1⟩ := List.mem_map.1 hm
    have h1 := h.1 x hx
    obtain ⟨e2, e3⟩ := key_inj e1
    have h2 : e.of x.s x.k = true := (of_iff e x.s x.k).2 ⟨e2.symm, e3.symm⟩
    rw [h2] at h1
    cases h1
theorem vlayer_keysU {es : List Ent} (h : vlayer es = true) : (es.map Ent.key).Nodup := keysU_of_distE es (vlayer_dist h)
theorem find_and (q : Ent → Bool) (s k : ByteArray) : ∀ H : List Ent, distE H = true → H.find? (fun a => q a && a.of s k) = match H.find? (fun x => x.of s k) with
    | some e => if q e = true then some e else none
    | none => none := by
  intro H
  induction H with
  | nil => intro _; rfl
  | cons a t ih =>
    intro hd
    rw [distE, Bool.and_eq_true] at hd
    by_cases ha : a.of s k = true
    · rw [List.find?_cons_of_pos (p := fun x : Ent => x.of s k) ha]
      have hn : t.find? (fun x => x.of s k) = none := by
        rw [List.find?_eq_none]
        intro x hx h2
        have h3 := hd.1
        rw [List.all_eq_true] at h3
        have h4 := h3 x hx
        rw [of_sym ha h2] at h4
        cases h4
      by_cases hq : q a = true
      · rw [List.find?_cons_of_pos (p := fun x : Ent => q x && x.of s k) (by rw [hq, ha]; rfl)]
        simp [hq]
      · have hq' : q a = false := by simpa using hq
        rw [List.find?_cons_of_neg (p := fun x : Ent => q x && x.of s k) (by rw [hq']; simp), ih hd.2, hn]
        simp [hq']
    · have ha' : a.of s k = false := by simpa using ha
      rw [List.find?_cons_of_neg (p := fun x : Ent => q x && x.of s k) (by rw [ha']; simp), List.find?_cons_of_neg (p := fun x : Ent => x.of s k) ha, ih hd.2]
theorem find_filt (p q : Ent → Bool) : ∀ l : List Ent, (l.filter p).find? q = l.find? (fun a => p a && q a) := by
  intro l
  induction l with
  | nil => rfl
  | cons a t ih =>
    cases hp : p a <;> cases hq : q a <;> simp [hp, hq, ih]
theorem patch_find (N H : List Ent) (hH : distE H = true) (s k : ByteArray) : (patchR N H).find? (fun x => x.of s k) = match H.find? (fun x => x.of s k) with
    | some e => if newIn N e = true then some e else none
    | none => (N.find? (fun x => x.of s k)).map dropE := by
  unfold patchR
  rw [List.find?_append, List.find?_map, find_filt, find_filt, find_and (newIn N) s k H hH]
  have hc : ((fun x : Ent => x.of s k) ∘ dropE) = fun x : Ent => x.of s k := rfl
  rw [hc]
  cases hb : H.find? (fun x => x.of s k) with
  | some e =>
    have hem := List.mem_of_find?_eq_some hb
    have hep : e.of s k = true := by have h9 := List.find?_some hb; exact h9
    obtain ⟨e1, e2⟩ := (of_iff e s k).1 hep
    have h0 : N.find? (fun a => freshIn H a && a.of s k) = none := by
      rw [List.find?_eq_none]
      intro a _ h1
      rw [Bool.and_eq_true] at h1
      obtain ⟨a1, a2⟩ := (of_iff a s k).1 h1.2
      have h2 := h1.1
      unfold freshIn at h2
      rw [a1, a2] at h2
      have h3 : (H.any fun y => y.of s k) = true := by
        rw [List.any_eq_true]
        exact ⟨e, hem, hep⟩
      rw [h3] at h2
      cases h2
    rw [h0]
    rfl
  | none =>
    have h0 : (fun a : Ent => freshIn H a && a.of s k) = fun a : Ent => a.of s k := by
      funext a
      by_cases ha : a.of s k = true
      · obtain ⟨a1, a2⟩ := (of_iff a s k).1 ha
        have h2 : freshIn H a = true := by
          unfold freshIn
          rw [a1, a2]
          rw [List.find?_eq_none] at hb
          rw [Bool.not_eq_true', ← Bool.not_eq_true, List.any_eq_true]
          rintro ⟨y, hy, h5⟩
          exact hb y hy h5
        simp [h2, ha]
      · have ha' : a.of s k = false := by simpa using ha
        simp [ha']
    rw [h0]
    cases N.find? (fun x => x.of s k) <;> rfl
theorem flat_op {X : List Ent} (h : vflat X = true) : ∀ e ∈ X, e.op = 0 := by
  unfold vflat at h
  rw [Bool.and_eq_true] at h
  have hf : flatE X = true := by first | exact h.1 | exact h.2
  unfold flatE at hf
  rw [List.all_eq_true] at hf
  exact fun e he => of_decide_eq_true (hf e he)
theorem step_set {e : Ent} (h : e.op = 0) (cur : Option ByteArray) : stepV cur e = some e.v := by
  unfold stepV
  rw [if_pos h]
theorem told_undo {N H : List Ent} (hN : vflat N = true) (hH : vflat H = true) (hU : vlayer (patchR N H) = true) (s k : ByteArray) : toldV [patchR N H, N] s k = toldV [H] s k := by
  have dN := vlayer_dist (vflat_vlayer hN)
  have dH := vlayer_dist (vflat_vlayer hH)
  rw [told_two _ _ (vlayer_dist hU), told_one _ dN, told_one _ dH, patch_find N H dH]
  cases hb : H.find? (fun x => x.of s k) with
  | some e =>
    have hem := List.mem_of_find?_eq_some hb
    have hep : e.of s k = true := by have h9 := List.find?_some hb; exact h9
    obtain ⟨e1, e2⟩ := (of_iff e s k).1 hep
    simp only []
    rw [step_set (flat_op hH e hem)]
    have hl : lastE N e.s e.k = N.find? (fun x => x.of s k) := by rw [find_last N dN, e1, e2]
    unfold newIn
    rw [hl]
    cases hx : N.find? (fun x => x.of s k) with
    | none => simp [step_set (flat_op hH e hem)]
    | some t =>
      have htm := List.mem_of_find?_eq_some hx
      simp only []
      by_cases hv : (t.v.toList == e.v.toList) = true
      · have hve : t.v = e.v := toList_inj (by simpa using hv)
        rw [if_neg (by rw [hv]; simp)]
        simp only []
        rw [step_set (flat_op hN t htm), hve]
      · rw [if_pos (by simpa using hv)]
        simp only []
        rw [step_set (flat_op hH e hem)]
  | none =>
    simp only []
    cases hx : N.find? (fun x => x.of s k) with
    | none => rfl
    | some t => rfl
theorem findU_dist : ∀ (es : List Ent), distE es = true → ∀ e ∈ es, es.find? (fun x => x.of e.s e.k) = some e := by
  intro es
  induction es with
  | nil => intro _ e he; cases he
  | cons a t ih =>
    intro h e he
    rw [distE, Bool.and_eq_true] at h
    rcases List.mem_cons.1 he with rfl | he
    · rw [List.find?_cons_of_pos (p := fun x : Ent => x.of e.s e.k) ((of_iff e e.s e.k).2 ⟨rfl, rfl⟩)]
    · have h1 := h.1
      rw [List.all_eq_true] at h1
      have h2 := h1 e he
      rw [List.find?_cons_of_neg (p := fun x : Ent => x.of e.s e.k) (by
        intro h3
        rw [h3] at h2
        cases h2)]
      exact ih h.2 e he
theorem same_half {X H : List Ent} (hX : vflat X = true) (hH : vflat H = true) (h : ∀ s k, toldV [X] s k = toldV [H] s k) : ∀ e ∈ X, e ∈ H := fun e he => by
  have h1 := h e.s e.k
  rw [told_one _ (vlayer_dist (vflat_vlayer hX)), told_one _ (vlayer_dist (vflat_vlayer hH)), findU_dist X (vlayer_dist (vflat_vlayer hX)) e he] at h1
  simp only [] at h1
  rw [step_set (flat_op hX e he)] at h1
  cases hb : H.find? (fun x => x.of e.s e.k) with
  | none => rw [hb] at h1; cases h1
  | some y =>
    rw [hb] at h1
    have hym := List.mem_of_find?_eq_some hb
    have hyp : y.of e.s e.k = true := by have h9 := List.find?_some hb; exact h9
    obtain ⟨y1, y2⟩ := (of_iff y e.s e.k).1 hyp
    simp only [] at h1
    rw [step_set (flat_op hH y hym)] at h1
    injection h1 with h1
    have hy0 := flat_op hH y hym
    have he0 := flat_op hX e he
    obtain ⟨ys, yk, yo, yv⟩ := y
    obtain ⟨es, ek, eo, ev⟩ := e
    simp only at y1 y2 h1 hy0 he0
    subst y1 y2 h1 hy0 he0
    exact hym
theorem same_told {X H : List Ent} (hX : vflat X = true) (hH : vflat H = true) (h : ∀ s k, toldV [X] s k = toldV [H] s k) : sameL X H = true := by
  unfold sameL
  rw [vflat_vlayer hX, vflat_vlayer hH]
  exact sameE_of (vlayer_keysU (vflat_vlayer hX)) (vlayer_keysU (vflat_vlayer hH)) (fun e => ⟨same_half hX hH h e, same_half hH hX (fun s k => (h s k).symm) e⟩)
end Go.Proofs.YtoicohheoddfjaaDoor
