/-
  Merging the two upper layers of a stack first changes nothing that the flattened stack tells. No program, no condition.
-/
import Derived.Test.YtddecipodofliaaDoorFltX
import Derived.Test.YtddecipodofliaaDoorSameL
namespace Go.Proofs.YtddecipodofliaaDoor
open Go.RowKit

theorem foldM_none (s k : ByteArray) : ∀ (es : List Ent) (V : PV), (es.any fun x => x.of s k) = false → foldV es V s k = V s k := by
  intro es
  induction es with
  | nil => intro V _; rfl
  | cons e t ih =>
    intro V h
    rw [List.any_cons, Bool.or_eq_false_iff] at h
    have h1 : foldV (e :: t) V = foldV t (layV V e) := rfl
    rw [h1, ih _ h.2]
    unfold layV
    rw [if_neg (by rw [h.1]; simp)]
theorem flatR_mem (sl : List (List Ent)) (e : Ent) : e ∈ flatR sl ↔ e.op = 0 ∧ toldV sl e.s e.k = some e.v := by
  unfold flatR
  rw [List.mem_filterMap]
  constructor
  · rintro ⟨x, _, hx⟩
    unfold flatOne at hx
    obtain ⟨v, hv, rfl⟩ := Option.map_eq_some_iff.1 hx
    exact ⟨rfl, hv⟩
  · rintro ⟨h0, h1⟩
    have ha : ((allE sl).any fun x => x.of e.s e.k) = true := by
      by_cases ha : ((allE sl).any fun x => x.of e.s e.k) = true
      · exact ha
      · have ha' : ((allE sl).any fun x => x.of e.s e.k) = false := by simpa using ha
        unfold toldV at h1
        rw [foldM_none _ _ _ _ ha'] at h1
        cases h1
    rw [← firstsE_any] at ha
    obtain ⟨x, hx, h2⟩ := List.any_eq_true.1 ha
    obtain ⟨h3, h4⟩ := (of_iff x e.s e.k).1 h2
    refine ⟨x, hx, ?_⟩
    unfold flatOne
    rw [h3, h4, h1]
    obtain ⟨es, ek, eo, ev⟩ := e
    simp only at h0
    subst h0
    rfl
theorem firstsE_distE (es : List Ent) : distE (firstsE es) = true := by
  refine snocInd (P := fun es => distE (firstsE es) = true) rfl ?_ es
  intro l a ih
  rw [firstsE_snoc]
  split
  · exact ih
  · rename_i h
    rw [distE_snoc, ih, any_fresh]
    simpa using h
theorem filterMap_dist (V : PV) : ∀ F : List Ent, distE F = true → distE (F.filterMap (flatOne V)) = true := by
  intro F
  induction F with
  | nil => intro _; rfl
  | cons a t ih =>
    intro h
    rw [distE, Bool.and_eq_true] at h
    cases hf : flatOne V a with
    | none => rw [List.filterMap_cons_none hf]; exact ih h.2
    | some e =>
      rw [List.filterMap_cons_some hf, distE, Bool.and_eq_true]
      refine ⟨?_, ih h.2⟩
      unfold flatOne at hf
      obtain ⟨v, _, rfl⟩ := Option.map_eq_some_iff.1 hf
      rw [List.all_eq_true]
      intro x hx
      obtain ⟨y, hy, hy2⟩ := List.mem_filterMap.1 hx
      unfold flatOne at hy2
      obtain ⟨v2, _, rfl⟩ := Option.map_eq_some_iff.1 hy2
      have h1 := h.1
      rw [List.all_eq_true] at h1
      exact h1 y hy
theorem flatR_dist (sl : List (List Ent)) : distE (flatR sl) = true := filterMap_dist _ _ (firstsE_distE _)
theorem keysF_of_distE : ∀ es : List Ent, distE es = true → (es.map Ent.key).Nodup
  | [], _ => List.nodup_nil
  | e :: t, h => by
    unfold distE at h
    rw [Bool.and_eq_true, List.all_eq_true] at h
    rw [List.map_cons, List.nodup_cons]
    refine ⟨fun hm => ?_, keysF_of_distE t h.2⟩
    obtain ⟨x, hx, e1⟩ := List.mem_map.1 hm
    have h1 := h.1 x hx
    obtain ⟨e2, e3⟩ := key_inj e1
    have h2 : e.of x.s x.k = true := (of_iff e x.s x.k).2 ⟨e2.symm, e3.symm⟩
    rw [h2] at h1
    cases h1
theorem flat_alike {A B : List (List Ent)} (hA : flatB A = true) (hB : vstack B = true) (h : ∀ s k, toldV B s k = toldV A s k) : flatB B = true ∧ sameL (flatL B) (flatL A) = true := by
  obtain ⟨_, a2, a3⟩ := flatB_yes hA
  have hm : ∀ e, e ∈ flatR B ↔ e ∈ flatR A := fun e => by rw [flatR_mem, flatR_mem, h]
  have hs : sameE (flatR B) (flatR A) = true := sameE_of (keysF_of_distE _ (flatR_dist B)) (keysF_of_distE _ (flatR_dist A)) hm
  have hl : (flatR B).length = (flatR A).length := by
    have h2 := hs
    unfold sameE at h2
    rw [Bool.and_eq_true, decide_eq_true_iff] at h2
    exact h2.1
  have h20 : (flatR A).length ≤ 20 := by
    have h3 := a2
    unfold vlayer at h3
    rw [Bool.and_eq_true, decide_eq_true_iff] at h3
    exact h3.2
  have hv : vlayer (flatR B) = true := by
    unfold vlayer okE
    rw [flatR_dist B, Bool.and_true, Bool.and_eq_true, decide_eq_true_iff, List.all_eq_true]
    exact ⟨fun e he => vlayer_vent a2 e ((hm e).1 he), by omega⟩
  have hb : flatB B = true := by unfold flatB; rw [hB, hv]; rfl
  refine ⟨hb, ?_⟩
  rw [(flatB_yes hb).2.2, a3]
  unfold sameL
  rw [hv, a2, hs]
  rfl
theorem told_cons (a : List Ent) (rest : List (List Ent)) (h : distE a = true) (s k : ByteArray) : toldV (a :: rest) s k = match a.find? (fun x => x.of s k) with
    | some e => stepV (toldV rest s k) e
    | none => toldV rest s k := by
  unfold toldV
  rw [allE_cons, foldV_app, foldV_at s k a _ h]
  cases a.find? (fun x => x.of s k) <;> rfl
theorem step_overC {t b : Ent} (h1 : vent t = true) (h2 : vent b = true) (c : Option ByteArray) : stepV c (overE t b) = stepV (stepV c b) t := by
  rcases vent_ops3 h1 with h | h | h
  · unfold overE
    rw [if_neg (by omega)]
    unfold stepV
    simp [h]
  · unfold overE
    rw [if_neg (by omega)]
    unfold stepV
    simp [h]
  · unfold overE
    rw [if_pos h]
    rcases vent_ops3 h2 with g | g | g
    · rw [if_neg (by omega)]
      unfold stepV addV
      simp [h, g]
    · rw [if_pos g]
      unfold stepV addV
      simp [h, g]
    · rw [if_neg (by omega)]
      unfold stepV addV
      cases c <;> simp [h, g, ByteArray.append_assoc]
theorem told_mergeC {xs bs : List Ent} (rest : List (List Ent)) (h1 : vlayer xs = true) (h2 : vlayer bs = true) (h3 : vlayer (mergeR xs bs) = true) (s k : ByteArray) : toldV (mergeR xs bs :: rest) s k = toldV (xs :: bs :: rest) s k := by
  rw [told_cons _ _ (vlayer_dist h3), told_cons _ _ (vlayer_dist h1), told_cons _ _ (vlayer_dist h2), merge_find]
  cases hb : bs.find? (fun x => x.of s k) with
  | none => rfl
  | some b =>
    have hbm := List.mem_of_find?_eq_some hb
    have hbp := List.find?_some hb
    obtain ⟨e1, e2⟩ := (of_iff b s k).1 hbp
    have hl : lastE xs b.s b.k = xs.find? (fun x => x.of s k) := by rw [find_last xs (vlayer_dist h1), e1, e2]
    simp only []
    unfold ovr
    rw [hl]
    cases hx : xs.find? (fun x => x.of s k) with
    | none => rfl
    | some t => exact step_overC (vlayer_vent h1 t (List.mem_of_find?_eq_some hx)) (vlayer_vent h2 b hbm) _
theorem flat_merge {a b : List Ent} {rest : List (List Ent)} (h : flatB (a :: b :: rest) = true) (hm : mergeB a b = true) : flatB (mergeL a b :: rest) = true ∧ sameL (flatL (mergeL a b :: rest)) (flatL (a :: b :: rest)) = true := by
  obtain ⟨h1, h2, h3, h4⟩ := mergeB_iff hm
  rw [h4]
  have hs := (flatB_yes h).1
  refine flat_alike h ?_ (told_mergeC rest h1 h2 h3)
  unfold vstack at hs ⊢
  rw [Bool.and_eq_true, decide_eq_true_iff] at hs ⊢
  have hx := hs.1
  rw [List.all_cons, List.all_cons, Bool.and_eq_true, Bool.and_eq_true] at hx
  refine ⟨by rw [List.all_cons, h3, hx.2.2]; rfl, ?_⟩
  have hy := hs.2
  simp only [List.length_cons] at hy ⊢
  omega
end Go.Proofs.YtddecipodofliaaDoor
