/-
  Flat layers are their own flat layers; what is flattened is flat; Flatten and IsFlat at rows that calls have made. Conditions: parts of at most 1048576 bytes.
-/
import Derived.Test.YtcecjdjfbgmogaaDoorFltI
import Derived.Test.YtcecjdjfbgmogaaDoorOneL
import Derived.Test.YtcecjdjfbgmogaaDoorLawVL
namespace Go.Proofs.YtcecjdjfbgmogaaDoor
open Go.RowKit

theorem firstsE_dist (es : List Ent) : distE es = true → firstsE es = es := by
  refine snocInd (P := fun es => distE es = true → firstsE es = es) (fun _ => rfl) ?_ es
  intro l a ih h
  rw [distE_snoc, Bool.and_eq_true] at h
  have h2 := h.2
  rw [any_fresh] at h2
  rw [firstsE_snoc, ih h.1, if_neg (by
    intro h3
    rw [h3] at h2
    cases h2)]
theorem find_dist : ∀ (es : List Ent), distE es = true → ∀ e ∈ es, es.find? (fun x => x.of e.s e.k) = some e := by
  intro es
  induction es with
  | nil => intro _ e he; cases he
  | cons a t ih =>
    intro h e he
    rw [distE, Bool.and_eq_true] at h
    rcases List.mem_cons.1 he with rfl | he
    · rw [List.find?_cons_of_pos (p := fun x : Ent => x.of e.s e.k) ((of_iff e e.s e.k).2 ⟨rfl, rfl⟩)]
    · have h1 := h.1
      rw [List.all_eq_true] at h1
      have h2 := h1 e he
      rw [List.find?_cons_of_neg (p := fun x : Ent => x.of e.s e.k) (by
        intro h3
        rw [h3] at h2
        cases h2)]
      exact ih h.2 e he
theorem filterMap_self {f : Ent → Option Ent} : ∀ {es : List Ent}, (∀ e ∈ es, f e = some e) → es.filterMap f = es := by
  intro es
  induction es with
  | nil => intro _; rfl
  | cons a t ih =>
    intro h
    rw [List.filterMap_cons_some (h a (by simp)), ih (fun e he => h e (by simp [he]))]
theorem flatR_flat {es : List Ent} (h : vflat es = true) : flatR [es] = es ∧ vlayer es = true := by
  unfold vflat at h
  rw [Bool.and_eq_true] at h
  have hv : vlayer es = true := by first | exact h.2 | exact h.1
  have hf : flatE es = true := by first | exact h.1 | exact h.2
  have hd := vlayer_dist hv
  refine ⟨?_, hv⟩
  unfold flatR
  rw [allE_one, firstsE_dist es hd]
  have h1 : ∀ e ∈ es, flatOne (toldV [es]) e = some e := fun e he => by
    unfold flatOne
    rw [told_one es hd, find_dist es hd e he]
    unfold flatE at hf
    rw [List.all_eq_true] at hf
    have h2 := hf e he
    rw [decide_eq_true_eq] at h2
    obtain ⟨es1, ek, eo, ev⟩ := e
    simp only at h2
    subst h2
    rfl
  clear h hf hv hd
  exact filterMap_self h1
theorem flatR_ops (sl : List (List Ent)) : flatE (flatR sl) = true := by
  unfold flatE flatR
  rw [List.all_eq_true]
  intro e he
  obtain ⟨x, _, hx⟩ := List.mem_filterMap.1 he
  unfold flatOne at hx
  obtain ⟨v, _, rfl⟩ := Option.map_eq_some_iff.1 hx
  rfl
theorem flatB_yes {sl : List (List Ent)} (h : flatB sl = true) : vstack sl = true ∧ vlayer (flatR sl) = true ∧ flatL sl = flatR sl := by
  unfold flatB at h
  rw [Bool.and_eq_true] at h
  refine ⟨h.1, h.2, ?_⟩
  rw [(flatL_yes h.1).1]
  unfold chkE
  rw [if_pos h.2]
theorem flat_flat {sl : List (List Ent)} (h : flatB sl = true) : vflat (flatL sl) = true := by
  obtain ⟨_, h2, h3⟩ := flatB_yes h
  rw [h3]
  unfold vflat
  rw [flatR_ops, h2]
  rfl
theorem flat_own {es : List Ent} (h : vflat es = true) : flatB [es] = true ∧ flatL [es] = es := by
  obtain ⟨h1, h2⟩ := flatR_flat h
  have h3 : flatB [es] = true := by
    unfold flatB
    rw [h1, vstack_one, h2]
    rfl
  exact ⟨h3, by rw [(flatB_yes h3).2.2, h1]⟩
theorem flatL_fit (sl : List (List Ent)) : EFit (flatL sl) := by
  unfold flatL
  split
  · rename_i h
    unfold chkE
    split
    · exact flatR_fit h
    · exact ⟨Nat.zero_le _, fun _ h => absurd h (Nat.not_lt_zero _)⟩
  · exact ⟨Nat.zero_le _, fun _ h => absurd h (Nat.not_lt_zero _)⟩
theorem implFlat_own (v : Value) (b : Nat) (es : List Ent) (w : World) (hf : EFit es) (h : OwnE w b v es) :
    Calls Tryd.prog 39 #[.agg #[v]] w fun e w' => e = .returned (.bool (vflat es)) ∧ Grows w w' := by
  obtain ⟨A, c, rfl, _, hA⟩ := h.formC
  exact implFlat_any A c es w hf hA
theorem implFlatten1_own (v : Value) (b g : Nat) (es : List Ent) (w : World) (hf : EFit es) (h : OwnE w b v es) (hc : w.cell? ⟨g, 0, none⟩ = some v) (hg : g < w.heap.size) :
    Calls Tryd.prog 12 #[.slice (some ⟨g, 0, none⟩) 1 1] w (ResEB (flatL [es]) (flatB [es]) w) :=
  implFlatten_any (some ⟨g, 0, none⟩) 1 [es] w (by simp) (fit_one hf) (stack_one h hc hg)
theorem implFlatten2_own (v u : Value) (b d g : Nat) (es fs : List Ent) (w : World) (hf : EFit es) (hf2 : EFit fs) (h : OwnE w b v es) (k : OwnE w d u fs) (hc : w.cell? ⟨g, 0, none⟩ = some v) (hd : w.cell? ⟨g, 1, none⟩ = some u) (hg : g < w.heap.size) :
    Calls Tryd.prog 12 #[.slice (some ⟨g, 0, none⟩) 2 2] w (ResEB (flatL [es, fs]) (flatB [es, fs]) w) :=
  implFlatten_any (some ⟨g, 0, none⟩) 2 [es, fs] w (by simp) (fit_two hf hf2) (stack_two h k hc hd hg)
end Go.Proofs.YtcecjdjfbgmogaaDoor
