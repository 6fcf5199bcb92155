/-
  What a stack of layers tells: values folded from the last layer up, the first entries of their places, the flat list. No program, no condition.
-/
import Derived.Test.YtkjoolmhcfajnaaDoorMrgP
namespace Go.Proofs.YtkjoolmhcfajnaaDoor
open Go.RowKit

/-- a value for each place that has one -/
abbrev PV := ByteArray → ByteArray → Option ByteArray
def addV (low : Option ByteArray) (v : ByteArray) : ByteArray := match low with
  | some l => l ++ ⟨#[44]⟩ ++ v
  | none => v
def stepV (cur : Option ByteArray) (e : Ent) : Option ByteArray := if e.op = 0 then some e.v else if e.op = 1 then none else if e.op = 2 then some (addV cur e.v) else cur
def layV (V : PV) (e : Ent) : PV := fun s k => if e.of s k = true then stepV (V s k) e else V s k
def foldV (es : List Ent) (V : PV) : PV := es.foldl layV V
def noV : PV := fun _ _ => none
/-- the entries from the last layer up -/
def allE (sl : List (List Ent)) : List Ent := sl.reverse.flatten
def toldV (sl : List (List Ent)) : PV := foldV (allE sl) noV
def vstack (sl : List (List Ent)) : Bool := sl.all vlayer && decide (sl.length ≤ 5)
theorem vstack_all {sl : List (List Ent)} (h : vstack sl = true) : ∀ l ∈ sl, vlayer l = true := by
  unfold vstack at h
  rw [Bool.and_eq_true, List.all_eq_true] at h
  exact h.1
theorem vstack_5 {sl : List (List Ent)} (h : vstack sl = true) : sl.length ≤ 5 := by
  unfold vstack at h
  simp only [Bool.and_eq_true, decide_eq_true_eq] at h
  exact h.2
theorem allE_nil : allE [] = [] := rfl
theorem allE_cons (a : List Ent) (t : List (List Ent)) : allE (a :: t) = allE t ++ a := by simp [allE]
theorem allE_drop {sl : List (List Ent)} {i : Nat} (h : i < sl.length) : allE (sl.drop i) = allE (sl.drop (i + 1)) ++ sl[i] := by
  rw [List.drop_eq_getElem_cons h, allE_cons]
theorem foldV_app (xs ys : List Ent) (V : PV) : foldV (xs ++ ys) V = foldV ys (foldV xs V) := by simp [foldV]
theorem foldV_snoc (xs : List Ent) (e : Ent) (V : PV) : foldV (xs ++ [e]) V = layV (foldV xs V) e := by simp [foldV]
theorem of_sym {a b : Ent} {s k : ByteArray} (h1 : a.of s k = true) (h2 : b.of s k = true) : a.of b.s b.k = true := by
  obtain ⟨h3, h4⟩ := (of_iff a s k).1 h1
  obtain ⟨h5, h6⟩ := (of_iff b s k).1 h2
  exact (of_iff a b.s b.k).2 ⟨by rw [h3, h5], by rw [h4, h6]⟩
theorem foldV_at (s k : ByteArray) : ∀ (es : List Ent) (V : PV), distE es = true → foldV es V s k = match es.find? (fun x => x.of s k) with
    | some e => stepV (V s k) e
    | none => V s k := by
  intro es
  induction es with
  | nil => intro V _; rfl
  | cons e t ih =>
    intro V hd
    have hd' := hd
    rw [distE, Bool.and_eq_true] at hd'
    have h1 : foldV (e :: t) V = foldV t (layV V e) := rfl
    rw [h1, ih _ hd'.2]
    by_cases he : e.of s k = true
    · have hn : t.find? (fun x => x.of s k) = none := by
        rw [List.find?_eq_none]
        intro x hx h2
        have h3 := hd'.1
        rw [List.all_eq_true] at h3
        have h4 := h3 x hx
        rw [of_sym he h2] at h4
        cases h4
      rw [hn, List.find?_cons_of_pos (p := fun x : Ent => x.of s k) he]
      show layV V e s k = _
      unfold layV
      rw [if_pos he]
    · rw [List.find?_cons_of_neg (p := fun x : Ent => x.of s k) he]
      have h5 : layV V e s k = V s k := by unfold layV; rw [if_neg he]
      rw [h5]
/-- how long values can be -/
theorem foldV_size (es : List Ent) : (∀ e ∈ es, e.v.size ≤ 40) → ∀ s k v, foldV es noV s k = some v → v.size ≤ 41 * es.length := by
  refine snocInd (P := fun es => (∀ e ∈ es, e.v.size ≤ 40) → ∀ s k v, foldV es noV s k = some v → v.size ≤ 41 * es.length) ?_ ?_ es
  · intro _ s k v h
    cases h
  · intro l a ih hf s k v h
    have ha := hf a (by simp)
    have ih := ih (fun e he => hf e (by simp [he]))
    rw [foldV_snoc] at h
    unfold layV at h
    rw [List.length_append, List.length_singleton]
    split at h
    · unfold stepV at h
      split at h
      · cases h; omega
      · split at h
        · cases h
        · split at h
          · injection h with h
            subst h
            cases hc : foldV l noV s k with
            | none => show a.v.size ≤ _; omega
            | some b =>
              have hb := ih s k b hc
              show (b ++ ⟨#[44]⟩ ++ a.v).size ≤ _
              rw [ByteArray.size_append, ByteArray.size_append]
              have h9 : (⟨#[44]⟩ : ByteArray).size = 1 := rfl
              omega
          · have := ih s k v h; omega
    · have := ih s k v h; omega
theorem ent_v40 {e : Ent} (h : vent e = true) : e.v.size ≤ 40 := (ent_fits' h).2.2
theorem allE_mem {sl : List (List Ent)} {e : Ent} (h : e ∈ allE sl) : ∃ l ∈ sl, e ∈ l := by
  unfold allE at h
  obtain ⟨l, hl, he⟩ := List.mem_flatten.1 h
  exact ⟨l, List.mem_reverse.1 hl, he⟩
theorem allE_vent {sl : List (List Ent)} (h : ∀ l ∈ sl, vlayer l = true) : ∀ e ∈ allE sl, vent e = true := fun e he => by
  obtain ⟨l, hl, hel⟩ := allE_mem he
  exact vlayer_vent (h l hl) e hel
theorem allE_len {sl : List (List Ent)} (h : ∀ l ∈ sl, vlayer l = true) : (allE sl).length ≤ 20 * sl.length := by
  induction sl with
  | nil => simp [allE]
  | cons a t ih =>
    rw [allE_cons, List.length_append, List.length_cons]
    have h1 := ih (fun l hl => h l (by simp [hl]))
    have h2 := vlayer_20 (h a (by simp))
    omega

/-! ### the flat list -/
def firstsE (es : List Ent) : List Ent := es.foldl (fun m e => if (m.any fun y => y.of e.s e.k) = true then m else m ++ [e]) []
theorem firstsE_snoc (es : List Ent) (e : Ent) : firstsE (es ++ [e]) = if ((firstsE es).any fun y => y.of e.s e.k) = true then firstsE es else firstsE es ++ [e] := by
  simp [firstsE, List.foldl_append]
def flatOne (V : PV) (e : Ent) : Option Ent := (V e.s e.k).map fun v => ⟨e.s, e.k, 0, v⟩
def flatR (sl : List (List Ent)) : List Ent := (firstsE (allE sl)).filterMap (flatOne (toldV sl))
def flatL (sl : List (List Ent)) : List Ent := if vstack sl = true then chkE (flatR sl) else []
def flatB (sl : List (List Ent)) : Bool := vstack sl && vlayer (flatR sl)
theorem firstsE_len (es : List Ent) : (firstsE es).length ≤ es.length := by
  refine snocInd (P := fun es => (firstsE es).length ≤ es.length) (Nat.le_refl _) ?_ es
  intro l a ih
  rw [firstsE_snoc]
  split
  · simp; omega
  · simp; omega
theorem firstsE_mem (es : List Ent) : ∀ e ∈ firstsE es, e ∈ es := by
  refine snocInd (P := fun es => ∀ e ∈ firstsE es, e ∈ es) (fun e h => h) ?_ es
  intro l a ih e he
  rw [firstsE_snoc] at he
  split at he
  · exact List.mem_append_left _ (ih e he)
  · rcases List.mem_append.1 he with h | h
    · exact List.mem_append_left _ (ih e h)
    · exact List.mem_append_right _ h
theorem firstsE_any (es : List Ent) (s k : ByteArray) : ((firstsE es).any fun y => y.of s k) = es.any fun y => y.of s k := by
  refine snocInd (P := fun es => ((firstsE es).any fun y => y.of s k) = es.any fun y => y.of s k) rfl ?_ es
  intro l a ih
  rw [firstsE_snoc, List.any_append]
  split
  · rename_i h
    rw [ih]
    by_cases ha : a.of s k = true
    · rw [← ih]
      rw [List.any_eq_true] at h
      obtain ⟨y, hy, h2⟩ := h
      have h3 : y.of s k = true := by
        obtain ⟨h4, h5⟩ := (of_iff y a.s a.k).1 h2
        obtain ⟨h6, h7⟩ := (of_iff a s k).1 ha
        exact (of_iff y s k).2 ⟨by rw [h4, h6], by rw [h5, h7]⟩
      have h8 : ((firstsE l).any fun y => y.of s k) = true := by
        rw [List.any_eq_true]
        exact ⟨y, hy, h3⟩
      rw [h8]; rfl
    · have ha' : a.of s k = false := by simpa using ha
      simp [ha']
  · rw [List.any_append, ih]
theorem toldV_size {sl : List (List Ent)} (h : vstack sl = true) {s k v : ByteArray} (hv : toldV sl s k = some v) : v.size ≤ 4100 := by
  have h1 := foldV_size (allE sl) (fun e he => ent_v40 (allE_vent (vstack_all h) e he)) s k v hv
  have h2 := allE_len (vstack_all h)
  have h3 := vstack_5 h
  omega
theorem flatR_fit {sl : List (List Ent)} (h : vstack sl = true) : EFit (flatR sl) := by
  have h2 := allE_len (vstack_all h)
  have h3 := vstack_5 h
  have h4 := firstsE_len (allE sl)
  have h5 : (flatR sl).length ≤ (firstsE (allE sl)).length := List.length_filterMap_le _ _
  refine ⟨by omega, fun i hi => ?_⟩
  have hm : (flatR sl)[i] ∈ flatR sl := List.getElem_mem hi
  obtain ⟨e, he, h6⟩ := List.mem_filterMap.1 hm
  unfold flatOne at h6
  obtain ⟨v, hv, h7⟩ := Option.map_eq_some_iff.1 h6
  have h8 := toldV_size h hv
  have h9 := ent_fits' (allE_vent (vstack_all h) e (firstsE_mem _ e he))
  rw [← h7]
  exact ⟨by show e.s.size ≤ _; omega, by show e.k.size ≤ _; omega, by show v.size ≤ _; omega⟩
theorem flatL_20 (sl : List (List Ent)) : (flatL sl).length ≤ 20 := by
  unfold flatL
  split
  · unfold chkE
    split
    · rename_i h
      exact vlayer_20 h
    · simp
  · simp
theorem flatL_yes {sl : List (List Ent)} (h1 : vstack sl = true) : flatL sl = chkE (flatR sl) ∧ flatB sl = vlayer (flatR sl) := by
  unfold flatL flatB
  rw [if_pos h1, h1]
  exact ⟨rfl, rfl⟩
theorem flatL_no {sl : List (List Ent)} (h1 : vstack sl = false) : flatL sl = [] ∧ flatB sl = false := by
  unfold flatL flatB
  rw [if_neg (by rw [h1]; simp), h1]
  exact ⟨rfl, rfl⟩
end Go.Proofs.YtkjoolmhcfajnaaDoor
