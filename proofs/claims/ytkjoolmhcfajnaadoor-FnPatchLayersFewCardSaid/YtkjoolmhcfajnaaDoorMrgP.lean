/-
  A layer over another one: the entries, and an entry over another one in both texts. Conditions: places that are the same.
-/
import Derived.Test.YtkjoolmhcfajnaaDoorPutF
import Derived.Test.YtkjoolmhcfajnaaDoorMapE
namespace Go.Proofs.YtkjoolmhcfajnaaDoor
open Go.RowKit

/-- an entry over another one in the same place -/
def overE (t l : Ent) : Ent := if t.op = 2 then (if l.op = 1 then ⟨t.s, t.k, 0, t.v⟩ else ⟨l.s, l.k, l.op, l.v ++ ⟨#[44]⟩ ++ t.v⟩) else t
def ovr (xs : List Ent) (e : Ent) : Ent := match lastE xs e.s e.k with
  | some t => overE t e
  | none => e
def freshIn (bs : List Ent) (e : Ent) : Bool := !(bs.any fun y => y.of e.s e.k)
def mergeR (xs bs : List Ent) : List Ent := bs.map (ovr xs) ++ xs.filter (freshIn bs)
def mergeL (xs bs : List Ent) : List Ent := if vlayer xs = true ∧ vlayer bs = true then chkE (mergeR xs bs) else []
def mergeB (xs bs : List Ent) : Bool := vlayer xs && (vlayer bs && vlayer (mergeR xs bs))
theorem mergeL_20 (xs bs : List Ent) : (mergeL xs bs).length ≤ 20 := by
  unfold mergeL
  split
  · unfold chkE
    split
    · rename_i h
      exact vlayer_20 h
    · simp
  · simp
theorem mergeL_yes {xs bs : List Ent} (h1 : vlayer xs = true) (h2 : vlayer bs = true) : mergeL xs bs = chkE (mergeR xs bs) ∧ mergeB xs bs = vlayer (mergeR xs bs) := by
  unfold mergeL mergeB
  rw [if_pos ⟨h1, h2⟩, h1, h2]
  exact ⟨rfl, rfl⟩
theorem mergeL_no1 {xs bs : List Ent} (h1 : vlayer xs = false) : mergeL xs bs = [] ∧ mergeB xs bs = false := by
  unfold mergeL mergeB
  rw [if_neg (by rw [h1]; simp), h1]
  exact ⟨rfl, rfl⟩
theorem mergeL_no2 {xs bs : List Ent} (h2 : vlayer bs = false) : mergeL xs bs = [] ∧ mergeB xs bs = false := by
  unfold mergeL mergeB
  rw [if_neg (by rw [h2]; simp), h2]
  exact ⟨rfl, by simp⟩
theorem lastE_mem {xs : List Ent} {s k : ByteArray} {t : Ent} (h : lastE xs s k = some t) : t ∈ xs ∧ t.s = s ∧ t.k = k := by
  unfold lastE at h
  have h1 := List.mem_of_find?_eq_some h
  have h2 := List.find?_some h
  exact ⟨List.mem_reverse.1 h1, (of_iff t s k).1 h2⟩
theorem find_idx (s k : ByteArray) : ∀ (es : List Ent) (i : Nat), (entFrom s k es i = -1 ∧ es.find? (fun x => x.of s k) = none) ∨ ∃ j, ∃ h : j < es.length, entFrom s k es i = ((i + j : Nat) : Int) ∧ es.find? (fun x => x.of s k) = some es[j]
  | [], i => .inl ⟨rfl, rfl⟩
  | e :: t, i => by
    by_cases he : e.of s k = true
    · refine .inr ⟨0, by simp, ?_, ?_⟩
      · rw [entFrom, if_pos he]
        simp
      · rw [List.find?_cons, he]
        rfl
    · have he' : e.of s k = false := by simpa using he
      rcases find_idx s k t (i + 1) with ⟨h1, h2⟩ | ⟨j, hj, h1, h2⟩
      · refine .inl ⟨?_, ?_⟩
        · rw [entFrom, if_neg he, h1]
        · rw [List.find?_cons, he']
          exact h2
      · refine .inr ⟨j + 1, by simp; omega, ?_, ?_⟩
        · rw [entFrom, if_neg he, h1]
          omega
        · rw [List.find?_cons, he']
          simpa using h2
/-- where an entry's place is in a layer, by its index -/
theorem last_idx {xs : List Ent} (h : distE xs = true) (s k : ByteArray) : (entIdx xs s k = -1 ∧ lastE xs s k = none) ∨ ∃ j, ∃ hj : j < xs.length, entIdx xs s k = (j : Int) ∧ lastE xs s k = some xs[j] := by
  rw [find_last xs h]
  unfold entIdx
  rcases find_idx s k xs 0 with h1 | ⟨j, hj, h1, h2⟩
  · exact .inl h1
  · exact .inr ⟨j, hj, by rw [h1, Nat.zero_add], h2⟩
theorem fresh_idx (bs : List Ent) (e : Ent) : freshIn bs e = decide (entIdx bs e.s e.k < 0) := by
  unfold freshIn entIdx
  rw [← lastE_isSome]
  rcases find_idx e.s e.k bs 0 with ⟨h1, h2⟩ | ⟨j, hj, h1, h2⟩
  · rw [h1]
    have h3 : (lastE bs e.s e.k).isSome = false := by
      rw [lastE_isSome, ← Bool.not_eq_true, List.any_eq_true]
      rintro ⟨x, hx, h4⟩
      rw [List.find?_eq_none] at h2
      exact h2 x hx h4
    rw [h3]
    rfl
  · rw [h1]
    have h3 : (lastE bs e.s e.k).isSome = true := by
      rw [lastE_isSome, List.any_eq_true]
      exact ⟨_, List.mem_of_find?_eq_some h2, by have h5 := List.find?_some h2; exact h5⟩
    rw [h3]
    simp
theorem ent_fits' {e : Ent} (h : vent e = true) : e.s.size ≤ 8 ∧ e.k.size ≤ 8 ∧ e.v.size ≤ 40 := by
  unfold vent vplace at h
  simp only [Bool.and_eq_true] at h
  have h1 := vname_le h.1.2
  have h2 := vvalue_le h.2.2.1
  have h3 : e.s.size ≤ 8 := by
    have h4 := h.1.1
    by_cases h5 : e.s.toList = []
    · have h6 : ¬ 0 < e.s.size := fun h7 => by
        have h8 := isEmpty_ne h7
        rw [h5] at h8
        cases h8
      omega
    · rw [vsec_ne h5] at h4
      exact vname_le h4
  exact ⟨h3, h1, h2⟩
theorem overE_fit {t l : Ent} (h1 : vent t = true) (h2 : vent l = true) : (overE t l).fits := by
  have f1 := ent_fits' h1
  have f2 := ent_fits' h2
  unfold overE
  split
  · split
    · exact ⟨by show t.s.size ≤ 1048576; omega, by show t.k.size ≤ 1048576; omega, by show t.v.size ≤ 1048576; omega⟩
    · refine ⟨by show l.s.size ≤ 1048576; omega, by show l.k.size ≤ 1048576; omega, ?_⟩
      show (l.v ++ ⟨#[44]⟩ ++ t.v).size ≤ 1048576
      rw [ByteArray.size_append, ByteArray.size_append]
      have h9 : (⟨#[44]⟩ : ByteArray).size = 1 := rfl
      omega
  · exact ⟨by omega, by omega, by omega⟩
theorem mergeR_fit {xs bs : List Ent} (h1 : vlayer xs = true) (h2 : vlayer bs = true) : EFit (mergeR xs bs) := by
  have hx := vlayer_20 h1
  have hb := vlayer_20 h2
  have hl : (mergeR xs bs).length ≤ 40 := by
    unfold mergeR
    rw [List.length_append, List.length_map]
    have := List.length_filter_le (freshIn bs) xs
    omega
  have hm : ∀ e ∈ mergeR xs bs, e.fits := fun e he => by
    unfold mergeR at he
    rcases List.mem_append.1 he with h | h
    · obtain ⟨y, hy, rfl⟩ := List.mem_map.1 h
      have hvy := vlayer_vent h2 y hy
      unfold ovr
      split
      · rename_i t ht
        exact overE_fit (vlayer_vent h1 t (lastE_mem ht).1) hvy
      · have := ent_fits' hvy
        exact ⟨by omega, by omega, by omega⟩
    · have := ent_fits' (vlayer_vent h1 e (List.mem_filter.1 h).1)
      exact ⟨by omega, by omega, by omega⟩
  exact ⟨by omega, fun i hi => hm _ (List.getElem_mem hi)⟩

/-! ### an entry over another one -/
end Go.Proofs.YtkjoolmhcfajnaaDoor
