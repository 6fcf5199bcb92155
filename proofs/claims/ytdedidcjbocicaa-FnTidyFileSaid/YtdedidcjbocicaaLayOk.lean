/-
  The layer of a valid file is valid; when lists of entries are the same. No program; condition: the file is valid.
-/
import Derived.Test.YtdedidcjbocicaaMeanP
import Derived.Test.YtdedidcjbocicaaLayV
import Derived.Test.YtdedidcjbocicaaQP
namespace Go.Proofs.Ytdedidcjbocicaa
open Go.RowKit

theorem filter_two {P Q : Nat → Bool} (h : ∀ x, P x = true → Q x = false) : ∀ l : List Nat, (l.filter P).length + (l.filter Q).length ≤ l.length := by
  intro l
  induction l with
  | nil => simp
  | cons x l ih =>
    rw [List.filter_cons, List.filter_cons]
    by_cases hp : P x = true
    · rw [if_pos hp, if_neg (by rw [h x hp]; simp)]
      simp; omega
    · rw [if_neg hp]
      split
      · simp; omega
      · simp; omega
def pairIs (ls : List Ln) : List Nat := (List.range ls.length).filter fun i => ls[i]!.k == 3
def headIs (ls : List Ln) : List Nat := (List.range ls.length).filter fun i => ls[i]!.k == 2
theorem count_two (ls : List Ln) : (pairIs ls).length + (headIs ls).length ≤ ls.length := by
  have := filter_two (P := fun i => ls[i]!.k == 3) (Q := fun i => ls[i]!.k == 2) (fun x h => by
    have h1 := eq_of_beq h
    rw [beq_eq_false_iff_ne, h1]
    decide) (List.range ls.length)
  rw [List.length_range] at this
  exact this
def pairKey (ls : List Ln) (i : Nat) : List UInt8 × List UInt8 := ((nowAt ls (i + 1)).toList, ls[i]!.na.toList)
theorem lay_pairs {ls : List Ln} (hv : vfile ls = true) : (layOf ls).length ≤ (pairIs ls).length := by
  have := len_le _ ((pairIs ls).map (pairKey ls)) (lay_keys ls) (fun x hx => by
    obtain ⟨e, he, rfl⟩ := List.mem_map.1 hx
    obtain ⟨h1, _⟩ := (lay_mem_get hv).1 he
    have hw : ¬ whereOf ls e.s e.k < 0 := by unfold getB at h1; simpa using h1
    obtain ⟨i, hi⟩ : ∃ i : Nat, whereOf ls e.s e.k = i := ⟨(whereOf ls e.s e.k).toNat, by omega⟩
    obtain ⟨h2, h3, _⟩ := where_pair hi
    unfold isPair isKey inSec at h3
    simp only [Bool.and_eq_true, beq_iff_eq] at h3
    refine List.mem_map.2 ⟨i, List.mem_filter.2 ⟨List.mem_range.2 h2, by rw [h3.1.1]; rfl⟩, ?_⟩
    unfold pairKey Ent.key
    rw [h3.2, h3.1.2])
  simpa using this
theorem lay_20 {ls : List Ln} (hv : vfile ls = true) : (layOf ls).length ≤ 20 := by
  have h1 := lay_pairs hv
  have h2 := count_two ls
  have h3 := vfile_20 hv
  omega
theorem distE_keys : ∀ es : List Ent, (es.map Ent.key).Nodup → distE es = true := by
  intro es
  induction es with
  | nil => intro _; rfl
  | cons e t ih =>
    intro h
    rw [List.map_cons, List.nodup_cons] at h
    unfold distE
    rw [Bool.and_eq_true, List.all_eq_true]
    refine ⟨fun x hx => ?_, ih h.2⟩
    rcases ho : e.of x.s x.k with _ | _
    · rfl
    · exfalso
      obtain ⟨h1, h2⟩ := (of_iff e x.s x.k).1 ho
      exact h.1 (List.mem_map.2 ⟨x, hx, by unfold Ent.key; rw [h1, h2]⟩)
theorem lay_vent {ls : List Ln} (hv : vfile ls = true) {e : Ent} (he : e ∈ layOf ls) : vent e = true := by
  obtain ⟨h1, h2⟩ := (lay_mem_get hv).1 he
  have hw : ¬ whereOf ls e.s e.k < 0 := by unfold getB at h1; simpa using h1
  obtain ⟨i, hi⟩ : ∃ i : Nat, whereOf ls e.s e.k = i := ⟨(whereOf ls e.s e.k).toNat, by omega⟩
  obtain ⟨h3, h4, _⟩ := where_pair hi
  have hl := where_line hi h3
  have hvl := vline_3p hl.1 (vfile_line hv i h3)
  have hg := (get_yes hi h3).1
  have hin : inSec ls e.s i = true := by unfold isPair at h4; rw [Bool.and_eq_true] at h4; exact h4.2
  have hs := sec_name hv h3 hin
  have hop : e.op = 0 := by rw [h2]; rfl
  have hva : e.v = getV ls e.s e.k := by rw [h2]; rfl
  unfold vent vplace vsec opB
  rw [hop, hva, hg, hvl.2, ← hl.2, hvl.1]
  have hs2 : (e.s.toList == [] || vname e.s) = true := by
    rw [Bool.or_eq_true] at hs ⊢
    rcases hs with h | h
    · left; simpa using h
    · right; exact h
  rw [hs2]
  simp
theorem lay_valid {ls : List Ln} (hv : vfile ls = true) : vlayer (layOf ls) = true := by
  unfold vlayer okE
  rw [Bool.and_eq_true, Bool.and_eq_true, List.all_eq_true, decide_eq_true_iff]
  exact ⟨⟨fun e he => lay_vent hv he, distE_keys _ (lay_keys ls)⟩, lay_20 hv⟩
/-- an entry that is there is found -/
theorem inE_mem {bs : List Ent} (hb : (bs.map Ent.key).Nodup) {e : Ent} (he : e ∈ bs) : inE bs e = true := by
  unfold inE entIdx
  rcases entFrom_spec e.s e.k bs 0 with ⟨q, hq, h1, h2⟩ | ⟨_, h2⟩
  · simp only [h1]
    rw [Nat.zero_add, Int.toNat_natCast, List.getElem?_eq_getElem hq]
    obtain ⟨h3, h4⟩ := (of_iff _ _ _).1 h2
    obtain ⟨j, hj, hje⟩ := List.getElem_of_mem he
    have hk : (bs.map Ent.key)[q]'(by simpa using hq) = (bs.map Ent.key)[j]'(by simpa using hj) := by
      simp only [List.getElem_map]
      unfold Ent.key
      rw [h3, h4, hje]
    have := (List.getElem_inj hb).1 hk
    subst this
    rw [hje]
    simp [same_iff]
  · have := h2 e he
    rw [(of_iff e e.s e.k).2 ⟨rfl, rfl⟩] at this
    cases this
theorem sameE_of {xs bs : List Ent} (hx : (xs.map Ent.key).Nodup) (hb : (bs.map Ent.key).Nodup) (h : ∀ e, e ∈ xs ↔ e ∈ bs) : sameE xs bs = true := by
  have h1 := len_le _ (bs.map Ent.key) hx (fun k hk => by
    obtain ⟨e, he, rfl⟩ := List.mem_map.1 hk
    exact List.mem_map.2 ⟨e, (h e).1 he, rfl⟩)
  have h2 := len_le _ (xs.map Ent.key) hb (fun k hk => by
    obtain ⟨e, he, rfl⟩ := List.mem_map.1 hk
    exact List.mem_map.2 ⟨e, (h e).2 he, rfl⟩)
  rw [List.length_map, List.length_map] at h1 h2
  unfold sameE
  rw [Bool.and_eq_true, decide_eq_true_iff, List.all_eq_true]
  exact ⟨by omega, fun e he => inE_mem hb ((h e).1 he)⟩
end Go.Proofs.Ytdedidcjbocicaa
