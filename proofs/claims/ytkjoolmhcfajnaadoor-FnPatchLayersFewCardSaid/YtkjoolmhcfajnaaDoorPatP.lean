/-
  The entries that make a flat layer another one. Conditions: parts of at most 1048576 bytes.
-/
import Derived.Test.YtkjoolmhcfajnaaDoorMrgP
namespace Go.Proofs.YtkjoolmhcfajnaaDoor
open Go.RowKit

/-- the entry that takes another one away -/
def dropE (e : Ent) : Ent := ⟨e.s, e.k, 1, ⟨#[]⟩⟩
/-- an entry that the layer has not so -/
def newIn (xs : List Ent) (e : Ent) : Bool := match lastE xs e.s e.k with
  | some t => !(t.v.toList == e.v.toList)
  | none => true
def patchR (xs bs : List Ent) : List Ent := (xs.filter (freshIn bs)).map dropE ++ bs.filter (newIn xs)
def patchL (xs bs : List Ent) : List Ent := if vflat xs = true ∧ vflat bs = true then chkE (patchR xs bs) else []
def patchB (xs bs : List Ent) : Bool := vflat xs && (vflat bs && vlayer (patchR xs bs))
theorem patchL_20 (xs bs : List Ent) : (patchL xs bs).length ≤ 20 := by
  unfold patchL
  split
  · unfold chkE
    split
    · rename_i h
      exact vlayer_20 h
    · simp
  · simp
theorem patchL_yes {xs bs : List Ent} (h1 : vflat xs = true) (h2 : vflat bs = true) : patchL xs bs = chkE (patchR xs bs) ∧ patchB xs bs = vlayer (patchR xs bs) := by
  unfold patchL patchB
  rw [if_pos ⟨h1, h2⟩, h1, h2]
  exact ⟨rfl, rfl⟩
theorem patchL_no1 {xs bs : List Ent} (h1 : vflat xs = false) : patchL xs bs = [] ∧ patchB xs bs = false := by
  unfold patchL patchB
  rw [if_neg (by rw [h1]; simp), h1]
  exact ⟨rfl, rfl⟩
theorem patchL_no2 {xs bs : List Ent} (h2 : vflat bs = false) : patchL xs bs = [] ∧ patchB xs bs = false := by
  unfold patchL patchB
  rw [if_neg (by rw [h2]; simp), h2]
  exact ⟨rfl, by simp⟩
theorem vflat_vlayer {xs : List Ent} (h : vflat xs = true) : vlayer xs = true := by
  unfold vflat at h
  simp only [Bool.and_eq_true] at h
  exact h.2
theorem vflat_op {xs : List Ent} (h : vflat xs = true) : ∀ e ∈ xs, e.op = 0 := fun e he => by
  unfold vflat flatE at h
  simp only [Bool.and_eq_true, List.all_eq_true, decide_eq_true_eq] at h
  exact h.1 e he
theorem patchR_fit {xs bs : List Ent} (h1 : vlayer xs = true) (h2 : vlayer bs = true) : EFit (patchR xs bs) := by
  have hx := vlayer_20 h1
  have hb := vlayer_20 h2
  have hl : (patchR xs bs).length ≤ 40 := by
    unfold patchR
    rw [List.length_append, List.length_map]
    have := List.length_filter_le (freshIn bs) xs
    have := List.length_filter_le (newIn xs) bs
    omega
  have hm : ∀ e ∈ patchR xs bs, e.fits := fun e he => by
    unfold patchR at he
    rcases List.mem_append.1 he with h | h
    · obtain ⟨y, hy, rfl⟩ := List.mem_map.1 h
      have := ent_fits' (vlayer_vent h1 y (List.mem_filter.1 hy).1)
      exact ⟨by show y.s.size ≤ 1048576; omega, by show y.k.size ≤ 1048576; omega, by show (⟨#[]⟩ : ByteArray).size ≤ 1048576; have h9 : (⟨#[]⟩ : ByteArray).size = 0 := rfl; omega⟩
    · have := ent_fits' (vlayer_vent h2 e (List.mem_filter.1 h).1)
      exact ⟨by omega, by omega, by omega⟩
  exact ⟨by omega, fun i hi => hm _ (List.getElem_mem hi)⟩
theorem fm_step {es : List Ent} {p : Ent → Bool} {f : Ent → Ent} {k : Nat} (hk : k < es.length) : ((es.take (k + 1)).filter p).map f = ((es.take k).filter p).map f ++ (if p es[k] = true then [f es[k]] else []) := by
  rw [filter_step hk, List.map_append]
  congr 1
  split <;> rfl
theorem key_ne {e : Ent} (h : vent e = true) : ¬ e.k.toList = [] := fun h0 => by
  unfold vent vplace at h
  simp only [Bool.and_eq_true] at h
  have h1 := h.1.2
  have h6 : ¬ 0 < e.k.size := fun h7 => by
    have h8 := isEmpty_ne h7
    rw [h0] at h8
    cases h8
  rw [vname_size (.inl (by omega))] at h1
  cases h1
/-- in flat layers an entry is another one exactly if its value is -/
theorem new_same {xs : List Ent} {e : Ent} (hx : vflat xs = true) (ho : e.op = 0) (hv : vent e = true) : newIn xs e = !(((lastE xs e.s e.k).getD Ent.zero).same e) := by
  unfold newIn
  rcases hl : lastE xs e.s e.k with _ | t
  · have hk := key_ne hv
    simp only [Option.getD_none]
    have h0 : (Ent.zero.k.toList == e.k.toList) = false := by
      rw [beq_eq_false_iff_ne]
      exact fun h => hk (h.symm.trans (toList_nil (s := Ent.zero.k) rfl))
    unfold Ent.same
    rw [h0]
    simp
  · obtain ⟨hm, h1, h2⟩ := lastE_mem hl
    have h3 := vflat_op hx t hm
    simp only [Option.getD_some]
    unfold Ent.same
    rw [h1, h2, h3, ho]
    simp
end Go.Proofs.YtkjoolmhcfajnaaDoor
