/-
  Stacks of the specification: whether they are valid, and what they tell of a key. Conditions: parts of at most 1048576 bytes.
-/
import Derived.Test.YtkjoolmhcfajnaaDoorMapV
import Derived.Test.YtkjoolmhcfajnaaDoorRslX
namespace Go.Proofs.YtkjoolmhcfajnaaDoor
open Go.RowKit

theorem all_vl {sl : List (List Ent)} {k : Nat} (hk : k < sl.length) : (sl.take (k + 1)).all vlayer = ((sl.take k).all vlayer && vlayer sl[k]) := by
  rw [List.take_succ_eq_append_getElem hk, List.all_append]
  simp
theorem vstack_no {sl : List (List Ent)} {k : Nat} (h : (sl.take k).all vlayer = false) : vstack sl = false := by
  unfold vstack
  rw [Bool.and_eq_false_iff]
  left
  rw [← Bool.not_eq_true, List.all_eq_true] at h ⊢
  exact fun h1 => h (fun x hx => h1 x (List.mem_of_mem_take hx))

theorem cur_none {sl : List (List Ent)} {k : Nat} {s key : ByteArray} (hk : k < sl.length) (hd : distE sl[k] = true) (h : sl[k].find? (fun x => x.of s key) = none) :
    foldV (allE (sl.drop k)) noV s key = foldV (allE (sl.drop (k + 1))) noV s key := by
  rw [allE_drop hk, foldV_app, foldV_at s key _ _ hd, h]
theorem cur_some {sl : List (List Ent)} {k : Nat} {s key : ByteArray} (hk : k < sl.length) (hd : distE sl[k] = true) {e : Ent} (h : sl[k].find? (fun x => x.of s key) = some e) :
    foldV (allE (sl.drop k)) noV s key = stepV (foldV (allE (sl.drop (k + 1))) noV s key) e := by
  rw [allE_drop hk, foldV_app, foldV_at s key _ _ hd, h]
theorem cur_size {sl : List (List Ent)} (h : vstack sl = true) (j : Nat) {s key v : ByteArray} (hv : foldV (allE (sl.drop j)) noV s key = some v) : v.size ≤ 4100 := by
  have h1 := vstack_all h
  have h0 : ∀ l ∈ sl.drop j, vlayer l = true := fun l hl => h1 l (List.mem_of_mem_drop hl)
  have h2 := foldV_size _ (fun e he => ent_v40 (allE_vent h0 e he)) s key v hv
  have h3 := allE_len h0
  have h4 := vstack_5 h
  rw [List.length_drop] at h3
  omega

def tellS (sl : List (List Ent)) (s k : ByteArray) : ByteArray := if vstack sl = true then (toldV sl s k).getD ⟨#[]⟩ else ⟨#[]⟩
def tellB (sl : List (List Ent)) (s k : ByteArray) : Bool := vstack sl && (toldV sl s k).isSome
theorem tell_yes {sl : List (List Ent)} (h : vstack sl = true) (s k : ByteArray) : tellS sl s k = (toldV sl s k).getD ⟨#[]⟩ ∧ tellB sl s k = (toldV sl s k).isSome := by
  unfold tellS tellB
  rw [if_pos h, h]
  exact ⟨rfl, rfl⟩
theorem tell_no {sl : List (List Ent)} (h : vstack sl = false) (s k : ByteArray) : tellS sl s k = ⟨#[]⟩ ∧ tellB sl s k = false := by
  unfold tellS tellB
  rw [h]
  exact ⟨if_neg (by simp), rfl⟩

end Go.Proofs.YtkjoolmhcfajnaaDoor
