/-
  What a tidy file is: its lines as a function of the lines of a valid file; keys have values. No program, no condition.
-/
import Derived.Test.YtdedidcjbocicaaGrow
namespace Go.Proofs.Ytdedidcjbocicaa
open Go.RowKit

/-- the separator of a new pair -/
def newSep : ByteArray := ⟨#[32, 61, 32]⟩
/-- a new pair, a new head -/
def pairL (k v : ByteArray) : Ln := ⟨3, ⟨#[]⟩, k, newSep, v, ⟨#[]⟩⟩
def headL (s : ByteArray) : Ln := ⟨2, ⟨#[]⟩, s, ⟨#[]⟩, ⟨#[]⟩, ⟨#[]⟩⟩
/-- the lines of keys -/
def tkeys (ls : List Ln) (s : ByteArray) (ks : List ByteArray) : List Ln := ks.map fun k => pairL k (getV ls s k)
/-- the line of a head, none for the section without a name -/
def thead (s : ByteArray) : List Ln := if s.toList.isEmpty = true then [] else [headL s]
def tsec (ls : List Ln) (s : ByteArray) : List Ln := thead s ++ tkeys ls s (keysOf' ls s)
def tsecs (ls : List Ln) (ss : List ByteArray) : List Ln := ss.flatMap (tsec ls)
/-- the lines of the tidy file -/
def tidyOf (ls : List Ln) : List Ln := tsecs ls (secsOf' ls)

theorem tkeys_succ (ls : List Ln) (s : ByteArray) {ks : List ByteArray} {j : Nat} (h : j < ks.length) : tkeys ls s (ks.take (j + 1)) = tkeys ls s (ks.take j) ++ [pairL ks[j] (getV ls s ks[j])] := by
  unfold tkeys
  rw [List.take_succ_eq_append_getElem h, List.map_append]
  rfl
theorem tsecs_succ (ls : List Ln) {ss : List ByteArray} {j : Nat} (h : j < ss.length) : tsecs ls (ss.take (j + 1)) = tsecs ls (ss.take j) ++ tsec ls ss[j] := by
  unfold tsecs
  rw [List.take_succ_eq_append_getElem h, List.flatMap_append]
  simp
theorem tkeys_length (ls : List Ln) (s : ByteArray) (ks : List ByteArray) : (tkeys ls s ks).length = ks.length := by simp [tkeys]
theorem thead_le (s : ByteArray) : (thead s).length ≤ 1 := by
  unfold thead
  split <;> simp
theorem vfile_20 {ls : List Ln} (h : vfile ls = true) : ls.length ≤ 20 := by
  unfold vfile at h
  rw [Bool.and_eq_true, decide_eq_true_iff] at h
  exact h.2
theorem keys_20 (ls : List Ln) (s : ByteArray) : (keysOf' ls s).length ≤ 20 := by
  unfold keysOf'
  split
  · rename_i h
    exact Nat.le_trans (keysTo_le _ _ _) (vfile_20 h)
  · exact Nat.zero_le _
theorem secs_20 (ls : List Ln) : (secsOf' ls).length ≤ 20 := by
  unfold secsOf'
  split
  · rename_i h
    exact Nat.le_trans (secsTo_le _ _) (vfile_20 h)
  · exact Nat.zero_le _
theorem tsec_le (ls : List Ln) (s : ByteArray) : (tsec ls s).length ≤ 21 := by
  unfold tsec
  rw [List.length_append, tkeys_length]
  have := thead_le s
  have := keys_20 ls s
  omega
theorem tsecs_le (ls : List Ln) (ss : List ByteArray) : (tsecs ls ss).length ≤ ss.length * 21 := by
  induction ss with
  | nil => simp [tsecs]
  | cons s ss ih =>
    have := tsec_le ls s
    have e : tsecs ls (s :: ss) = tsec ls s ++ tsecs ls ss := by simp [tsecs]
    rw [e, List.length_append, List.length_cons]
    omega
theorem tidy_le (ls : List Ln) : (tidyOf ls).length ≤ 420 := by
  have := tsecs_le ls (secsOf' ls)
  have := secs_20 ls
  unfold tidyOf
  omega
theorem tidy_no {ls : List Ln} (h : vfile ls = false) : tidyOf ls = [] := by
  unfold tidyOf secsOf'
  rw [if_neg (by rw [h]; simp)]
  rfl

theorem addT_mem {xs : List ByteArray} {s x : ByteArray} (h : x ∈ addT xs s) : x ∈ xs ∨ x = s := by
  unfold addT at h
  split at h
  · exact .inl h
  · rw [List.mem_append, List.mem_singleton] at h; exact h
theorem keysTo_last (ls : List Ln) (s : ByteArray) : ∀ (k : Nat) (x : ByteArray), x ∈ keysTo ls s k → 0 ≤ lastP ls s x k := by
  intro k
  induction k with
  | zero => intro x h; simp [keysTo] at h
  | succ k ih =>
    intro x h
    by_cases hp : isPair ls s x k = true
    · rw [lastP_yes hp]; omega
    · have hp' : isPair ls s x k = false := by simpa using hp
      rw [lastP_no hp']
      by_cases hk : (ls[k]!.k == 3 && inSec ls s k) = true
      · rw [keysTo_yes hk] at h
        rcases addT_mem h with h | rfl
        · exact ih x h
        · exfalso
          rw [Bool.and_eq_true] at hk
          unfold isPair isKey at hp'
          rw [hk.1, hk.2] at hp'
          simp at hp'
      · rw [keysTo_no (by simpa using hk)] at h
        exact ih x h
/-- a key has a line -/
theorem keys_where {ls : List Ln} {s : ByteArray} {i : Nat} (h : i < (keysOf' ls s).length) : ∃ k : Nat, lastP ls s (keysOf' ls s)[i] ls.length = k ∧ ∃ hk : k < ls.length, ls[k].va = getV ls s (keysOf' ls s)[i] ∧ getB ls s (keysOf' ls s)[i] = true := by
  have hm : (keysOf' ls s)[i] ∈ keysOf' ls s := List.getElem_mem h
  obtain ⟨x, hx⟩ : ∃ x, (keysOf' ls s)[i] = x := ⟨_, rfl⟩
  rw [hx] at hm ⊢
  clear hx h
  by_cases hv : vfile ls = true
  · unfold keysOf' at hm
    rw [if_pos hv] at hm
    have h0 := keysTo_last ls s _ x hm
    have h1 := (lastP_lt ls s x ls.length).1
    refine ⟨(lastP ls s x ls.length).toNat, by omega, by omega, ?_⟩
    have h2 : whereOf ls s x = ((lastP ls s x ls.length).toNat : Int) := by rw [whereOf_yes s x hv]; omega
    have h3 := get_yes h2 (by omega)
    exact ⟨h3.1.symm, h3.2⟩
  · unfold keysOf' at hm
    rw [if_neg hv] at hm
    simp at hm
end Go.Proofs.Ytdedidcjbocicaa
