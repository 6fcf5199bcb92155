/-
  What the layer of a file is: its entries as a function of the lines of a valid file. No program, no condition.
-/
import Derived.Test.YtdedidcjbocicaaGrowE
import Derived.Test.YtdedidcjbocicaaTidyP
namespace Go.Proofs.Ytdedidcjbocicaa
open Go.RowKit

/-- the entry of a key -/
def entL (ls : List Ln) (s k : ByteArray) : Ent := ⟨s, k, 0, getV ls s k⟩
def ekeys (ls : List Ln) (s : ByteArray) (ks : List ByteArray) : List Ent := ks.map (entL ls s)
def esecs (ls : List Ln) (ss : List ByteArray) : List Ent := ss.flatMap fun s => ekeys ls s (keysOf' ls s)
/-- the entries of the layer of a file -/
def layOf (ls : List Ln) : List Ent := esecs ls (secsOf' ls)
theorem ekeys_succ (ls : List Ln) (s : ByteArray) {ks : List ByteArray} {j : Nat} (h : j < ks.length) : ekeys ls s (ks.take (j + 1)) = ekeys ls s (ks.take j) ++ [entL ls s ks[j]] := by
  unfold ekeys
  rw [List.take_succ_eq_append_getElem h, List.map_append]
  rfl
theorem esecs_succ (ls : List Ln) {ss : List ByteArray} {j : Nat} (h : j < ss.length) : esecs ls (ss.take (j + 1)) = esecs ls (ss.take j) ++ ekeys ls ss[j] (keysOf' ls ss[j]) := by
  unfold esecs
  rw [List.take_succ_eq_append_getElem h, List.flatMap_append]
  simp
theorem ekeys_length (ls : List Ln) (s : ByteArray) (ks : List ByteArray) : (ekeys ls s ks).length = ks.length := by simp [ekeys]
theorem esecs_le (ls : List Ln) (ss : List ByteArray) : (esecs ls ss).length ≤ ss.length * 20 := by
  induction ss with
  | nil => simp [esecs]
  | cons s ss ih =>
    have := keys_20 ls s
    have e : esecs ls (s :: ss) = ekeys ls s (keysOf' ls s) ++ esecs ls ss := by simp [esecs]
    rw [e, List.length_append, List.length_cons, ekeys_length]
    omega
theorem lay_le (ls : List Ln) : (layOf ls).length ≤ 400 := by
  have := esecs_le ls (secsOf' ls)
  have := secs_20 ls
  unfold layOf
  omega
theorem lay_no {ls : List Ln} (h : vfile ls = false) : layOf ls = [] := by
  unfold layOf secsOf'
  rw [if_neg (by rw [h]; simp)]
  rfl
end Go.Proofs.Ytdedidcjbocicaa
