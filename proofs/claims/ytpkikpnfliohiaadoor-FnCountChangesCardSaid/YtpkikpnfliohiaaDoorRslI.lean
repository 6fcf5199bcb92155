/-
  Stacks of the program: whether they are valid, the map of the values that they tell, and what they tell of a key. Conditions: parts of at most 1048576 bytes.
-/
import Derived.Test.YtpkikpnfliohiaaDoorRslS
namespace Go.Proofs.YtpkikpnfliohiaaDoor
open Go.RowKit

theorem take_allE {sl : List (List Ent)} {k : Nat} (hk : k < sl.length) : allE (sl.drop k) = allE (sl.drop (k + 1)) ++ sl[k] := allE_drop hk
theorem lay_low {sl : List (List Ent)} (h : vstack sl = true) {j k : Nat} (hj : j < sl.length) {s key v : ByteArray} (hv : foldV (allE (sl.drop (j + 1)) ++ sl[j].take k) noV s key = some v) : v.size ≤ 100000 := by
  have h1 := vstack_all h
  have h0 : ∀ l ∈ sl.drop (j + 1), vlayer l = true := fun l hl => h1 l (List.mem_of_mem_drop hl)
  have h9 := h1 sl[j] (List.getElem_mem hj)
  have h2 := foldV_size _ (fun e he => by
    rcases List.mem_append.1 he with h | h
    · exact ent_v40 (allE_vent h0 e h)
    · exact ent_v40 (vlayer_vent h9 e (List.mem_of_mem_take h))) s key v hv
  have h3 := allE_len h0
  have h4 := vstack_5 h
  have h5 := vlayer_20 h9
  rw [List.length_drop] at h3
  rw [List.length_append, List.length_take] at h2
  omega

end Go.Proofs.YtpkikpnfliohiaaDoor
