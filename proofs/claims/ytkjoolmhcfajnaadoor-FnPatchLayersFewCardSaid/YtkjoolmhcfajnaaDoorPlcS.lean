/-
  Rows of references: the places of layers as the specification tells them, each once, and what a flat layer has at a place. Conditions: parts of at most 1048576 bytes.
-/
import Derived.Test.YtkjoolmhcfajnaaDoorRfs
import Derived.Test.YtkjoolmhcfajnaaDoorRegG
namespace Go.Proofs.YtkjoolmhcfajnaaDoor
open Go.RowKit


theorem flat_succ {sl : List (List Ent)} {j : Nat} (h : j < sl.length) : (sl.take (j + 1)).flatten = (sl.take j).flatten ++ sl[j] := by
  rw [List.take_succ_eq_append_getElem h, List.flatten_append]
  simp
end Go.Proofs.YtkjoolmhcfajnaaDoor
