/-
  A layer over another one, as the specification puts it together. Conditions: parts of at most 1048576 bytes.
-/
import Derived.Test.YtddecipodofliaaDoorMrgP
namespace Go.Proofs.YtddecipodofliaaDoor
open Go.RowKit

theorem BoxE.st4 {w : World} {b : Nat} {e : Ent} {T : TypeId} (h : BoxE w b e T) (z : Ent) : BoxE (st4 w b 0 z) b z T := by
  unfold BoxE Go.Proofs.YtddecipodofliaaDoor.st4
  unfold BoxE at h
  simp [World.setCell, Array.getElem?_modify, h]
theorem map_step {bs : List Ent} {k : Nat} (f : Ent → Ent) (hk : k < bs.length) : (bs.take (k + 1)).map f = (bs.take k).map f ++ [f bs[k]] := by
  rw [List.take_succ_eq_append_getElem hk, List.map_append]
  rfl
theorem vent_ops {e : Ent} (h : vent e = true) : e.op = 0 ∨ e.op = 1 ∨ e.op = 2 := by
  unfold vent at h
  simp only [Bool.and_eq_true] at h
  have h3 := h.2.1
  unfold opB at h3
  simp only [Bool.and_eq_true, decide_eq_true_eq] at h3
  omega

end Go.Proofs.YtddecipodofliaaDoor
