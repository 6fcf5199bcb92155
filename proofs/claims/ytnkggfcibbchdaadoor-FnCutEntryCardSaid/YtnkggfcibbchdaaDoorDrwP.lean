/-
  The arguments that the drawn law of PutEntry generates. Conditions: none but that the bytes lie in memory.
-/
import Derived.Test.YtnkggfcibbchdaaDoorDrwL
import Derived.Test.YtnkggfcibbchdaaDoorPutE
import Derived.RegionTactic
namespace Go.Proofs.YtnkggfcibbchdaaDoor
open Go.RowKit

/-- a call's end: a layer and an entry -/
def DLayE (w : World) (e : Ending) (w' : World) : Prop := ∃ (v : Value) (K : List Ent) (x : Ent), e = .returned (.tuple #[.agg #[v], x.agg]) ∧ (ShortE K ∧ K.length ≤ 101) ∧ x.short ∧ OwnE w' w.heap.size v K ∧ Grows w w'
/-- what the end of the generator needs of a world -/
def FinP (w : World) (v : Value) (K : List Ent) (x : Ent) (W : World) : Prop := Box W w.heap.size v 25 ∧ BoxE W (w.heap.size + 1) x 36 ∧ OwnE W w.heap.size v K ∧ Grows w W

theorem BoxE.st4e {w : World} {b : Nat} {e : Ent} {T : TypeId} (h : BoxE w b e T) (z : Ent) : BoxE ((((w.setCell ⟨b, 0, none⟩ (.string z.s)).setCell ⟨b, 1, none⟩ (.string z.k)).setCell ⟨b, 2, none⟩ (.int .i64 z.op)).setCell ⟨b, 3, none⟩ (.string z.v)) b z T := by
  unfold BoxE
  unfold BoxE at h
  simp [World.setCell, Array.getElem?_modify, h]

end Go.Proofs.YtnkggfcibbchdaaDoor
