/-
  The arguments that the drawn laws of layers generate. Conditions: none but that the bytes lie in memory.
-/
import Derived.Test.YtkjoolmhcfajnaaDoorGLay
namespace Go.Proofs.YtkjoolmhcfajnaaDoor
open Go.RowKit

/-- a call's end: a layer -/
def DLay (w : World) (e : Ending) (w' : World) : Prop := ∃ (v : Value) (K : List Ent), e = .returned (.agg #[v]) ∧ (ShortE K ∧ K.length ≤ 101) ∧ OwnE w' w.heap.size v K ∧ Grows w w'
/-- a call's end: a layer and a section -/
def DLayS (w : World) (e : Ending) (w' : World) : Prop := ∃ (v : Value) (K : List Ent) (s : ByteArray), e = .returned (.tuple #[.agg #[v], .string s]) ∧ (ShortE K ∧ K.length ≤ 101) ∧ OwnE w' w.heap.size v K ∧ s.size ≤ 41 ∧ Grows w w'

end Go.Proofs.YtkjoolmhcfajnaaDoor
