/-
  The arguments that the drawn laws of files generate. Conditions: none but that the bytes lie in memory.
-/
import Derived.Test.YtclopcbpelhiaaaRdr
namespace Go.Proofs.Ytclopcbpelhiaaa
open Go.RowKit

/-- a call's end: a file -/
def DFile (w : World) (e : Ending) (w' : World) : Prop := ∃ (v : Value) (K : List Ln), e = .returned (.agg #[v]) ∧ (ShortL K ∧ K.length ≤ 100) ∧ OwnL w' w.heap.size v K ∧ Grows w w'
/-- a call's end: a file and a section -/
def DFileS (w : World) (e : Ending) (w' : World) : Prop := ∃ (v : Value) (K : List Ln) (s : ByteArray), e = .returned (.tuple #[.agg #[v], .string s]) ∧ (ShortL K ∧ K.length ≤ 100) ∧ OwnL w' w.heap.size v K ∧ s.size ≤ 41 ∧ Grows w w'
/-- a call's end: a file, a section and a key -/
def DFileSK (w : World) (e : Ending) (w' : World) : Prop := ∃ (v : Value) (K : List Ln) (s key : ByteArray), e = .returned (.tuple #[.agg #[v], .string s, .string key]) ∧ (ShortL K ∧ K.length ≤ 100) ∧ OwnL w' w.heap.size v K ∧ (s.size ≤ 41 ∧ key.size ≤ 41) ∧ Grows w w'
/-- a call's end: a file and three texts -/
def DFileSKT (w : World) (e : Ending) (w' : World) : Prop := ∃ (v : Value) (K : List Ln) (s key tt : ByteArray), e = .returned (.tuple #[.agg #[v], .string s, .string key, .string tt]) ∧ (ShortL K ∧ K.length ≤ 100) ∧ OwnL w' w.heap.size v K ∧ (s.size ≤ 41 ∧ key.size ≤ 41 ∧ tt.size ≤ 41) ∧ Grows w w'

end Go.Proofs.Ytclopcbpelhiaaa
