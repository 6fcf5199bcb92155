/-
  Places of keys: what a section and a key are, for the specification and for the program. Conditions: at most 1048576 bytes.
-/
import Derived.Test.YtdedidcjbocicaaName
import Derived.Test.YtdedidcjbocicaaMem
namespace Go.Proofs.Ytdedidcjbocicaa
open Go.RowKit

/-- what a section is -/
def vsec (s : ByteArray) : Bool := (s.toList == []) || vname s
def vplace (s k : ByteArray) : Bool := vsec s && vname k
theorem vsec_nil {s : ByteArray} (h : s.toList = []) : vsec s = true := by simp [vsec, h]
theorem vsec_ne {s : ByteArray} (h : ¬ s.toList = []) : vsec s = vname s := by simp [vsec, h]

end Go.Proofs.Ytdedidcjbocicaa
