/-
  The text of a reference: RefText of both sides, and its law. Conditions: parts no longer than a text may be.
-/
import Derived.Test.YthiefficgmokgaaDoorTidyQ
import Derived.Test.YthiefficgmokgaaDoorMem
import Derived.ProofKit
import Derived.Deep.Slices
import Derived.Deep.Fields
import Derived.ChangeSame
import Derived.ShutString
namespace Go.Proofs.YthiefficgmokgaaDoor
open Go.ChangeShapes Go.WideShapes Go.Deep Go.RowKit

/-- the text of a reference to the key k of the section r, in the section s -/
def rtext (s r k : ByteArray) : ByteArray := if (r.toList == s.toList) = true then ⟨#[36, 123]⟩ ++ k ++ ⟨#[125]⟩ else ⟨#[36, 123]⟩ ++ r ++ ⟨#[58]⟩ ++ k ++ ⟨#[125]⟩
/-- what RefText makes -/
def refB (s r k : ByteArray) : Bool := vsec s && vplace r k
def refT (s r k : ByteArray) : ByteArray := if refB s r k = true then rtext s r k else ⟨#[]⟩

section
variable {H : Type} {enc : TypeId × Value → H} {w : World} {base : Nat} {spare : Nat → Bool} {held : Bool}
end
end Go.Proofs.YthiefficgmokgaaDoor
