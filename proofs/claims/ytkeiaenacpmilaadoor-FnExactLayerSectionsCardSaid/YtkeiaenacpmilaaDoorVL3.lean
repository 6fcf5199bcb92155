/-
  What the program's test of a line returns: the plain test 'vline'. Conditions: parts no longer than an int says.
-/
import Derived.Test.YtkeiaenacpmilaaDoorValid
import Derived.Test.YtkeiaenacpmilaaDoorSame
import Derived.Deep.RegionWith
namespace Go.Proofs.YtkeiaenacpmilaaDoor
open Go.RowKit

theorem same_3 (le na se va ta : ByteArray) : vline ⟨3, le, na, se, va, ta⟩ = (Ln.same ⟨3, le, na, se, va, ta⟩ ⟨3, le, na, se, va, ta⟩ && (vspaces le && (vname na && (vsep se && (vvalue va && (vspaces ta && (!nul va || nul ta))))))) := by
  unfold vline Ln.same nul
  simp

end Go.Proofs.YtkeiaenacpmilaaDoor
