/-
  The law's comparison of layers. Condition: at most 1048576 entries.
-/
import Derived.Test.YtkjoolmhcfajnaaDoorMeanP
namespace Go.Proofs.YtkjoolmhcfajnaaDoor
open Go.RowKit

theorem Ent.same_self (l : Ent) : l.same l = true := by simp [Ent.same]

end Go.Proofs.YtkjoolmhcfajnaaDoor
