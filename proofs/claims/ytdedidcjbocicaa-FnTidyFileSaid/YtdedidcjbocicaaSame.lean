/-
  The comparison of two lines. No condition.
-/
import Derived.Test.YtdedidcjbocicaaLine3
import Derived.Deep.RegionWith
namespace Go.Proofs.Ytdedidcjbocicaa
open Go.RowKit

/-- two lines are the same in every part -/
def Ln.same (a b : Ln) : Bool := (a.k == b.k) && ((a.le.toList == b.le.toList) && ((a.na.toList == b.na.toList) && ((a.se.toList == b.se.toList) && ((a.va.toList == b.va.toList) && (a.ta.toList == b.ta.toList)))))
theorem eqLn (a b : Ln) (w : World) : (binOp .eql 39 a.agg b.agg).run Try.prog w = .ok (.bool (a.same b)) w := by
  unfold Ln.agg
  go_simp
  unfold Ln.same
  repeat' split
  all_goals simp_all

end Go.Proofs.Ytdedidcjbocicaa
