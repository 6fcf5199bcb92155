/-
  An entry put into a layer: PutEntry of both sides. Conditions: parts of at most 1048576 bytes, at most 1048570 entries.
-/
import Derived.Test.YtkjoolmhcfajnaaDoorPutE
import Derived.Test.YtkjoolmhcfajnaaDoorLawVL
namespace Go.Proofs.YtkjoolmhcfajnaaDoor
open Go.RowKit

theorem efit_of {e : Ent} {m : Int} (h : (e.size : Int) ≤ m) (hm : m ≤ 1048576) : e.fits := by
  unfold Ent.size at h
  unfold Ent.fits
  omega
theorem putE_20 (es : List Ent) (e : Ent) : (putE es e).length ≤ 20 := by
  unfold putE
  split
  · unfold chkE
    split
    · rename_i h
      exact vlayer_20 h
    · simp
  · simp
theorem eqPlace (a b c d : ByteArray) (w : World) : (binOp .eql 47 (.agg #[.string a, .string b]) (.agg #[.string c, .string d])).run Tryd.prog w = .ok (.bool ((a.toList == c.toList) && (b.toList == d.toList))) w := by
  go_simp
  repeat' split
  all_goals simp_all

end Go.Proofs.YtkjoolmhcfajnaaDoor
