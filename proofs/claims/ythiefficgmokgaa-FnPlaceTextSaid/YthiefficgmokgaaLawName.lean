/-
  The body of 'FnExactValidName': it returns true for every text.
-/
import Derived.Test.YthiefficgmokgaaStr
namespace Go.Proofs.Ythiefficgmokgaa
open Go.RowKit

set_option maxHeartbeats 400000 in
theorem specValidName_any (s : ByteArray) (w : World) (hs : s.size ≤ 1048576) :
    Calls Try.prog 20 #[.string s] w fun e w' => e = .returned (.bool (vname s)) ∧ w = w' := by
  go_enter Try.func20, Try.ntmps20
  go_wp2_with (go_at_call 32; refine (specName_any _ _ hs).mono ?_; rintro e w' ⟨rfl, rfl⟩)
  go_ret
  exact ⟨rfl, rfl⟩

end Go.Proofs.Ythiefficgmokgaa
