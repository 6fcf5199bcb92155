/-
  The body of 'FnExactValidValue': it returns true for every text; the memory that was there stays.
-/
import Derived.Test.YtclopcbpelhiaaaDoorStr
namespace Go.Proofs.YtclopcbpelhiaaaDoor
open Go.RowKit

theorem specValidValue_any (s : ByteArray) (w : World) (hs : s.size ≤ maxLen) :
    Calls Tryd.prog 22 #[.string s] w fun e w' => e = .returned (.bool (vvalue s)) ∧ w = w' := by
  go_enter Tryd.func22, Tryd.ntmps22
  go_wp2_with (go_at_call 50; refine (specValue_any _ _ hs).mono ?_; rintro e w' ⟨rfl, rfl⟩)
  go_ret
  exact ⟨rfl, rfl⟩

end Go.Proofs.YtclopcbpelhiaaaDoor
