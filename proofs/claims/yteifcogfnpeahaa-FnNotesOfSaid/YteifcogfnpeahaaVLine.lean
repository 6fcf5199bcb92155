/-
  What the program's test of a line returns: the plain test 'vline'. Conditions: parts no longer than an int says.
-/
import Derived.Test.YteifcogfnpeahaaVL0
import Derived.Test.YteifcogfnpeahaaVL1
import Derived.Test.YteifcogfnpeahaaVL2
import Derived.Test.YteifcogfnpeahaaVL3
import Derived.Deep.RegionWith
namespace Go.Proofs.Yteifcogfnpeahaa
open Go.RowKit

set_option maxRecDepth 100000 in
set_option maxHeartbeats 2000000 in
theorem validLine_x (k : Int) (le na se va ta : ByteArray) (w : World) (hk : k < 0 ∨ 3 < k) :
    Calls Try.prog 66 #[Ln.agg ⟨k, le, na, se, va, ta⟩] w fun e w' => e = .returned (.bool (vline ⟨k, le, na, se, va, ta⟩)) ∧ Grows w w' := by
  have HC := Lib.hid (fun w => formOf_x k le na se va ta w hk)
  have HV : Hid (vline ⟨k, le, na, se, va, ta⟩ = false) := by
    unfold Hid vline
    rw [if_neg (by show ¬ k = 0; omega), if_neg (by show ¬ k = 1; omega), if_neg (by show ¬ k = 2; omega), if_neg (by show ¬ k = 3; omega), Bool.and_false]
  have hnn := nilNil
  clear hk
  unfold Ln.agg Ln.box at HC
  unfold Ln.agg
  go_enter Try.func66, Try.ntmps66
  go_wp2_with (go_at_call 61; refine (HC.out _).mono ?_; rintro e w' ⟨rfl, rfl⟩)
  first | (go_region_with (fail)) | skip
  all_goals
    go_wp2
    go_ret
    exact ⟨ret_bool (by rw [HV.out]), (by repeat (first | exact Grows.refl _ | assumption | refine Grows.trans ?_ (by assumption) | refine Grows.alloc ?_ _ | refine Grows.drew ?_ | refine Grows.drewN ?_ _))⟩

theorem validLine_any (l : Ln) (w : World) (hl : l.fits) :
    Calls Try.prog 66 #[l.agg] w fun e w' => e = .returned (.bool (vline l)) ∧ Grows w w' := by
  obtain ⟨k, le, na, se, va, ta⟩ := l
  obtain ⟨h1, h2, h3, h4, h5⟩ := hl
  by_cases hk : k < 0 ∨ 3 < k
  · exact validLine_x k le na se va ta w hk
  · rcases (show k = 0 ∨ k = 1 ∨ k = 2 ∨ k = 3 from by omega) with rfl | rfl | rfl | rfl
    · cases hs : Ln.same ⟨0, le, ⟨#[]⟩, ⟨#[]⟩, ⟨#[]⟩, ⟨#[]⟩⟩ ⟨0, le, na, se, va, ta⟩
      · exact validLine_0f le na se va ta w h1 hs
      · exact validLine_0t le na se va ta w h1 hs
    · cases hs : Ln.same ⟨1, le, ⟨#[]⟩, ⟨#[]⟩, va, ⟨#[]⟩⟩ ⟨1, le, na, se, va, ta⟩
      · exact validLine_1f le na se va ta w h1 h4 hs
      · exact validLine_1t le na se va ta w h1 h4 hs
    · cases hs : Ln.same ⟨2, le, na, ⟨#[]⟩, ⟨#[]⟩, ta⟩ ⟨2, le, na, se, va, ta⟩
      · exact validLine_2f le na se va ta w h1 h2 h5 hs
      · exact validLine_2t le na se va ta w h1 h2 h5 hs
    · exact validLine_3t le na se va ta w h1 h2 h3 h4 h5 (by simp [Ln.same])
end Go.Proofs.Yteifcogfnpeahaa
