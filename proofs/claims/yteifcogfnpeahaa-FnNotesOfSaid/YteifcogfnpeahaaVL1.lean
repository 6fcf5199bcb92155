/-
  What the program's test of a line returns: the plain test 'vline'. Conditions: parts no longer than an int says.
-/
import Derived.Test.YteifcogfnpeahaaValid
import Derived.Test.YteifcogfnpeahaaSame
import Derived.Deep.RegionWith
namespace Go.Proofs.Yteifcogfnpeahaa
open Go.RowKit

theorem same_1 (le na se va ta : ByteArray) : vline ⟨1, le, na, se, va, ta⟩ = (Ln.same ⟨1, le, ⟨#[]⟩, ⟨#[]⟩, va, ⟨#[]⟩⟩ ⟨1, le, na, se, va, ta⟩ && (vspaces le && vnote va)) := by
  unfold vline Ln.same nul
  simp
  have e : ∀ s : ByteArray, ([] == s.toList) = s.toList.isEmpty := by intro s; cases s.toList <;> rfl
  have e0 : (⟨#[]⟩ : ByteArray).toList = [] := by rw [Lib.toList_data]
  try rw [e0]
  try simp only [e]
  cases vspaces le <;> simp
  try (cases na.toList.isEmpty <;> cases se.toList.isEmpty <;> cases va.toList.isEmpty <;> cases ta.toList.isEmpty <;> simp)

set_option maxRecDepth 100000 in
set_option maxHeartbeats 2000000 in
theorem validLine_1t (le na se va ta : ByteArray) (w : World) (h1 : le.size ≤ maxLen) (h2 : va.size ≤ maxLen) (hs : Ln.same ⟨1, le, ⟨#[]⟩, ⟨#[]⟩, va, ⟨#[]⟩⟩ ⟨1, le, na, se, va, ta⟩ = true) :
    Calls Try.prog 66 #[Ln.agg ⟨1, le, na, se, va, ta⟩] w fun e w' => e = .returned (.bool (vline ⟨1, le, na, se, va, ta⟩)) ∧ Grows w w' := by
  have HC := Lib.hid (fun w => formOf_1 le na se va ta w)
  have HL := Lib.hid (fun w => line_1 le va w)
  have HD := Lib.hid (fun w => valid_1 le va w h1 h2)
  have HV : Hid (vline ⟨1, le, na, se, va, ta⟩ = (true && (vspaces le && vnote va))) := by unfold Hid; rw [same_1, hs]
  have heq := fun w => eqLn ⟨1, le, ⟨#[]⟩, ⟨#[]⟩, va, ⟨#[]⟩⟩ ⟨1, le, na, se, va, ta⟩ w
  rw [hs] at heq
  have hnn := notNil_1 (.agg #[.string le, .string va])
  have hm1 := methLine_1 (.agg #[.string le, .string va])
  have hm2 := methValid_1 (.agg #[.string le, .string va])
  clear hs h1 h2
  unfold lineW_1 Ln.box Ln.agg at HL
  unfold Ln.agg Ln.box at HC
  unfold Ln.agg at heq ⊢
  go_enter Try.func66, Try.ntmps66
  go_wp2_with (go_at_call 61; refine (HC.out _).mono ?_; rintro e w' ⟨rfl, rfl⟩)
  first | (go_region_with (first | (go_at_call 167; refine (HL.out _).mono ?_; rintro e w1 ⟨rfl, rfl⟩) | (go_at_call 168; refine (HD.out _).mono ?_; rintro e w2 ⟨rfl, hb⟩))) | skip
  all_goals
    go_wp2
    go_ret
    exact ⟨ret_bool (by rw [HV.out]; simp), (by repeat (first | exact Grows.refl _ | assumption | refine Grows.trans ?_ (by assumption) | refine Grows.alloc ?_ _ | refine Grows.drew ?_ | refine Grows.drewN ?_ _))⟩

set_option maxRecDepth 100000 in
set_option maxHeartbeats 2000000 in
theorem validLine_1f (le na se va ta : ByteArray) (w : World) (h1 : le.size ≤ maxLen) (h2 : va.size ≤ maxLen) (hs : Ln.same ⟨1, le, ⟨#[]⟩, ⟨#[]⟩, va, ⟨#[]⟩⟩ ⟨1, le, na, se, va, ta⟩ = false) :
    Calls Try.prog 66 #[Ln.agg ⟨1, le, na, se, va, ta⟩] w fun e w' => e = .returned (.bool (vline ⟨1, le, na, se, va, ta⟩)) ∧ Grows w w' := by
  have HC := Lib.hid (fun w => formOf_1 le na se va ta w)
  have HL := Lib.hid (fun w => line_1 le va w)
  have HD := Lib.hid (fun w => valid_1 le va w h1 h2)
  have HV : Hid (vline ⟨1, le, na, se, va, ta⟩ = (false && (vspaces le && vnote va))) := by unfold Hid; rw [same_1, hs]
  have heq := fun w => eqLn ⟨1, le, ⟨#[]⟩, ⟨#[]⟩, va, ⟨#[]⟩⟩ ⟨1, le, na, se, va, ta⟩ w
  rw [hs] at heq
  have hnn := notNil_1 (.agg #[.string le, .string va])
  have hm1 := methLine_1 (.agg #[.string le, .string va])
  have hm2 := methValid_1 (.agg #[.string le, .string va])
  clear hs h1 h2
  unfold lineW_1 Ln.box Ln.agg at HL
  unfold Ln.agg Ln.box at HC
  unfold Ln.agg at heq ⊢
  go_enter Try.func66, Try.ntmps66
  go_wp2_with (go_at_call 61; refine (HC.out _).mono ?_; rintro e w' ⟨rfl, rfl⟩)
  first | (go_region_with (first | (go_at_call 167; refine (HL.out _).mono ?_; rintro e w1 ⟨rfl, rfl⟩) | (go_at_call 168; refine (HD.out _).mono ?_; rintro e w2 ⟨rfl, hb⟩))) | skip
  all_goals
    go_wp2
    go_ret
    exact ⟨ret_bool (by rw [HV.out]; simp), (by repeat (first | exact Grows.refl _ | assumption | refine Grows.trans ?_ (by assumption) | refine Grows.alloc ?_ _ | refine Grows.drew ?_ | refine Grows.drewN ?_ _))⟩

end Go.Proofs.Yteifcogfnpeahaa
