/-
  What the program's test of a line returns: the plain test 'vline'. Conditions: parts no longer than an int says.
-/
import Derived.Test.YteifcogfnpeahaaValid
import Derived.Test.YteifcogfnpeahaaSame
import Derived.Deep.RegionWith
namespace Go.Proofs.Yteifcogfnpeahaa
open Go.RowKit

theorem same_2 (le na se va ta : ByteArray) : vline ⟨2, le, na, se, va, ta⟩ = (Ln.same ⟨2, le, na, ⟨#[]⟩, ⟨#[]⟩, ta⟩ ⟨2, le, na, se, va, ta⟩ && (vspaces le && (vname na && vspaces ta))) := by
  unfold vline Ln.same nul
  simp
  have e : ∀ s : ByteArray, ([] == s.toList) = s.toList.isEmpty := by intro s; cases s.toList <;> rfl
  have e0 : (⟨#[]⟩ : ByteArray).toList = [] := by rw [Lib.toList_data]
  try rw [e0]
  try simp only [e]
  cases vspaces le <;> simp
  try (cases na.toList.isEmpty <;> cases se.toList.isEmpty <;> cases va.toList.isEmpty <;> cases ta.toList.isEmpty <;> simp)

set_option maxRecDepth 100000 in
set_option maxHeartbeats 2000000 in
theorem validLine_2t (le na se va ta : ByteArray) (w : World) (h1 : le.size ≤ maxLen) (h2 : na.size ≤ 1048576) (h3 : ta.size ≤ maxLen) (hs : Ln.same ⟨2, le, na, ⟨#[]⟩, ⟨#[]⟩, ta⟩ ⟨2, le, na, se, va, ta⟩ = true) :
    Calls Try.prog 66 #[Ln.agg ⟨2, le, na, se, va, ta⟩] w fun e w' => e = .returned (.bool (vline ⟨2, le, na, se, va, ta⟩)) ∧ Grows w w' := by
  have HC := Lib.hid (fun w => formOf_2 le na se va ta w)
  have HL := Lib.hid (fun w => line_2 le na ta w)
  have HD := Lib.hid (fun w => valid_2 le na ta w h1 h2 h3)
  have HV : Hid (vline ⟨2, le, na, se, va, ta⟩ = (true && (vspaces le && (vname na && vspaces ta)))) := by unfold Hid; rw [same_2, hs]
  have heq := fun w => eqLn ⟨2, le, na, ⟨#[]⟩, ⟨#[]⟩, ta⟩ ⟨2, le, na, se, va, ta⟩ w
  rw [hs] at heq
  have hnn := notNil_2 (.agg #[.string le, .string na, .string ta])
  have hm1 := methLine_2 (.agg #[.string le, .string na, .string ta])
  have hm2 := methValid_2 (.agg #[.string le, .string na, .string ta])
  clear hs h1 h2 h3
  unfold lineW_2 Ln.box Ln.agg at HL
  unfold Ln.agg Ln.box at HC
  unfold Ln.agg at heq ⊢
  go_enter Try.func66, Try.ntmps66
  go_wp2_with (go_at_call 61; refine (HC.out _).mono ?_; rintro e w' ⟨rfl, rfl⟩)
  first | (go_region_with (first | (go_at_call 87; refine (HL.out _).mono ?_; rintro e w1 ⟨rfl, rfl⟩) | (go_at_call 133; refine (HD.out _).mono ?_; rintro e w2 ⟨rfl, hb⟩))) | skip
  all_goals
    go_wp2
    go_ret
    exact ⟨ret_bool (by rw [HV.out]; simp), (by repeat (first | exact Grows.refl _ | assumption | refine Grows.trans ?_ (by assumption) | refine Grows.alloc ?_ _ | refine Grows.drew ?_ | refine Grows.drewN ?_ _))⟩

set_option maxRecDepth 100000 in
set_option maxHeartbeats 2000000 in
theorem validLine_2f (le na se va ta : ByteArray) (w : World) (h1 : le.size ≤ maxLen) (h2 : na.size ≤ 1048576) (h3 : ta.size ≤ maxLen) (hs : Ln.same ⟨2, le, na, ⟨#[]⟩, ⟨#[]⟩, ta⟩ ⟨2, le, na, se, va, ta⟩ = false) :
    Calls Try.prog 66 #[Ln.agg ⟨2, le, na, se, va, ta⟩] w fun e w' => e = .returned (.bool (vline ⟨2, le, na, se, va, ta⟩)) ∧ Grows w w' := by
  have HC := Lib.hid (fun w => formOf_2 le na se va ta w)
  have HL := Lib.hid (fun w => line_2 le na ta w)
  have HD := Lib.hid (fun w => valid_2 le na ta w h1 h2 h3)
  have HV : Hid (vline ⟨2, le, na, se, va, ta⟩ = (false && (vspaces le && (vname na && vspaces ta)))) := by unfold Hid; rw [same_2, hs]
  have heq := fun w => eqLn ⟨2, le, na, ⟨#[]⟩, ⟨#[]⟩, ta⟩ ⟨2, le, na, se, va, ta⟩ w
  rw [hs] at heq
  have hnn := notNil_2 (.agg #[.string le, .string na, .string ta])
  have hm1 := methLine_2 (.agg #[.string le, .string na, .string ta])
  have hm2 := methValid_2 (.agg #[.string le, .string na, .string ta])
  clear hs h1 h2 h3
  unfold lineW_2 Ln.box Ln.agg at HL
  unfold Ln.agg Ln.box at HC
  unfold Ln.agg at heq ⊢
  go_enter Try.func66, Try.ntmps66
  go_wp2_with (go_at_call 61; refine (HC.out _).mono ?_; rintro e w' ⟨rfl, rfl⟩)
  first | (go_region_with (first | (go_at_call 87; refine (HL.out _).mono ?_; rintro e w1 ⟨rfl, rfl⟩) | (go_at_call 133; refine (HD.out _).mono ?_; rintro e w2 ⟨rfl, hb⟩))) | skip
  all_goals
    go_wp2
    go_ret
    exact ⟨ret_bool (by rw [HV.out]; simp), (by repeat (first | exact Grows.refl _ | assumption | refine Grows.trans ?_ (by assumption) | refine Grows.alloc ?_ _ | refine Grows.drew ?_ | refine Grows.drewN ?_ _))⟩

end Go.Proofs.Yteifcogfnpeahaa
