/-
  What the program's test of a line returns: the plain test 'vline'. Conditions: parts no longer than an int says.
-/
import Derived.Test.YteifcogfnpeahaaValid
import Derived.Test.YteifcogfnpeahaaSame
import Derived.Deep.RegionWith
namespace Go.Proofs.Yteifcogfnpeahaa
open Go.RowKit

theorem same_3 (le na se va ta : ByteArray) : vline ⟨3, le, na, se, va, ta⟩ = (Ln.same ⟨3, le, na, se, va, ta⟩ ⟨3, le, na, se, va, ta⟩ && (vspaces le && (vname na && (vsep se && (vvalue va && (vspaces ta && (!nul va || nul ta))))))) := by
  unfold vline Ln.same nul
  simp

set_option maxRecDepth 100000 in
set_option maxHeartbeats 2000000 in
theorem validLine_3t (le na se va ta : ByteArray) (w : World) (h1 : le.size ≤ maxLen) (h2 : na.size ≤ 1048576) (h3 : se.size ≤ maxLen) (h4 : va.size ≤ maxLen) (h5 : ta.size ≤ maxLen) (hs : Ln.same ⟨3, le, na, se, va, ta⟩ ⟨3, le, na, se, va, ta⟩ = true) :
    Calls Try.prog 66 #[Ln.agg ⟨3, le, na, se, va, ta⟩] w fun e w' => e = .returned (.bool (vline ⟨3, le, na, se, va, ta⟩)) ∧ Grows w w' := by
  have HC := Lib.hid (fun w => formOf_3 le na se va ta w)
  have HL := Lib.hid (fun w => line_3 le na se va ta w)
  have HD := Lib.hid (fun w => valid_3 le na se va ta w h1 h2 h3 h4 h5)
  have HV : Hid (vline ⟨3, le, na, se, va, ta⟩ = (true && (vspaces le && (vname na && (vsep se && (vvalue va && (vspaces ta && (!nul va || nul ta)))))))) := by unfold Hid; rw [same_3, hs]
  have heq := fun w => eqLn ⟨3, le, na, se, va, ta⟩ ⟨3, le, na, se, va, ta⟩ w
  rw [hs] at heq
  have hnn := notNil_3 (.agg #[.string le, .string na, .string se, .string va, .string ta])
  have hm1 := methLine_3 (.agg #[.string le, .string na, .string se, .string va, .string ta])
  have hm2 := methValid_3 (.agg #[.string le, .string na, .string se, .string va, .string ta])
  clear hs h1 h2 h3 h4 h5
  unfold lineW_3 Ln.box Ln.agg at HL
  unfold Ln.agg Ln.box at HC
  unfold Ln.agg at heq ⊢
  go_enter Try.func66, Try.ntmps66
  go_wp2_with (go_at_call 61; refine (HC.out _).mono ?_; rintro e w' ⟨rfl, rfl⟩)
  first | (go_region_with (first | (go_at_call 88; refine (HL.out _).mono ?_; rintro e w1 ⟨rfl, rfl⟩) | (go_at_call 156; refine (HD.out _).mono ?_; rintro e w2 ⟨rfl, hb⟩))) | skip
  all_goals
    go_wp2
    go_ret
    exact ⟨ret_bool (by rw [HV.out]; simp), (by repeat (first | exact Grows.refl _ | assumption | refine Grows.trans ?_ (by assumption) | refine Grows.alloc ?_ _ | refine Grows.drew ?_ | refine Grows.drewN ?_ _))⟩
end Go.Proofs.Yteifcogfnpeahaa
