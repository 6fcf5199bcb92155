/-
  What the program's test of a line returns: the plain test 'vline'. Conditions: parts no longer than an int says.
-/
import Derived.Test.YtclopcbpelhiaaaDoorStr
import Derived.Deep.RegionWith
namespace Go.Proofs.YtclopcbpelhiaaaDoor
open Go.RowKit

theorem same_0 (le na se va ta : ByteArray) : vline ⟨0, le, na, se, va, ta⟩ = (Ln.same ⟨0, le, ⟨#[]⟩, ⟨#[]⟩, ⟨#[]⟩, ⟨#[]⟩⟩ ⟨0, le, na, se, va, ta⟩ && (vspaces le)) := by
  unfold vline Ln.same nul
  simp
  have e : ∀ s : ByteArray, ([] == s.toList) = s.toList.isEmpty := by intro s; cases s.toList <;> rfl
  have e0 : (⟨#[]⟩ : ByteArray).toList = [] := by rw [Lib.toList_data]
  try rw [e0]
  try simp only [e]
  cases vspaces le <;> simp
  try (cases na.toList.isEmpty <;> cases se.toList.isEmpty <;> cases va.toList.isEmpty <;> cases ta.toList.isEmpty <;> simp)

set_option maxRecDepth 100000 in
set_option maxHeartbeats 2000000 in
theorem validLine_0t (le na se va ta : ByteArray) (w : World) (h1 : le.size ≤ maxLen) (hs : Ln.same ⟨0, le, ⟨#[]⟩, ⟨#[]⟩, ⟨#[]⟩, ⟨#[]⟩⟩ ⟨0, le, na, se, va, ta⟩ = true) :
    Calls Tryd.prog 67 #[Ln.agg ⟨0, le, na, se, va, ta⟩] w fun e w' => e = .returned (.bool (vline ⟨0, le, na, se, va, ta⟩)) ∧ Grows w w' := by
  have HC := Lib.hid (fun w => formOf_0 le na se va ta w)
  have HL := Lib.hid (fun w => line_0 le w)
  have HD := Lib.hid (fun w => valid_0 le w h1)
  have HV : Hid (vline ⟨0, le, na, se, va, ta⟩ = (true && (vspaces le))) := by unfold Hid; rw [same_0, hs]
  have heq := fun w => eqLn ⟨0, le, ⟨#[]⟩, ⟨#[]⟩, ⟨#[]⟩, ⟨#[]⟩⟩ ⟨0, le, na, se, va, ta⟩ w
  rw [hs] at heq
  have hnn := notNil_0 (.agg #[.string le])
  have hm1 := methLine_0 (.agg #[.string le])
  have hm2 := methValid_0 (.agg #[.string le])
  clear hs h1
  unfold lineW_0 Ln.box Ln.agg at HL
  unfold Ln.agg Ln.box at HC
  unfold Ln.agg at heq ⊢
  go_enter Tryd.func67, Tryd.ntmps67
  go_wp2_with (go_at_call 44; refine (HC.out _).mono ?_; rintro e w' ⟨rfl, rfl⟩)
  first | (go_region_with (first | (go_at_call 125; refine (HL.out _).mono ?_; rintro e w1 ⟨rfl, rfl⟩) | (go_at_call 126; refine (HD.out _).mono ?_; rintro e w2 ⟨rfl, hb⟩))) | skip
  all_goals
    go_wp2
    go_ret
    exact ⟨ret_bool (by rw [HV.out]; simp), (by repeat (first | exact Grows.refl _ | assumption | refine Grows.trans ?_ (by assumption) | refine Grows.alloc ?_ _ | refine Grows.drew ?_ | refine Grows.drewN ?_ _))⟩

set_option maxRecDepth 100000 in
set_option maxHeartbeats 2000000 in
theorem validLine_0f (le na se va ta : ByteArray) (w : World) (h1 : le.size ≤ maxLen) (hs : Ln.same ⟨0, le, ⟨#[]⟩, ⟨#[]⟩, ⟨#[]⟩, ⟨#[]⟩⟩ ⟨0, le, na, se, va, ta⟩ = false) :
    Calls Tryd.prog 67 #[Ln.agg ⟨0, le, na, se, va, ta⟩] w fun e w' => e = .returned (.bool (vline ⟨0, le, na, se, va, ta⟩)) ∧ Grows w w' := by
  have HC := Lib.hid (fun w => formOf_0 le na se va ta w)
  have HL := Lib.hid (fun w => line_0 le w)
  have HD := Lib.hid (fun w => valid_0 le w h1)
  have HV : Hid (vline ⟨0, le, na, se, va, ta⟩ = (false && (vspaces le))) := by unfold Hid; rw [same_0, hs]
  have heq := fun w => eqLn ⟨0, le, ⟨#[]⟩, ⟨#[]⟩, ⟨#[]⟩, ⟨#[]⟩⟩ ⟨0, le, na, se, va, ta⟩ w
  rw [hs] at heq
  have hnn := notNil_0 (.agg #[.string le])
  have hm1 := methLine_0 (.agg #[.string le])
  have hm2 := methValid_0 (.agg #[.string le])
  clear hs h1
  unfold lineW_0 Ln.box Ln.agg at HL
  unfold Ln.agg Ln.box at HC
  unfold Ln.agg at heq ⊢
  go_enter Tryd.func67, Tryd.ntmps67
  go_wp2_with (go_at_call 44; refine (HC.out _).mono ?_; rintro e w' ⟨rfl, rfl⟩)
  first | (go_region_with (first | (go_at_call 125; refine (HL.out _).mono ?_; rintro e w1 ⟨rfl, rfl⟩) | (go_at_call 126; refine (HD.out _).mono ?_; rintro e w2 ⟨rfl, hb⟩))) | skip
  all_goals
    go_wp2
    go_ret
    exact ⟨ret_bool (by rw [HV.out]; simp), (by repeat (first | exact Grows.refl _ | assumption | refine Grows.trans ?_ (by assumption) | refine Grows.alloc ?_ _ | refine Grows.drew ?_ | refine Grows.drewN ?_ _))⟩

theorem same_1 (le na se va ta : ByteArray) : vline ⟨1, le, na, se, va, ta⟩ = (Ln.same ⟨1, le, ⟨#[]⟩, ⟨#[]⟩, va, ⟨#[]⟩⟩ ⟨1, le, na, se, va, ta⟩ && (vspaces le && vnote va)) := by
  unfold vline Ln.same nul
  simp
  have e : ∀ s : ByteArray, ([] == s.toList) = s.toList.isEmpty := by intro s; cases s.toList <;> rfl
  have e0 : (⟨#[]⟩ : ByteArray).toList = [] := by rw [Lib.toList_data]
  try rw [e0]
  try simp only [e]
  cases vspaces le <;> simp
  try (cases na.toList.isEmpty <;> cases se.toList.isEmpty <;> cases va.toList.isEmpty <;> cases ta.toList.isEmpty <;> simp)

set_option maxRecDepth 100000 in
set_option maxHeartbeats 2000000 in
theorem validLine_1t (le na se va ta : ByteArray) (w : World) (h1 : le.size ≤ maxLen) (h2 : va.size ≤ maxLen) (hs : Ln.same ⟨1, le, ⟨#[]⟩, ⟨#[]⟩, va, ⟨#[]⟩⟩ ⟨1, le, na, se, va, ta⟩ = true) :
    Calls Tryd.prog 67 #[Ln.agg ⟨1, le, na, se, va, ta⟩] w fun e w' => e = .returned (.bool (vline ⟨1, le, na, se, va, ta⟩)) ∧ Grows w w' := by
  have HC := Lib.hid (fun w => formOf_1 le na se va ta w)
  have HL := Lib.hid (fun w => line_1 le va w)
  have HD := Lib.hid (fun w => valid_1 le va w h1 h2)
  have HV : Hid (vline ⟨1, le, na, se, va, ta⟩ = (true && (vspaces le && vnote va))) := by unfold Hid; rw [same_1, hs]
  have heq := fun w => eqLn ⟨1, le, ⟨#[]⟩, ⟨#[]⟩, va, ⟨#[]⟩⟩ ⟨1, le, na, se, va, ta⟩ w
  rw [hs] at heq
  have hnn := notNil_1 (.agg #[.string le, .string va])
  have hm1 := methLine_1 (.agg #[.string le, .string va])
  have hm2 := methValid_1 (.agg #[.string le, .string va])
  clear hs h1 h2
  unfold lineW_1 Ln.box Ln.agg at HL
  unfold Ln.agg Ln.box at HC
  unfold Ln.agg at heq ⊢
  go_enter Tryd.func67, Tryd.ntmps67
  go_wp2_with (go_at_call 44; refine (HC.out _).mono ?_; rintro e w' ⟨rfl, rfl⟩)
  first | (go_region_with (first | (go_at_call 127; refine (HL.out _).mono ?_; rintro e w1 ⟨rfl, rfl⟩) | (go_at_call 128; refine (HD.out _).mono ?_; rintro e w2 ⟨rfl, hb⟩))) | skip
  all_goals
    go_wp2
    go_ret
    exact ⟨ret_bool (by rw [HV.out]; simp), (by repeat (first | exact Grows.refl _ | assumption | refine Grows.trans ?_ (by assumption) | refine Grows.alloc ?_ _ | refine Grows.drew ?_ | refine Grows.drewN ?_ _))⟩

set_option maxRecDepth 100000 in
set_option maxHeartbeats 2000000 in
theorem validLine_1f (le na se va ta : ByteArray) (w : World) (h1 : le.size ≤ maxLen) (h2 : va.size ≤ maxLen) (hs : Ln.same ⟨1, le, ⟨#[]⟩, ⟨#[]⟩, va, ⟨#[]⟩⟩ ⟨1, le, na, se, va, ta⟩ = false) :
    Calls Tryd.prog 67 #[Ln.agg ⟨1, le, na, se, va, ta⟩] w fun e w' => e = .returned (.bool (vline ⟨1, le, na, se, va, ta⟩)) ∧ Grows w w' := by
  have HC := Lib.hid (fun w => formOf_1 le na se va ta w)
  have HL := Lib.hid (fun w => line_1 le va w)
  have HD := Lib.hid (fun w => valid_1 le va w h1 h2)
  have HV : Hid (vline ⟨1, le, na, se, va, ta⟩ = (false && (vspaces le && vnote va))) := by unfold Hid; rw [same_1, hs]
  have heq := fun w => eqLn ⟨1, le, ⟨#[]⟩, ⟨#[]⟩, va, ⟨#[]⟩⟩ ⟨1, le, na, se, va, ta⟩ w
  rw [hs] at heq
  have hnn := notNil_1 (.agg #[.string le, .string va])
  have hm1 := methLine_1 (.agg #[.string le, .string va])
  have hm2 := methValid_1 (.agg #[.string le, .string va])
  clear hs h1 h2
  unfold lineW_1 Ln.box Ln.agg at HL
  unfold Ln.agg Ln.box at HC
  unfold Ln.agg at heq ⊢
  go_enter Tryd.func67, Tryd.ntmps67
  go_wp2_with (go_at_call 44; refine (HC.out _).mono ?_; rintro e w' ⟨rfl, rfl⟩)
  first | (go_region_with (first | (go_at_call 127; refine (HL.out _).mono ?_; rintro e w1 ⟨rfl, rfl⟩) | (go_at_call 128; refine (HD.out _).mono ?_; rintro e w2 ⟨rfl, hb⟩))) | skip
  all_goals
    go_wp2
    go_ret
    exact ⟨ret_bool (by rw [HV.out]; simp), (by repeat (first | exact Grows.refl _ | assumption | refine Grows.trans ?_ (by assumption) | refine Grows.alloc ?_ _ | refine Grows.drew ?_ | refine Grows.drewN ?_ _))⟩

theorem same_2 (le na se va ta : ByteArray) : vline ⟨2, le, na, se, va, ta⟩ = (Ln.same ⟨2, le, na, ⟨#[]⟩, ⟨#[]⟩, ta⟩ ⟨2, le, na, se, va, ta⟩ && (vspaces le && (vname na && vspaces ta))) := by
  unfold vline Ln.same nul
  simp
  have e : ∀ s : ByteArray, ([] == s.toList) = s.toList.isEmpty := by intro s; cases s.toList <;> rfl
  have e0 : (⟨#[]⟩ : ByteArray).toList = [] := by rw [Lib.toList_data]
  try rw [e0]
  try simp only [e]
  cases vspaces le <;> simp
  try (cases na.toList.isEmpty <;> cases se.toList.isEmpty <;> cases va.toList.isEmpty <;> cases ta.toList.isEmpty <;> simp)

set_option maxRecDepth 100000 in
set_option maxHeartbeats 2000000 in
theorem validLine_2t (le na se va ta : ByteArray) (w : World) (h1 : le.size ≤ maxLen) (h2 : na.size ≤ 1048576) (h3 : ta.size ≤ maxLen) (hs : Ln.same ⟨2, le, na, ⟨#[]⟩, ⟨#[]⟩, ta⟩ ⟨2, le, na, se, va, ta⟩ = true) :
    Calls Tryd.prog 67 #[Ln.agg ⟨2, le, na, se, va, ta⟩] w fun e w' => e = .returned (.bool (vline ⟨2, le, na, se, va, ta⟩)) ∧ Grows w w' := by
  have HC := Lib.hid (fun w => formOf_2 le na se va ta w)
  have HL := Lib.hid (fun w => line_2 le na ta w)
  have HD := Lib.hid (fun w => valid_2 le na ta w h1 h2 h3)
  have HV : Hid (vline ⟨2, le, na, se, va, ta⟩ = (true && (vspaces le && (vname na && vspaces ta)))) := by unfold Hid; rw [same_2, hs]
  have heq := fun w => eqLn ⟨2, le, na, ⟨#[]⟩, ⟨#[]⟩, ta⟩ ⟨2, le, na, se, va, ta⟩ w
  rw [hs] at heq
  have hnn := notNil_2 (.agg #[.string le, .string na, .string ta])
  have hm1 := methLine_2 (.agg #[.string le, .string na, .string ta])
  have hm2 := methValid_2 (.agg #[.string le, .string na, .string ta])
  clear hs h1 h2 h3
  unfold lineW_2 Ln.box Ln.agg at HL
  unfold Ln.agg Ln.box at HC
  unfold Ln.agg at heq ⊢
  go_enter Tryd.func67, Tryd.ntmps67
  go_wp2_with (go_at_call 44; refine (HC.out _).mono ?_; rintro e w' ⟨rfl, rfl⟩)
  first | (go_region_with (first | (go_at_call 55; refine (HL.out _).mono ?_; rintro e w1 ⟨rfl, rfl⟩) | (go_at_call 116; refine (HD.out _).mono ?_; rintro e w2 ⟨rfl, hb⟩))) | skip
  all_goals
    go_wp2
    go_ret
    exact ⟨ret_bool (by rw [HV.out]; simp), (by repeat (first | exact Grows.refl _ | assumption | refine Grows.trans ?_ (by assumption) | refine Grows.alloc ?_ _ | refine Grows.drew ?_ | refine Grows.drewN ?_ _))⟩

set_option maxRecDepth 100000 in
set_option maxHeartbeats 2000000 in
theorem validLine_2f (le na se va ta : ByteArray) (w : World) (h1 : le.size ≤ maxLen) (h2 : na.size ≤ 1048576) (h3 : ta.size ≤ maxLen) (hs : Ln.same ⟨2, le, na, ⟨#[]⟩, ⟨#[]⟩, ta⟩ ⟨2, le, na, se, va, ta⟩ = false) :
    Calls Tryd.prog 67 #[Ln.agg ⟨2, le, na, se, va, ta⟩] w fun e w' => e = .returned (.bool (vline ⟨2, le, na, se, va, ta⟩)) ∧ Grows w w' := by
  have HC := Lib.hid (fun w => formOf_2 le na se va ta w)
  have HL := Lib.hid (fun w => line_2 le na ta w)
  have HD := Lib.hid (fun w => valid_2 le na ta w h1 h2 h3)
  have HV : Hid (vline ⟨2, le, na, se, va, ta⟩ = (false && (vspaces le && (vname na && vspaces ta)))) := by unfold Hid; rw [same_2, hs]
  have heq := fun w => eqLn ⟨2, le, na, ⟨#[]⟩, ⟨#[]⟩, ta⟩ ⟨2, le, na, se, va, ta⟩ w
  rw [hs] at heq
  have hnn := notNil_2 (.agg #[.string le, .string na, .string ta])
  have hm1 := methLine_2 (.agg #[.string le, .string na, .string ta])
  have hm2 := methValid_2 (.agg #[.string le, .string na, .string ta])
  clear hs h1 h2 h3
  unfold lineW_2 Ln.box Ln.agg at HL
  unfold Ln.agg Ln.box at HC
  unfold Ln.agg at heq ⊢
  go_enter Tryd.func67, Tryd.ntmps67
  go_wp2_with (go_at_call 44; refine (HC.out _).mono ?_; rintro e w' ⟨rfl, rfl⟩)
  first | (go_region_with (first | (go_at_call 55; refine (HL.out _).mono ?_; rintro e w1 ⟨rfl, rfl⟩) | (go_at_call 116; refine (HD.out _).mono ?_; rintro e w2 ⟨rfl, hb⟩))) | skip
  all_goals
    go_wp2
    go_ret
    exact ⟨ret_bool (by rw [HV.out]; simp), (by repeat (first | exact Grows.refl _ | assumption | refine Grows.trans ?_ (by assumption) | refine Grows.alloc ?_ _ | refine Grows.drew ?_ | refine Grows.drewN ?_ _))⟩

theorem same_3 (le na se va ta : ByteArray) : vline ⟨3, le, na, se, va, ta⟩ = (Ln.same ⟨3, le, na, se, va, ta⟩ ⟨3, le, na, se, va, ta⟩ && (vspaces le && (vname na && (vsep se && (vvalue va && (vspaces ta && (!nul va || nul ta))))))) := by
  unfold vline Ln.same nul
  simp

set_option maxRecDepth 100000 in
set_option maxHeartbeats 2000000 in
theorem validLine_3t (le na se va ta : ByteArray) (w : World) (h1 : le.size ≤ maxLen) (h2 : na.size ≤ 1048576) (h3 : se.size ≤ maxLen) (h4 : va.size ≤ maxLen) (h5 : ta.size ≤ maxLen) (hs : Ln.same ⟨3, le, na, se, va, ta⟩ ⟨3, le, na, se, va, ta⟩ = true) :
    Calls Tryd.prog 67 #[Ln.agg ⟨3, le, na, se, va, ta⟩] w fun e w' => e = .returned (.bool (vline ⟨3, le, na, se, va, ta⟩)) ∧ Grows w w' := by
  have HC := Lib.hid (fun w => formOf_3 le na se va ta w)
  have HL := Lib.hid (fun w => line_3 le na se va ta w)
  have HD := Lib.hid (fun w => valid_3 le na se va ta w h1 h2 h3 h4 h5)
  have HV : Hid (vline ⟨3, le, na, se, va, ta⟩ = (true && (vspaces le && (vname na && (vsep se && (vvalue va && (vspaces ta && (!nul va || nul ta)))))))) := by unfold Hid; rw [same_3, hs]
  have heq := fun w => eqLn ⟨3, le, na, se, va, ta⟩ ⟨3, le, na, se, va, ta⟩ w
  rw [hs] at heq
  have hnn := notNil_3 (.agg #[.string le, .string na, .string se, .string va, .string ta])
  have hm1 := methLine_3 (.agg #[.string le, .string na, .string se, .string va, .string ta])
  have hm2 := methValid_3 (.agg #[.string le, .string na, .string se, .string va, .string ta])
  clear hs h1 h2 h3 h4 h5
  unfold lineW_3 Ln.box Ln.agg at HL
  unfold Ln.agg Ln.box at HC
  unfold Ln.agg at heq ⊢
  go_enter Tryd.func67, Tryd.ntmps67
  go_wp2_with (go_at_call 44; refine (HC.out _).mono ?_; rintro e w' ⟨rfl, rfl⟩)
  first | (go_region_with (first | (go_at_call 53; refine (HL.out _).mono ?_; rintro e w1 ⟨rfl, rfl⟩) | (go_at_call 118; refine (HD.out _).mono ?_; rintro e w2 ⟨rfl, hb⟩))) | skip
  all_goals
    go_wp2
    go_ret
    exact ⟨ret_bool (by rw [HV.out]; simp), (by repeat (first | exact Grows.refl _ | assumption | refine Grows.trans ?_ (by assumption) | refine Grows.alloc ?_ _ | refine Grows.drew ?_ | refine Grows.drewN ?_ _))⟩

set_option maxRecDepth 100000 in
set_option maxHeartbeats 2000000 in
theorem validLine_x (k : Int) (le na se va ta : ByteArray) (w : World) (hk : k < 0 ∨ 3 < k) :
    Calls Tryd.prog 67 #[Ln.agg ⟨k, le, na, se, va, ta⟩] w fun e w' => e = .returned (.bool (vline ⟨k, le, na, se, va, ta⟩)) ∧ Grows w w' := by
  have HC := Lib.hid (fun w => formOf_x k le na se va ta w hk)
  have HV : Hid (vline ⟨k, le, na, se, va, ta⟩ = false) := by
    unfold Hid vline
    rw [if_neg (by show ¬ k = 0; omega), if_neg (by show ¬ k = 1; omega), if_neg (by show ¬ k = 2; omega), if_neg (by show ¬ k = 3; omega), Bool.and_false]
  have hnn := nilNil
  clear hk
  unfold Ln.agg Ln.box at HC
  unfold Ln.agg
  go_enter Tryd.func67, Tryd.ntmps67
  go_wp2_with (go_at_call 44; refine (HC.out _).mono ?_; rintro e w' ⟨rfl, rfl⟩)
  first | (go_region_with (fail)) | skip
  all_goals
    go_wp2
    go_ret
    exact ⟨ret_bool (by rw [HV.out]), (by repeat (first | exact Grows.refl _ | assumption | refine Grows.trans ?_ (by assumption) | refine Grows.alloc ?_ _ | refine Grows.drew ?_ | refine Grows.drewN ?_ _))⟩

theorem validLine_any (l : Ln) (w : World) (hl : l.fits) :
    Calls Tryd.prog 67 #[l.agg] w fun e w' => e = .returned (.bool (vline l)) ∧ Grows w w' := by
  obtain ⟨k, le, na, se, va, ta⟩ := l
  obtain ⟨h1, h2, h3, h4, h5⟩ := hl
  by_cases hk : k < 0 ∨ 3 < k
  · exact validLine_x k le na se va ta w hk
  · rcases (show k = 0 ∨ k = 1 ∨ k = 2 ∨ k = 3 from by omega) with rfl | rfl | rfl | rfl
    · cases hs : Ln.same ⟨0, le, ⟨#[]⟩, ⟨#[]⟩, ⟨#[]⟩, ⟨#[]⟩⟩ ⟨0, le, na, se, va, ta⟩
      · exact validLine_0f le na se va ta w h1 hs
      · exact validLine_0t le na se va ta w h1 hs
    · cases hs : Ln.same ⟨1, le, ⟨#[]⟩, ⟨#[]⟩, va, ⟨#[]⟩⟩ ⟨1, le, na, se, va, ta⟩
      · exact validLine_1f le na se va ta w h1 h4 hs
      · exact validLine_1t le na se va ta w h1 h4 hs
    · cases hs : Ln.same ⟨2, le, na, ⟨#[]⟩, ⟨#[]⟩, ta⟩ ⟨2, le, na, se, va, ta⟩
      · exact validLine_2f le na se va ta w h1 h2 h5 hs
      · exact validLine_2t le na se va ta w h1 h2 h5 hs
    · exact validLine_3t le na se va ta w h1 h2 h3 h4 h5 (by simp [Ln.same])
end Go.Proofs.YtclopcbpelhiaaaDoor
