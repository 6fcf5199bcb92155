/-
  What the method valid of each form of a line returns; what the program's test of a line returns: the plain test 'vline'. Conditions: parts no longer than an int says.
-/
import Derived.Test.YtdedidcjbocicaaForm
import Derived.Deep.RegionWith
namespace Go.Proofs.Ytdedidcjbocicaa
open Go.RowKit

theorem Grows.bc {a b : World} (h : Grows a b) : ∀ k o, k < a.heap.size → b.cell? ⟨k, o, none⟩ = a.cell? ⟨k, o, none⟩ := fun k o hk => Below.cell (p := ⟨k, o, none⟩) h hk

theorem vnote_eq (s : ByteArray) : vnote s = (Lib.hasPrefix s.data.toList [35] && (decide (s.size ≤ 40) && allB pr s)) := by
  have h1 : Lib.hasPrefix s.data.toList [35] = (decide (1 ≤ s.size) && decide (s.data.toList.head? = some 35)) := by
    rw [Lib.size_eq]
    unfold Lib.hasPrefix
    cases s.data.toList with
    | nil => rfl
    | cons b t =>
      have : (35 == b) = decide (b = 35) := by rw [Bool.eq_iff_iff, beq_iff_eq, decide_eq_true_iff]; exact eq_comm
      simp [List.isPrefixOf, this]
  unfold vnote
  rw [h1]
  cases allB pr s <;> cases decide (1 ≤ s.size) <;> cases decide (s.size ≤ 40) <;> cases decide (s.data.toList.head? = some 35) <;> rfl

set_option maxHeartbeats 1000000 in
theorem valid_0 (le : ByteArray) (w : World) (h1 : le.size ≤ maxLen) :
    Calls Try.prog 119 #[.agg #[.string le]] w fun e w' => e = .returned (.bool (vspaces le)) ∧ Grows w w' := by
  have H1 := Lib.hid (fun w => fewSpaces_any le w h1)
  go_enter Try.func119, Try.ntmps119
  go_wp2_with (go_at_call 83; refine (H1.out _).mono ?_; rintro e w1 ⟨rfl, hb1⟩)
  go_ret
  exact ⟨rfl, ((Grows.refl _).alloc _).trans hb1⟩

set_option maxHeartbeats 1000000 in
theorem valid_1 (le va : ByteArray) (w : World) (h1 : le.size ≤ maxLen) (h2 : va.size ≤ maxLen) :
    Calls Try.prog 115 #[.agg #[.string le, .string va]] w fun e w' => e = .returned (.bool (vspaces le && vnote va)) ∧ Grows w w' := by
  have H1 := Lib.hid (fun w => fewSpaces_any le w h1)
  have H2 := Lib.hid (fun w => implPrintable_any va w)
  have hp := fun w => Try.strings_HasPrefix va ⟨#[35]⟩ w
  have H3 := Lib.hid hp
  have HV := Lib.hid (vnote_eq va)
  unfold maxLen at h2
  clear h1 hp
  go_enter Try.func115, Try.ntmps115
  go_wp2_with (first | (go_at_call 83; refine (H1.out _).mono ?_; rintro e w1 ⟨rfl, hb1⟩; have hc1 := hb1.bc; have hs1 : w.heap.size < w1.heap.size := Nat.lt_of_lt_of_le (by first | assumption | simp) hb1.size) | (go_at_call 116; refine (H3.out _).mono ?_; rintro e w' ⟨rfl, rfl⟩) | (go_at_call 110; refine (H2.out _).mono ?_; rintro e w2 ⟨rfl, hb2⟩; have hc2 := hb2.bc; have hs2 : w.heap.size < w2.heap.size := Nat.lt_of_lt_of_le (by first | assumption | simp) hb2.size))
  all_goals
    go_ret
    exact ⟨ret_bool (by rw [HV.out]; clear H1 H2 H3 HV; simp_all; try (intros; omega)), (by repeat (first | exact Grows.refl _ | assumption | refine Grows.trans ?_ (by assumption) | refine Grows.alloc ?_ _ | refine Grows.drew ?_ | refine Grows.drewN ?_ _))⟩

set_option maxHeartbeats 1000000 in
theorem valid_2 (le na ta : ByteArray) (w : World) (h1 : le.size ≤ maxLen) (h2 : na.size ≤ 1048576) (h3 : ta.size ≤ maxLen) :
    Calls Try.prog 82 #[.agg #[.string le, .string na, .string ta]] w fun e w' => e = .returned (.bool (vspaces le && (vname na && vspaces ta))) ∧ Grows w w' := by
  have H1 := Lib.hid h1
  have H3 := Lib.hid h3
  have H2 := Lib.hid (fun w => implName_any na w h2)
  clear h1 h2 h3
  go_enter Try.func82, Try.ntmps82
  go_wp2_with (first | (go_at_call 83; refine (fewSpaces_any _ _ (by first | exact H1.out | exact H3.out)).mono ?_; rintro e w1 ⟨rfl, hb1⟩; have hc1 := hb1.bc; have hs1 : w.heap.size < w1.heap.size := Nat.lt_of_lt_of_le (by first | assumption | simp) hb1.size) | (go_at_call 84; refine (H2.out _).mono ?_; rintro e w2 ⟨rfl, hb2⟩; have hc2 := hb2.bc; have hs2 : w.heap.size < w2.heap.size := Nat.lt_of_lt_of_le (by first | assumption | simp) hb2.size))
  all_goals
    go_ret
    exact ⟨ret_bool (by clear H1 H2 H3; simp_all), (by repeat (first | exact Grows.refl _ | assumption | refine Grows.trans ?_ (by assumption) | refine Grows.alloc ?_ _ | refine Grows.drew ?_ | refine Grows.drewN ?_ _))⟩

set_option maxHeartbeats 2000000 in
theorem valid_3 (le na se va ta : ByteArray) (w : World) (h1 : le.size ≤ maxLen) (h2 : na.size ≤ 1048576) (h3 : se.size ≤ maxLen) (h4 : va.size ≤ maxLen) (h5 : ta.size ≤ maxLen) :
    Calls Try.prog 106 #[.agg #[.string le, .string na, .string se, .string va, .string ta]] w fun e w' => e = .returned (.bool (vspaces le && (vname na && (vsep se && (vvalue va && (vspaces ta && (!nul va || nul ta))))))) ∧ Grows w w' := by
  have H1 := Lib.hid h1
  have H5 := Lib.hid h5
  have H2 := Lib.hid (fun w => implName_any na w h2)
  have H3 := Lib.hid (fun w => validSep_any se w h3)
  have H4 := Lib.hid (fun w => implValue_any va w h4)
  clear h1 h2 h3 h4 h5
  go_enter Try.func106, Try.ntmps106
  go_wp2_with (first | (go_at_call 83; refine (fewSpaces_any _ _ (by first | exact H1.out | exact H5.out)).mono ?_; rintro e w1 ⟨rfl, hb1⟩; have hc1 := hb1.bc; have hs1 : w.heap.size < w1.heap.size := Nat.lt_of_lt_of_le (by first | assumption | simp) hb1.size) | (go_at_call 84; refine (H2.out _).mono ?_; rintro e w2 ⟨rfl, hb2⟩; have hc2 := hb2.bc; have hs2 : w.heap.size < w2.heap.size := Nat.lt_of_lt_of_le (by first | assumption | simp) hb2.size) | (go_at_call 107; refine (H3.out _).mono ?_; rintro e w3 ⟨rfl, hb3⟩; have hc3 := hb3.bc; have hs3 : w.heap.size < w3.heap.size := Nat.lt_of_lt_of_le (by first | assumption | simp) hb3.size) | (go_at_call 108; refine (H4.out _).mono ?_; rintro e w4 ⟨rfl, hb4⟩; have hc4 := hb4.bc; have hs4 : w.heap.size < w4.heap.size := Nat.lt_of_lt_of_le (by first | assumption | simp) hb4.size))
  all_goals
    go_ret
    exact ⟨ret_bool (by clear H1 H2 H3 H4 H5; simp_all [nul]), (by repeat (first | exact Grows.refl _ | assumption | refine Grows.trans ?_ (by assumption) | refine Grows.alloc ?_ _ | refine Grows.drew ?_ | refine Grows.drewN ?_ _))⟩
end Go.Proofs.Ytdedidcjbocicaa
