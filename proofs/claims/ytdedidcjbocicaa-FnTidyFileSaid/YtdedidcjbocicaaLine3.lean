/-
  What the specification's test of a line returns at a pair: the plain test 'vline' of its six parts. Conditions: parts no longer than an int says.
-/
import Derived.Test.YtdedidcjbocicaaLine
namespace Go.Proofs.Ytdedidcjbocicaa
open Go.RowKit

set_option maxHeartbeats 2000000 in
theorem specLine_3 (le na se va ta : ByteArray) (w : World) (h1 : le.size ≤ maxLen) (h2 : na.size ≤ 1048576) (h3 : se.size ≤ maxLen) (h4 : va.size ≤ maxLen) (h5 : ta.size ≤ maxLen) :
    Calls Try.prog 49 #[Ln.agg ⟨3, le, na, se, va, ta⟩] w fun e w' => e = .returned (.bool (vline ⟨3, le, na, se, va, ta⟩)) ∧ Grows w w' := by
  have H1 := Lib.hid h1
  have H2 := Lib.hid (fun w => specName_any na w h2)
  have H4 := Lib.hid (fun w => specValue_any va w h4)
  have H5 := Lib.hid h5
  have HV : Hid (vline ⟨3, le, na, se, va, ta⟩ = (vspaces le && (vname na && (vsep se && (vvalue va && (vspaces ta && (!nul va || nul ta))))))) := by
    unfold Hid vline; rfl
  have hx := fun w => specIndexOf_any se w h3
  unfold Ln.agg
  by_cases hf : eqAt se.data.toList < se.size
  · rw [eqIx_yes hf] at hx
    have hsep := vsep_yes hf rfl
    have hA := Nat.le_trans (extract_le se 0 (eqAt se.data.toList)) h3
    have hB := Nat.le_trans (extract_le se (eqAt se.data.toList + 1) se.size) h3
    obtain ⟨p, hp⟩ : ∃ p, eqAt se.data.toList = p := ⟨_, rfl⟩
    rw [hp] at hx hf hsep hA hB
    clear hp
    have HA := Lib.hid hA
    have HB := Lib.hid hB
    have HX := Lib.hid hx
    have HS := Lib.hid hsep
    unfold maxLen at h3
    clear h1 h2 h4 h5 hA hB hx hsep
    go_enter Try.func49, Try.ntmps49
    go_wp2_with (first | (go_at_call 59; refine (specSpaces_any _ _ (by first | exact H1.out | exact HA.out | exact HB.out | exact H5.out)).mono ?_; rintro e w' ⟨rfl, rfl⟩) | (go_at_call 63; refine (HX.out _).mono ?_; rintro e w' ⟨rfl, rfl⟩) | (go_at_call 62; refine (H2.out _).mono ?_; rintro e w' ⟨rfl, rfl⟩) | (go_at_call 64; refine (H4.out _).mono ?_; rintro e w' ⟨rfl, rfl⟩))
    all_goals
      go_ret
      exact ⟨ret_bool (by rw [HV.out, HS.out]; clear H1 H2 H4 H5 HV HS HA HB HX; simp_all [nul]), (Grows.refl _).alloc _⟩
  · rw [eqIx_no hf] at hx
    have HS : Hid (vsep se = false) := vsep_no hf
    have HX := Lib.hid hx
    clear h1 h2 h4 h5 hx hf
    go_enter Try.func49, Try.ntmps49
    go_wp2_with (first | (go_at_call 59; refine (specSpaces_any _ _ (by first | exact H1.out | exact H5.out)).mono ?_; rintro e w' ⟨rfl, rfl⟩) | (go_at_call 63; refine (HX.out _).mono ?_; rintro e w' ⟨rfl, rfl⟩) | (go_at_call 62; refine (H2.out _).mono ?_; rintro e w' ⟨rfl, rfl⟩) | (go_at_call 64; refine (H4.out _).mono ?_; rintro e w' ⟨rfl, rfl⟩))
    all_goals
      go_ret
      exact ⟨ret_bool (by rw [HV.out, HS.out]; clear H1 H2 H4 H5 HV HS HX; simp_all [nul]), (Grows.refl _).alloc _⟩

theorem specLine_any (l : Ln) (w : World) (hl : l.fits) :
    Calls Try.prog 49 #[l.agg] w fun e w' => e = .returned (.bool (vline l)) ∧ Grows w w' := by
  obtain ⟨k, le, na, se, va, ta⟩ := l
  obtain ⟨h1, h2, h3, h4, h5⟩ := hl
  by_cases hk : k < 0 ∨ 3 < k
  · exact specLine_x k le na se va ta w h1 hk
  · rcases (show k = 0 ∨ k = 1 ∨ k = 2 ∨ k = 3 from by omega) with rfl | rfl | rfl | rfl
    · exact specLine_0 le na se va ta w h1
    · exact specLine_1 le na se va ta w h1 h4
    · exact specLine_2 le na se va ta w h1 h2 h5
    · exact specLine_3 le na se va ta w h1 h2 h3 h4 h5
end Go.Proofs.Ytdedidcjbocicaa
