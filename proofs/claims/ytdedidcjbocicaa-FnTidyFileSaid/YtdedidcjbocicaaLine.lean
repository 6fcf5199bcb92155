/-
  What the specification's test of a line returns: the plain test 'vline' of its six parts. Conditions: parts no longer than an int says.
-/
import Derived.Test.YtdedidcjbocicaaStr
namespace Go.Proofs.Ytdedidcjbocicaa
open Go.RowKit

/-- a line: its kind, what it begins with, its name, what separates, its value, what it ends with -/
structure Ln where
  k : Int
  le : ByteArray
  na : ByteArray
  se : ByteArray
  va : ByteArray
  ta : ByteArray
def Ln.cells (l : Ln) : List Value := [.int .i64 l.k, .string l.le, .string l.na, .string l.se, .string l.va, .string l.ta]
def Ln.agg (l : Ln) : Value := .agg #[.int .i64 l.k, .string l.le, .string l.na, .string l.se, .string l.va, .string l.ta]
/-- the parts' lengths fit an int -/
def Ln.fits (l : Ln) : Prop := l.le.size ≤ maxLen ∧ l.na.size ≤ 1048576 ∧ l.se.size ≤ maxLen ∧ l.va.size ≤ maxLen ∧ l.ta.size ≤ maxLen

def nul (s : ByteArray) : Bool := s.toList.isEmpty
/-- the value of a note -/
def vnote (s : ByteArray) : Bool := allB pr s && ((decide (1 ≤ s.size) && decide (s.size ≤ 40)) && decide (s.data.toList.head? = some 35))
def vline (l : Ln) : Bool :=
  vspaces l.le && (
    if l.k = 0 then nul l.na && (nul l.se && (nul l.va && nul l.ta))
    else if l.k = 1 then nul l.na && (nul l.se && (nul l.ta && vnote l.va))
    else if l.k = 2 then vname l.na && (nul l.se && (nul l.va && vspaces l.ta))
    else if l.k = 3 then vname l.na && (vsep l.se && (vvalue l.va && (vspaces l.ta && (!nul l.va || nul l.ta))))
    else false)

/-- the block that a line's box is -/
def Ln.box (l : Ln) : Obj := .cells #[.int .i64 l.k, .string l.le, .string l.na, .string l.se, .string l.va, .string l.ta] 39

set_option maxHeartbeats 1000000 in
theorem specLine_0 (le na se va ta : ByteArray) (w : World) (h1 : le.size ≤ maxLen) :
    Calls Try.prog 49 #[Ln.agg ⟨0, le, na, se, va, ta⟩] w fun e w' => e = .returned (.bool (vline ⟨0, le, na, se, va, ta⟩)) ∧ Grows w w' := by
  have H1 := Lib.hid (fun w => specSpaces_any le w h1)
  have HV : Hid (vline ⟨0, le, na, se, va, ta⟩ = (vspaces le && (nul na && (nul se && (nul va && nul ta))))) := by
    unfold Hid vline; rfl
  unfold Ln.agg
  go_enter Try.func49, Try.ntmps49
  go_wp2_with (go_at_call 59; refine (H1.out _).mono ?_; rintro e w' ⟨rfl, rfl⟩)
  all_goals
    go_ret
    exact ⟨ret_bool (by rw [HV.out]; clear H1 HV; simp_all [nul]), (Grows.refl _).alloc _⟩

theorem vnote_head (s : ByteArray) (h : 0 < s.size) : decide (s.data.toList.head? = some 35) = (((s[0]'h).toNat : Int) == 35) := by
  rw [head_eq s h, Bool.eq_iff_iff, decide_eq_true_iff, beq_iff_eq, Option.some.injEq]
  exact ⟨fun e => by rw [e]; rfl, fun e => UInt8.toNat_inj.1 (by show _ = 35; omega)⟩

set_option maxHeartbeats 1000000 in
theorem specLine_1 (le na se va ta : ByteArray) (w : World) (h1 : le.size ≤ maxLen) (h2 : va.size ≤ maxLen) :
    Calls Try.prog 49 #[Ln.agg ⟨1, le, na, se, va, ta⟩] w fun e w' => e = .returned (.bool (vline ⟨1, le, na, se, va, ta⟩)) ∧ Grows w w' := by
  have H1 := Lib.hid (fun w => specSpaces_any le w h1)
  have H2 := Lib.hid (fun w => specPrintable_any va w h2)
  have HV : Hid (vline ⟨1, le, na, se, va, ta⟩ = (vspaces le && (nul na && (nul se && (nul ta && vnote va))))) := by
    unfold Hid vline; rfl
  unfold maxLen at h2
  unfold Ln.agg
  by_cases h0 : 0 < va.size
  · by_cases h4 : va.size ≤ 40
    · have HN : Hid (vnote va = (allB pr va && (((va[0]'h0).toNat : Int) == 35))) := by
        have h5 : decide (1 ≤ va.size) = true := by simp; omega
        unfold vnote Hid; rw [vnote_head va h0, h5]; simp [h4]
      go_enter Try.func49, Try.ntmps49
      go_wp2_with (first | (go_at_call 59; refine (H1.out _).mono ?_; rintro e w' ⟨rfl, rfl⟩) | (go_at_call 60; refine (H2.out _).mono ?_; rintro e w' ⟨rfl, rfl⟩) | (go_at_call 61; go_in))
      all_goals
        go_ret
        exact ⟨ret_bool (by rw [HV.out]; clear H1 H2 HV; try rw [HN.out]; clear HN; simp_all [nul]), (Grows.refl _).alloc _⟩
    · have HN : Hid (vnote va = false) := by unfold vnote Hid; simp [h4]
      go_enter Try.func49, Try.ntmps49
      go_wp2_with (first | (go_at_call 59; refine (H1.out _).mono ?_; rintro e w' ⟨rfl, rfl⟩) | (go_at_call 60; refine (H2.out _).mono ?_; rintro e w' ⟨rfl, rfl⟩) | (go_at_call 61; go_in))
      all_goals
        go_ret
        exact ⟨ret_bool (by rw [HV.out, HN.out]; clear H1 H2 HV HN; simp_all [nul]), (Grows.refl _).alloc _⟩
  · have HN : Hid (vnote va = false) := by unfold vnote Hid; simp; intro _ h; omega
    go_enter Try.func49, Try.ntmps49
    go_wp2_with (first | (go_at_call 59; refine (H1.out _).mono ?_; rintro e w' ⟨rfl, rfl⟩) | (go_at_call 60; refine (H2.out _).mono ?_; rintro e w' ⟨rfl, rfl⟩) | (go_at_call 61; go_in))
    all_goals
      go_ret
      exact ⟨ret_bool (by rw [HV.out, HN.out]; clear H1 H2 HV HN; simp_all [nul]), (Grows.refl _).alloc _⟩

set_option maxHeartbeats 1000000 in
theorem specLine_2 (le na se va ta : ByteArray) (w : World) (h1 : le.size ≤ maxLen) (h2 : na.size ≤ 1048576) (h3 : ta.size ≤ maxLen) :
    Calls Try.prog 49 #[Ln.agg ⟨2, le, na, se, va, ta⟩] w fun e w' => e = .returned (.bool (vline ⟨2, le, na, se, va, ta⟩)) ∧ Grows w w' := by
  have H1 := Lib.hid (fun w => specSpaces_any le w h1)
  have H2 := Lib.hid (fun w => specName_any na w h2)
  have H3 := Lib.hid (fun w => specSpaces_any ta w h3)
  have HV : Hid (vline ⟨2, le, na, se, va, ta⟩ = (vspaces le && (vname na && (nul se && (nul va && vspaces ta))))) := by
    unfold Hid vline; rfl
  clear h1 h2 h3
  unfold Ln.agg
  by_cases hle : vspaces le = true
  · rw [hle] at H1
    rw [hle] at HV
    clear hle
    go_enter Try.func49, Try.ntmps49
    go_wp2_with fail
    refine (H1.out _).mono ?_
    rintro e w' ⟨rfl, rfl⟩
    go_wp2_with (first | (go_at_call 62; refine (H2.out _).mono ?_; rintro e w' ⟨rfl, rfl⟩) | (go_at_call 59; refine (H3.out _).mono ?_; rintro e w' ⟨rfl, rfl⟩))
    all_goals
      go_ret
      exact ⟨ret_bool (by rw [HV.out]; clear H1 H2 H3 HV; simp_all [nul]), (Grows.refl _).alloc _⟩
  · have hle' : vspaces le = false := by simpa using hle
    rw [hle'] at H1
    rw [hle'] at HV
    clear hle hle'
    go_enter Try.func49, Try.ntmps49
    go_wp2_with (go_at_call 59; refine (H1.out _).mono ?_; rintro e w' ⟨rfl, rfl⟩)
    go_ret
    exact ⟨ret_bool (by rw [HV.out]; rfl), (Grows.refl _).alloc _⟩

set_option maxHeartbeats 1000000 in
theorem specLine_x (k : Int) (le na se va ta : ByteArray) (w : World) (h1 : le.size ≤ maxLen) (hk : k < 0 ∨ 3 < k) :
    Calls Try.prog 49 #[Ln.agg ⟨k, le, na, se, va, ta⟩] w fun e w' => e = .returned (.bool (vline ⟨k, le, na, se, va, ta⟩)) ∧ Grows w w' := by
  have H1 := Lib.hid (fun w => specSpaces_any le w h1)
  have HV : Hid (vline ⟨k, le, na, se, va, ta⟩ = false) := by
    unfold Hid vline
    rw [if_neg (by show ¬ k = 0; omega), if_neg (by show ¬ k = 1; omega), if_neg (by show ¬ k = 2; omega), if_neg (by show ¬ k = 3; omega), Bool.and_false]
  have k0 : (k == 0) = false := by rw [beq_eq_false_iff_ne]; omega
  have k1 : (k == 1) = false := by rw [beq_eq_false_iff_ne]; omega
  have k2 : (k == 2) = false := by rw [beq_eq_false_iff_ne]; omega
  have k3 : (k == 3) = false := by rw [beq_eq_false_iff_ne]; omega
  clear h1 hk
  unfold Ln.agg
  go_enter Try.func49, Try.ntmps49
  go_wp2_with (go_at_call 59; refine (H1.out _).mono ?_; rintro e w' ⟨rfl, rfl⟩)
  all_goals
    go_ret
    exact ⟨ret_bool HV.out.symm, (Grows.refl _).alloc _⟩

end Go.Proofs.Ytdedidcjbocicaa
