/-
  The two tests of names, spec.validName (and spec.ValidName) and impl.ValidName, both return one plain test of the bytes, and write nothing that was there.
  What the tests of texts return: spaces, printable, indexOf, validValue of the specification; fewSpaces, printable, validSep, ValidValue of the program. Conditions: texts shorter than 4294967281 bytes.
  What the specification's test of a line returns: the plain test 'vline' of its six parts. Conditions: parts no longer than an int says.
  What the specification's test of a line returns at a pair: the plain test 'vline' of its six parts. Conditions: parts no longer than an int says.
  What the program's forms of a line are: formOf, and the method line of each form, with the very world that they leave. No condition.
  What the method valid of each form of a line returns; what the program's test of a line returns: the plain test 'vline'. Conditions: parts no longer than an int says.
  The comparison of two lines. No condition.
-/
import Derived.Test.YtclopcbpelhiaaaDoorProg
import Derived.Test.YtclopcbpelhiaaaDoorPure
import Derived.WalkKit
import Derived.WalkSpells
import Derived.WalkLawsBesides
import Derived.Deep.QuietTactic
import Derived.BigQuiet
import Derived.Lib.Hide
import Derived.Lib.Strings
import Derived.Test.YtclopcbpelhiaaaDoorShelf
import Derived.Deep.RegionWith
namespace Go.Proofs.YtclopcbpelhiaaaDoor
open Go.RowKit

set_option maxHeartbeats 400000 in
theorem specName_any (s : ByteArray) (w : World) (hs : s.size ≤ 1048576) :
    Calls Tryd.prog 81 #[.string s] w fun e w' => e = .returned (.bool (vname s)) ∧ w = w' := by
  go_enter Tryd.func81, Tryd.ntmps81
  go_wp2
  go_loop [3] (fun i => ∃ k : Nat, k ≤ s.size ∧ i = .int .i64 k ∧ Upto letter s k) (fun i => s.size - (intOf i).toNat)
  case atStart => exact ⟨0, Nat.zero_le _, rfl, Upto.zero _ s⟩
  case round =>
    obtain ⟨k, hk, rfl, hL⟩ := hrel
    by_cases hlt : k < s.size
    · go_wp2
      · go_ret
        exact ⟨ret_bool (by rw [vname, allB_not hlt (letter_no (by omega))]; rfl), rfl⟩
      · go_round
        case rel => exact ⟨k + 1, by omega, by go_num, hL.succ hlt (letter_yes (by omega) (by omega))⟩
        case measure => simp [intOf]; omega
      · go_ret
        exact ⟨ret_bool (by rw [vname, allB_not hlt (letter_no (by omega))]; rfl), rfl⟩
    · obtain rfl : k = s.size := by omega
      have HV : Hid (vname s = (decide (1 ≤ s.size) && decide (s.size ≤ 8))) := by unfold vname; rw [Upto.all hL]; rfl
      go_wp2
      all_goals
        go_ret
        exact ⟨ret_bool (by rw [HV.out, Bool.eq_iff_iff]; simp; try omega), rfl⟩

set_option maxHeartbeats 400000 in
theorem implName_out (s : ByteArray) (w : World) (h8 : s.size = 0 ∨ 8 < s.size) (hs : s.size ≤ 1048576) :
    Calls Tryd.prog 91 #[.string s] w fun e w' => e = .returned (.bool (vname s)) ∧ Grows w w' := by
  have HV : Hid (vname s = false) := vname_size h8
  rcases h8 with h8 | h8
  · have hl := toList_nil h8
    clear h8
    go_enter Tryd.func91, Tryd.ntmps91
    go_wp2
    go_ret
    exact ⟨ret_bool HV.out.symm, Below.refl _ _⟩
  · have hl := toList_ne (s := s) (by omega)
    have hl2 := isEmpty_ne (s := s) (by omega)
    go_enter Tryd.func91, Tryd.ntmps91
    go_wp2
    go_ret
    exact ⟨ret_bool HV.out.symm, Below.refl _ _⟩

set_option maxHeartbeats 400000 in
theorem implName_in (s : ByteArray) (w : World) (h1 : 0 < s.size) (h8 : s.size ≤ 8) :
    Calls Tryd.prog 91 #[.string s] w fun e w' => e = .returned (.bool (vname s)) ∧ Grows w w' := by
  have HV : Hid (vname s = allB letter s) := vname_in h1 h8
  have hl := toList_ne h1
  have hl2 := isEmpty_ne h1
  go_enter Tryd.func91, Tryd.ntmps91
  go_wp2
  go_loopw [4] (fun _ w' => ∃ pos : Nat, w' = w.iter s pos ∧ pos ≤ s.size ∧ Upto letter s pos) (fun _ w' => s.size - w'.iterPos w.heap.size)
  case atStart => exact ⟨0, rfl, by omega, Upto.zero _ s⟩
  case round =>
    obtain ⟨pos, rfl, hpos, hL⟩ := hrel
    by_cases hp : pos < s.size
    · have hnx : ∀ ty, (Instr.next (.pointer (some ⟨w.heap.size, 0, none⟩)) true ty).run Tryd.prog (w.iter s pos) = _ := fun ty => run_next_any w s pos ty hp
      go_wp2
      · go_ret
        exact ⟨ret_bool (by rw [HV.out, allB_not hp (rune_no_letter hp (by omega))]), below_iter _ _ _⟩
      · have hl := rune_letter hp (by omega) (by omega)
        go_roundw
        case rel => exact ⟨pos + 1, by rw [hl.2], by omega, hL.succ hp hl.1⟩
        case measure => rw [World.iterPos_iter, World.iterPos_iter, hl.2]; omega
      · go_ret
        exact ⟨ret_bool (by rw [HV.out, allB_not hp (rune_no_letter hp (by omega))]), below_iter _ _ _⟩
    · have hnx : ∀ ty, (Instr.next (.pointer (some ⟨w.heap.size, 0, none⟩)) true ty).run Tryd.prog (w.iter s pos) = _ := fun ty => run_next_end w s pos ty hp
      obtain rfl : pos = s.size := by omega
      have HW : Hid (vname s = true) := by unfold Hid; rw [HV.out, Upto.all hL]
      go_wp2
      go_ret
      exact ⟨ret_bool HW.out.symm, below_iter _ _ _⟩

theorem implName_any (s : ByteArray) (w : World) (hs : s.size ≤ 1048576) :
    Calls Tryd.prog 91 #[.string s] w fun e w' => e = .returned (.bool (vname s)) ∧ Grows w w' := by
  by_cases h0 : s.size = 0 ∨ 8 < s.size
  · exact implName_out s w h0 hs
  · exact implName_in s w (by omega) (by omega)

end Go.Proofs.YtclopcbpelhiaaaDoor
namespace Go.Proofs.YtclopcbpelhiaaaDoor
open Go.RowKit

set_option maxHeartbeats 400000 in
theorem specSpaces_any (s : ByteArray) (w : World) (hs : s.size ≤ maxLen) :
    Calls Tryd.prog 79 #[.string s] w fun e w' => e = .returned (.bool (vspaces s)) ∧ w = w' := by
  unfold maxLen at hs
  go_enter Tryd.func79, Tryd.ntmps79
  go_wp2
  go_loop [3] (fun i => ∃ k : Nat, k ≤ s.size ∧ i = .int .i64 k ∧ Upto sp s k) (fun i => s.size - (intOf i).toNat)
  case atStart => exact ⟨0, Nat.zero_le _, rfl, Upto.zero _ s⟩
  case round =>
    obtain ⟨k, hk, rfl, hL⟩ := hrel
    by_cases hlt : k < s.size
    · by_cases h32 : (s[k]).toNat = 32
      · have hB : (((s[k]).toNat : Int) == 32) = true := by simp [h32]
        have hB' : (((s[k]).toNat : Int) != 32) = false := by simp [h32]
        have H := Lib.hid h32
        clear h32
        go_wp2
        go_round
        case rel => exact ⟨k + 1, by omega, by go_num, hL.succ hlt (sp_yes H.out)⟩
        case measure => simp [intOf]; omega
      · have hB' : (((s[k]).toNat : Int) != 32) = true := by simp; omega
        have H := Lib.hid h32
        clear h32
        go_wp2
        go_ret
        exact ⟨ret_bool (by rw [vspaces, allB_not hlt (sp_no H.out)]; rfl), rfl⟩
    · obtain rfl : k = s.size := by omega
      have HV : Hid (vspaces s = decide (s.size ≤ 4)) := by unfold vspaces; rw [Upto.all hL]; rfl
      go_wp2
      go_ret
      exact ⟨ret_bool (by rw [HV.out, Bool.eq_iff_iff]; simp; omega), rfl⟩

set_option maxHeartbeats 400000 in
theorem specPrintable_any (s : ByteArray) (w : World) (hs : s.size ≤ maxLen) :
    Calls Tryd.prog 77 #[.string s] w fun e w' => e = .returned (.bool (allB pr s)) ∧ w = w' := by
  unfold maxLen at hs
  go_enter Tryd.func77, Tryd.ntmps77
  go_wp2
  go_loop [3] (fun i => ∃ k : Nat, k ≤ s.size ∧ i = .int .i64 k ∧ Upto pr s k) (fun i => s.size - (intOf i).toNat)
  case atStart => exact ⟨0, Nat.zero_le _, rfl, Upto.zero _ s⟩
  case round =>
    obtain ⟨k, hk, rfl, hL⟩ := hrel
    by_cases hlt : k < s.size
    · go_wp2
      · go_ret
        exact ⟨ret_bool (by rw [allB_not hlt (pr_no (by omega))]), rfl⟩
      · go_round
        case rel => exact ⟨k + 1, by omega, by go_num, hL.succ hlt (pr_yes (by omega) (by omega))⟩
        case measure => simp [intOf]; omega
      · go_ret
        exact ⟨ret_bool (by rw [allB_not hlt (pr_no (by omega))]), rfl⟩
    · obtain rfl : k = s.size := by omega
      have HV : Hid (allB pr s = true) := Upto.all hL
      go_wp2
      go_ret
      exact ⟨ret_bool HV.out.symm, rfl⟩

set_option maxHeartbeats 400000 in
theorem implPrintable_any (s : ByteArray) (w : World) :
    Calls Tryd.prog 48 #[.string s] w fun e w' => e = .returned (.bool (allB pr s)) ∧ Grows w w' := by
  go_enter Tryd.func48, Tryd.ntmps48
  go_wp2
  go_loopw [4] (fun _ w' => ∃ pos : Nat, w' = w.iter s pos ∧ pos ≤ s.size ∧ Upto pr s pos) (fun _ w' => s.size - w'.iterPos w.heap.size)
  case atStart => exact ⟨0, rfl, by omega, Upto.zero _ s⟩
  case round =>
    obtain ⟨pos, rfl, hpos, hL⟩ := hrel
    by_cases hp : pos < s.size
    · have hnx : ∀ ty, (Instr.next (.pointer (some ⟨w.heap.size, 0, none⟩)) true ty).run Tryd.prog (w.iter s pos) = _ := fun ty => run_next_any w s pos ty hp
      go_wp2
      · go_ret
        exact ⟨ret_bool (by rw [allB_not hp (rune_no_pr hp (by omega))]), below_iter _ _ _⟩
      · have hl := rune_pr hp (by omega) (by omega)
        go_roundw
        case rel => exact ⟨pos + 1, by rw [hl.2], by omega, hL.succ hp hl.1⟩
        case measure => rw [World.iterPos_iter, World.iterPos_iter, hl.2]; omega
      · go_ret
        exact ⟨ret_bool (by rw [allB_not hp (rune_no_pr hp (by omega))]), below_iter _ _ _⟩
    · have hnx : ∀ ty, (Instr.next (.pointer (some ⟨w.heap.size, 0, none⟩)) true ty).run Tryd.prog (w.iter s pos) = _ := fun ty => run_next_end w s pos ty hp
      obtain rfl : pos = s.size := by omega
      have HW : Hid (allB pr s = true) := Upto.all hL
      go_wp2
      go_ret
      exact ⟨ret_bool HW.out.symm, below_iter _ _ _⟩

theorem fewSpaces_pure (s : ByteArray) : ((⟨(Lib.trimB s.data.toList 32).toArray⟩ : ByteArray).toList = [] ↔ allB sp s = true) := by
  rw [Lib.toList_data]
  show (Lib.trimB s.data.toList 32).toArray.toList = [] ↔ _
  rw [List.toList_toArray]
  exact trimB_nil _

/-- a draw more or none -/
theorem below_or {w w' : World} (h : w' = w ∨ w' = w.drew) : Grows w w' := by
  rcases h with rfl | rfl
  · exact Below.refl _ _
  · exact (Below.refl _ _).drew

set_option maxHeartbeats 400000 in
theorem fewSpaces_any (s : ByteArray) (w : World) (hs : s.size ≤ maxLen) :
    Calls Tryd.prog 117 #[.string s] w fun e w' => e = .returned (.bool (vspaces s)) ∧ Grows w w' := by
  unfold maxLen at hs
  have H1 := Lib.hid (fewSpaces_pure s)
  obtain ⟨t, ht⟩ : ∃ t : ByteArray, t = ⟨(Lib.trimB s.data.toList 32).toArray⟩ := ⟨_, rfl⟩
  rw [← ht] at H1
  have hc := Tryd.strings_Trim_one s 32 (by decide) w hs
  rw [← ht] at hc
  have HC := Lib.hid hc
  clear ht hc
  by_cases h4 : s.size ≤ 4
  · have HV : Hid (vspaces s = allB sp s) := by unfold vspaces Hid; simp [h4]
    go_enter Tryd.func117, Tryd.ntmps117
    go_wp2_with (go_at_call 49; refine (HC.out).mono ?_; rintro e w' ⟨rfl, hb⟩)
    go_ret
    exact ⟨ret_bool (by rw [HV.out, Bool.eq_iff_iff, ← H1.out]; simp), below_or (by assumption)⟩
  · have HV : Hid (vspaces s = false) := by unfold vspaces Hid; simp [h4]
    go_enter Tryd.func117, Tryd.ntmps117
    go_wp2
    go_ret
    exact ⟨ret_bool HV.out.symm, Below.refl _ _⟩

/-- the last byte of a text -/
theorem getLast_eq (s : ByteArray) (h : 0 < s.size) : s.data.toList.getLast? = some (s[s.size - 1]'(by omega)) := by
  rw [List.getLast?_eq_getElem?, ← Lib.size_eq]
  exact Lib.data_getElem? s _ (by omega)
theorem head_eq (s : ByteArray) (h : 0 < s.size) : s.data.toList.head? = some (s[0]'h) := by
  rw [List.head?_eq_getElem?]
  exact Lib.data_getElem? s _ (by omega)
theorem edge_eq (s : ByteArray) (h : 0 < s.size) : edge s.data.toList = (!sp (s[0]'h) && !sp (s[s.size - 1]'(by omega))) := by
  have h32 : ∀ b : UInt8, decide (some b ≠ some (32 : UInt8)) = !sp b := by
    intro b
    rw [← eq32, Bool.eq_iff_iff, decide_eq_true_iff]
    simp
  unfold edge
  rw [head_eq s h, getLast_eq s h, h32, h32]
theorem edge_nil (s : ByteArray) (h : s.size = 0) : edge s.data.toList = true := by
  have : s.data.toList = [] := List.eq_nil_of_length_eq_zero (by rw [← Lib.size_eq]; exact h)
  rw [this]; rfl

theorem ne32 (b : UInt8) : ((b.toNat : Int) != 32) = !sp b := by
  unfold sp
  rw [Bool.eq_iff_iff]
  simp
  omega

set_option maxHeartbeats 400000 in
theorem specValue_any (s : ByteArray) (w : World) (hs : s.size ≤ maxLen) :
    Calls Tryd.prog 50 #[.string s] w fun e w' => e = .returned (.bool (vvalue s)) ∧ w = w' := by
  have HP := Lib.hid (specPrintable_any s w hs)
  unfold maxLen at hs
  by_cases hp : allB pr s = true
  · have H0 := Lib.hid hp
    rw [hp] at HP
    clear hp
    by_cases h4 : s.size ≤ 40
    · by_cases h0 : s.size = 0
      · have hl := toList_nil h0
        have HV : Hid (vvalue s = true) := by unfold vvalue Hid; rw [H0.out, edge_nil s h0]; simp [h4]
        clear h0
        go_enter Tryd.func50, Tryd.ntmps50
        go_wp2_with (go_at_call 77; refine (HP.out).mono ?_; rintro e w' ⟨rfl, rfl⟩)
        go_ret
        exact ⟨ret_bool HV.out.symm, rfl⟩
      · have h1 : 0 < s.size := by omega
        have hl := toList_ne h1
        have hl2 := isEmpty_ne h1
        have HV : Hid (vvalue s = (!sp (s[0]'h1) && !sp (s[s.size - 1]'(by omega)))) := by unfold vvalue Hid; rw [H0.out, edge_eq s h1]; simp [h4]
        clear h0
        go_enter Tryd.func50, Tryd.ntmps50
        go_wp2_with (go_at_call 77; refine (HP.out).mono ?_; rintro e w' ⟨rfl, rfl⟩)
        · go_ret
          exact ⟨ret_bool (by rw [HV.out, sp_yes (by omega)]; rfl), rfl⟩
        · go_ret
          exact ⟨ret_bool (by rw [HV.out, ← ne32, ← ne32]), rfl⟩
    · have HV : Hid (vvalue s = false) := by unfold vvalue Hid; simp [h4]
      go_enter Tryd.func50, Tryd.ntmps50
      go_wp2_with (go_at_call 77; refine (HP.out).mono ?_; rintro e w' ⟨rfl, rfl⟩)
      go_ret
      exact ⟨ret_bool HV.out.symm, rfl⟩
  · have hp' : allB pr s = false := by simpa using hp
    have HV : Hid (vvalue s = false) := by unfold vvalue Hid; rw [hp']; rfl
    rw [hp'] at HP
    clear hp hp'
    go_enter Tryd.func50, Tryd.ntmps50
    go_wp2_with (go_at_call 77; refine (HP.out).mono ?_; rintro e w' ⟨rfl, rfl⟩)
    go_ret
    exact ⟨ret_bool HV.out.symm, rfl⟩

theorem trim_self (s : ByteArray) : ((⟨(Lib.trimB s.data.toList 32).toArray⟩ : ByteArray).toList == s.toList) = edge s.data.toList := by
  rw [Lib.toList_data, Lib.toList_data]
  show ((Lib.trimB s.data.toList 32).toArray.toList == _) = _
  rw [List.toList_toArray, Bool.eq_iff_iff, beq_iff_eq]
  exact trimB_self _

set_option maxHeartbeats 400000 in
theorem implValue_any (s : ByteArray) (w : World) (hs : s.size ≤ maxLen) :
    Calls Tryd.prog 21 #[.string s] w fun e w' => e = .returned (.bool (vvalue s)) ∧ Grows w w' := by
  have HP := Lib.hid (fun w => implPrintable_any s w)
  unfold maxLen at hs
  have H1 := Lib.hid (trim_self s)
  obtain ⟨t, ht⟩ : ∃ t : ByteArray, t = ⟨(Lib.trimB s.data.toList 32).toArray⟩ := ⟨_, rfl⟩
  rw [← ht] at H1
  have hc := fun w => Tryd.strings_Trim_one s 32 (by decide) w hs
  rw [← ht] at hc
  have HC := Lib.hid hc
  clear ht hc
  by_cases h4 : s.size ≤ 40
  · by_cases hp : allB pr s = true
    · have HV : Hid (vvalue s = edge s.data.toList) := by unfold vvalue Hid; rw [hp]; simp [h4]
      rw [hp] at HP
      clear hp
      go_enter Tryd.func21, Tryd.ntmps21
      go_wp2_with (first | (go_at_call 48; refine (HP.out _).mono ?_; rintro e w1 ⟨rfl, hb⟩) | (go_at_call 49; refine (HC.out _).mono ?_; rintro e w2 ⟨rfl, hb2⟩))
      go_ret
      refine ⟨ret_bool (by rw [HV.out, ← H1.out]), ?_⟩
      exact hb.trans (below_or hb2)
    · have hp' : allB pr s = false := by simpa using hp
      have HV : Hid (vvalue s = false) := by unfold vvalue Hid; rw [hp']; rfl
      rw [hp'] at HP
      clear hp hp'
      go_enter Tryd.func21, Tryd.ntmps21
      go_wp2_with (first | (go_at_call 48; refine (HP.out _).mono ?_; rintro e w1 ⟨rfl, hb⟩) | (go_at_call 49; refine (HC.out _).mono ?_; rintro e w2 ⟨rfl, hb2⟩))
      go_ret
      exact ⟨ret_bool HV.out.symm, by assumption⟩
  · have HV : Hid (vvalue s = false) := by unfold vvalue Hid; simp [h4]
    go_enter Tryd.func21, Tryd.ntmps21
    go_wp2
    go_ret
    exact ⟨ret_bool HV.out.symm, Below.refl _ _⟩

/-- the place of the first byte '=', -1 if there is none -/
def eqIx (s : ByteArray) : Int := if eqAt s.data.toList < s.size then (eqAt s.data.toList : Int) else -1

set_option maxHeartbeats 400000 in
theorem specIndexOf_any (s : ByteArray) (w : World) (hs : s.size ≤ maxLen) :
    Calls Tryd.prog 82 #[.string s, .int .u8 61] w fun e w' => e = .returned (.int .i64 (eqIx s)) ∧ w = w' := by
  unfold maxLen at hs
  go_enter Tryd.func82, Tryd.ntmps82
  go_wp2
  go_loop [5] (fun i => ∃ k : Nat, k ≤ s.size ∧ i = .int .i64 k ∧ Upto (fun b => decide (b.toNat ≠ 61)) s k) (fun i => s.size - (intOf i).toNat)
  case atStart => exact ⟨0, Nat.zero_le _, rfl, Upto.zero _ s⟩
  case round =>
    obtain ⟨k, hk, rfl, hL⟩ := hrel
    have HL := Lib.hid hL
    clear hL
    by_cases hlt : k < s.size
    · by_cases h61 : (s[k]).toNat = 61
      · have hB : (((s[k]).toNat : Int) == 61) = true := by simp [h61]
        have HK : Hid (eqAt s.data.toList = k) := eqAt_of _ k (by rw [← Lib.size_eq]; exact hlt) (fun j hj hjk => of_decide_eq_true (HL.out j (by simpa using hj) hjk)) (fun _ => h61)
        clear h61
        go_wp2
        go_ret
        exact ⟨ret_int (by rw [eqIx, HK.out, if_pos hlt]), rfl⟩
      · have hB : (((s[k]).toNat : Int) == 61) = false := by simp; omega
        have H := Lib.hid h61
        clear h61
        go_wp2
        go_round
        case rel => exact ⟨k + 1, by omega, by go_num, HL.out.succ hlt (by simpa using H.out)⟩
        case measure => simp [intOf]; omega
    · obtain rfl : k = s.size := by omega
      have HK : Hid (eqAt s.data.toList = s.size) := (eqAt_none _ (fun j hj => of_decide_eq_true (HL.out j (by simpa using hj) (by simpa using hj)))).trans (Lib.size_eq s).symm
      go_wp2
      go_ret
      exact ⟨ret_int (by rw [eqIx, HK.out, if_neg (Nat.lt_irrefl _)]), rfl⟩

theorem eqIx_yes {s : ByteArray} (h : eqAt s.data.toList < s.size) : eqIx s = eqAt s.data.toList := by rw [eqIx, if_pos h]
theorem eqIx_no {s : ByteArray} (h : ¬ eqAt s.data.toList < s.size) : eqIx s = -1 := by rw [eqIx, if_neg h]
theorem eqIx_index (s : ByteArray) : Lib.indexByte s.data.toList 61 = eqIx s := by rw [eqAt_index, eqIx, Lib.size_eq]
theorem eqIx_one {s : ByteArray} (h : s.toList = [61]) : eqIx s = 0 := by
  rw [← eqIx_index, ← Lib.toList_data, h]; rfl

set_option maxHeartbeats 400000 in
theorem sIndex_any (s : ByteArray) (w : World) :
    Calls Tryd.prog 122 #[.string s, .string ⟨#[61]⟩] w fun e w' => e = .returned (.int .i64 (eqIx s)) ∧ w = w' := by
  have hc := fun w => Tryd.stringslite_IndexByte s 61 w
  have e61 : (61 : Int).toNat.toUInt8 = 61 := rfl
  rw [e61, eqIx_index] at hc
  have HC := Lib.hid hc
  clear hc e61
  by_cases h1 : s.toList = [61]
  · have HV : Hid (eqIx s = 0) := eqIx_one h1
    have hB : ([61] == s.toList) = true := by rw [h1]; rfl
    clear h1
    go_enter Tryd.func122, Tryd.ntmps122
    go_wp2
    go_ret
    exact ⟨ret_int HV.out.symm, rfl⟩
  · have hB : ([61] == s.toList) = false := by rw [beq_eq_false_iff_ne]; exact fun e => h1 e.symm
    clear h1
    go_enter Tryd.func122, Tryd.ntmps122
    go_wp2_with (go_at_call 99; refine (HC.out _).mono ?_; rintro e w' ⟨rfl, rfl⟩)
    go_ret
    exact ⟨rfl, rfl⟩

set_option maxHeartbeats 400000 in
theorem sCut_yes (s : ByteArray) (w : World) (hs : s.size ≤ maxLen) (k : Nat) (hk : k < s.size) (he : eqAt s.data.toList = k) :
    Calls Tryd.prog 121 #[.string s, .string ⟨#[61]⟩] w fun e w' => e = .returned (.tuple #[.string (s.extract 0 k), .string (s.extract (k + 1) s.size), .bool true]) ∧ ∃ n, w' = w.drewN n := by
  have hc := sIndex_any s w
  rw [eqIx_yes (by omega), he] at hc
  have HC := Lib.hid hc
  clear hc he
  unfold maxLen at hs
  go_enter Tryd.func121, Tryd.ntmps121
  go_wp2_with (go_at_call 122; refine (HC.out).mono ?_; rintro e w' ⟨rfl, rfl⟩)
  go_quiet (fail)
  go_wp2
  go_ret3
  exact ⟨rfl, _, rfl⟩
set_option maxHeartbeats 400000 in
theorem sCut_no (s : ByteArray) (w : World) (he : ¬ eqAt s.data.toList < s.size) :
    Calls Tryd.prog 121 #[.string s, .string ⟨#[61]⟩] w fun e w' => e = .returned (.tuple #[.string s, .string ⟨#[]⟩, .bool false]) ∧ ∃ n, w' = w.drewN n := by
  have hc := sIndex_any s w
  rw [eqIx_no he] at hc
  have HC := Lib.hid hc
  clear hc he
  go_enter Tryd.func121, Tryd.ntmps121
  go_wp2_with (go_at_call 122; refine (HC.out).mono ?_; rintro e w' ⟨rfl, rfl⟩)
  go_ret3
  exact ⟨rfl, 0, rfl⟩

set_option maxHeartbeats 400000 in
theorem cut_yes (s : ByteArray) (w : World) (hs : s.size ≤ maxLen) (k : Nat) (hk : k < s.size) (he : eqAt s.data.toList = k) :
    Calls Tryd.prog 120 #[.string s, .string ⟨#[61]⟩] w fun e w' => e = .returned (.tuple #[.string (s.extract 0 k), .string (s.extract (k + 1) s.size), .bool true]) ∧ ∃ n, w' = w.drewN n := by
  have HC := Lib.hid (sCut_yes s w hs k hk he)
  clear he
  go_enter Tryd.func120, Tryd.ntmps120
  go_wp2_with (go_at_call 121; refine (HC.out).mono ?_; rintro e w' ⟨rfl, n, rfl⟩)
  go_ret3
  exact ⟨rfl, n, rfl⟩
set_option maxHeartbeats 400000 in
theorem cut_no (s : ByteArray) (w : World) (he : ¬ eqAt s.data.toList < s.size) :
    Calls Tryd.prog 120 #[.string s, .string ⟨#[61]⟩] w fun e w' => e = .returned (.tuple #[.string s, .string ⟨#[]⟩, .bool false]) ∧ ∃ n, w' = w.drewN n := by
  have HC := Lib.hid (sCut_no s w he)
  clear he
  go_enter Tryd.func120, Tryd.ntmps120
  go_wp2_with (go_at_call 121; refine (HC.out).mono ?_; rintro e w' ⟨rfl, n, rfl⟩)
  go_ret3
  exact ⟨rfl, n, rfl⟩

theorem below_drewN {B : Nat} {a w : World} (h : Below B a w) (n : Nat) : Below B a (w.drewN n) := ⟨h.os, h.tape, h.output, h.size, h.block⟩
theorem vsep_yes {s : ByteArray} {k : Nat} (hk : k < s.size) (he : eqAt s.data.toList = k) : vsep s = (vspaces (s.extract 0 k) && vspaces (s.extract (k + 1) s.size)) := by
  unfold vsep
  rw [he, ← lspaces_eq, ← lspaces_eq, Lib.extract_data, Lib.extract_to_end]
  simp [hk]
theorem vsep_no {s : ByteArray} (he : ¬ eqAt s.data.toList < s.size) : vsep s = false := by
  unfold vsep
  simp [he]
theorem extract_le (s : ByteArray) (a b : Nat) : (s.extract a b).size ≤ s.size := by
  rw [ByteArray.size_extract]; omega

set_option maxHeartbeats 400000 in
theorem validSep_any (s : ByteArray) (w : World) (hs : s.size ≤ maxLen) :
    Calls Tryd.prog 119 #[.string s] w fun e w' => e = .returned (.bool (vsep s)) ∧ Grows w w' := by
  by_cases hf : eqAt s.data.toList < s.size
  · obtain ⟨k, hk⟩ : ∃ k, eqAt s.data.toList = k := ⟨_, rfl⟩
    rw [hk] at hf
    have HC := Lib.hid (fun w => cut_yes s w hs k hf hk)
    have hv := vsep_yes hf hk
    have h1 := fun w => fewSpaces_any (s.extract 0 k) w (Nat.le_trans (extract_le _ _ _) hs)
    have h2 := fun w => fewSpaces_any (s.extract (k + 1) s.size) w (Nat.le_trans (extract_le _ _ _) hs)
    obtain ⟨a, ha⟩ : ∃ a, s.extract 0 k = a := ⟨_, rfl⟩
    obtain ⟨b, hb⟩ : ∃ b, s.extract (k + 1) s.size = b := ⟨_, rfl⟩
    rw [ha, hb] at hv HC
    rw [ha] at h1
    rw [hb] at h2
    clear ha hb hk
    by_cases h0 : vspaces a = true
    · rw [h0] at h1
      have HV : Hid (vsep s = vspaces b) := by unfold Hid; rw [hv, h0, Bool.true_and]
      have H1 := Lib.hid h1
      have H2 := Lib.hid h2
      clear h1 h2 hv h0
      go_enter Tryd.func119, Tryd.ntmps119
      go_wp2_with (go_at_call 120; refine (HC.out _).mono ?_; rintro e w' ⟨rfl, n, rfl⟩)
      go_wp2_with fail
      refine (H1.out _).mono ?_
      rintro e w1 ⟨rfl, hb1⟩
      go_wp2_with fail
      refine (H2.out _).mono ?_
      rintro e w2 ⟨rfl, hb2⟩
      go_wp2
      go_ret
      exact ⟨ret_bool HV.out.symm, ((Grows.refl _).drewN n).trans (hb1.trans hb2)⟩
    · have h0' : vspaces a = false := by simpa using h0
      rw [h0'] at h1
      have HV : Hid (vsep s = false) := by unfold Hid; rw [hv, h0', Bool.false_and]
      have H1 := Lib.hid h1
      clear h1 h2 hv h0 h0'
      go_enter Tryd.func119, Tryd.ntmps119
      go_wp2_with (go_at_call 120; refine (HC.out _).mono ?_; rintro e w' ⟨rfl, n, rfl⟩)
      go_wp2_with fail
      refine (H1.out _).mono ?_
      rintro e w1 ⟨rfl, hb1⟩
      go_wp2
      go_ret
      exact ⟨ret_bool HV.out.symm, ((Grows.refl _).drewN n).trans hb1⟩
  · have HC := Lib.hid (fun w => cut_no s w hf)
    have HV : Hid (vsep s = false) := vsep_no hf
    clear hf
    go_enter Tryd.func119, Tryd.ntmps119
    go_wp2_with (go_at_call 120; refine (HC.out _).mono ?_; rintro e w' ⟨rfl, n, rfl⟩)
    go_wp2
    go_ret
    exact ⟨ret_bool HV.out.symm, below_drewN (Below.refl _ _) n⟩
end Go.Proofs.YtclopcbpelhiaaaDoor
namespace Go.Proofs.YtclopcbpelhiaaaDoor
open Go.RowKit

/-- a line: its kind, what it begins with, its name, what separates, its value, what it ends with -/
structure Ln where
  k : Int
  le : ByteArray
  na : ByteArray
  se : ByteArray
  va : ByteArray
  ta : ByteArray
def Ln.cells (l : Ln) : List Value := [.int .i64 l.k, .string l.le, .string l.na, .string l.se, .string l.va, .string l.ta]
def Ln.agg (l : Ln) : Value := .agg #[.int .i64 l.k, .string l.le, .string l.na, .string l.se, .string l.va, .string l.ta]
/-- the parts' lengths fit an int -/
def Ln.fits (l : Ln) : Prop := l.le.size ≤ maxLen ∧ l.na.size ≤ 1048576 ∧ l.se.size ≤ maxLen ∧ l.va.size ≤ maxLen ∧ l.ta.size ≤ maxLen

def nul (s : ByteArray) : Bool := s.toList.isEmpty
/-- the value of a note -/
def vnote (s : ByteArray) : Bool := allB pr s && ((decide (1 ≤ s.size) && decide (s.size ≤ 40)) && decide (s.data.toList.head? = some 35))
def vline (l : Ln) : Bool :=
  vspaces l.le && (
    if l.k = 0 then nul l.na && (nul l.se && (nul l.va && nul l.ta))
    else if l.k = 1 then nul l.na && (nul l.se && (nul l.ta && vnote l.va))
    else if l.k = 2 then vname l.na && (nul l.se && (nul l.va && vspaces l.ta))
    else if l.k = 3 then vname l.na && (vsep l.se && (vvalue l.va && (vspaces l.ta && (!nul l.va || nul l.ta))))
    else false)

/-- the block that a line's box is -/
def Ln.box (l : Ln) : Obj := .cells #[.int .i64 l.k, .string l.le, .string l.na, .string l.se, .string l.va, .string l.ta] 60

set_option maxHeartbeats 1000000 in
theorem specLine_0 (le na se va ta : ByteArray) (w : World) (h1 : le.size ≤ maxLen) :
    Calls Tryd.prog 59 #[Ln.agg ⟨0, le, na, se, va, ta⟩] w fun e w' => e = .returned (.bool (vline ⟨0, le, na, se, va, ta⟩)) ∧ Grows w w' := by
  have H1 := Lib.hid (fun w => specSpaces_any le w h1)
  have HV : Hid (vline ⟨0, le, na, se, va, ta⟩ = (vspaces le && (nul na && (nul se && (nul va && nul ta))))) := by
    unfold Hid vline; rfl
  unfold Ln.agg
  go_enter Tryd.func59, Tryd.ntmps59
  go_wp2_with (go_at_call 79; refine (H1.out _).mono ?_; rintro e w' ⟨rfl, rfl⟩)
  all_goals
    go_ret
    exact ⟨ret_bool (by rw [HV.out]; clear H1 HV; simp_all [nul]), (Grows.refl _).alloc _⟩

theorem vnote_head (s : ByteArray) (h : 0 < s.size) : decide (s.data.toList.head? = some 35) = (((s[0]'h).toNat : Int) == 35) := by
  rw [head_eq s h, Bool.eq_iff_iff, decide_eq_true_iff, beq_iff_eq, Option.some.injEq]
  exact ⟨fun e => by rw [e]; rfl, fun e => UInt8.toNat_inj.1 (by show _ = 35; omega)⟩

set_option maxHeartbeats 1000000 in
theorem specLine_1 (le na se va ta : ByteArray) (w : World) (h1 : le.size ≤ maxLen) (h2 : va.size ≤ maxLen) :
    Calls Tryd.prog 59 #[Ln.agg ⟨1, le, na, se, va, ta⟩] w fun e w' => e = .returned (.bool (vline ⟨1, le, na, se, va, ta⟩)) ∧ Grows w w' := by
  have H1 := Lib.hid (fun w => specSpaces_any le w h1)
  have H2 := Lib.hid (fun w => specPrintable_any va w h2)
  have HV : Hid (vline ⟨1, le, na, se, va, ta⟩ = (vspaces le && (nul na && (nul se && (nul ta && vnote va))))) := by
    unfold Hid vline; rfl
  unfold maxLen at h2
  unfold Ln.agg
  by_cases h0 : 0 < va.size
  · by_cases h4 : va.size ≤ 40
    · have HN : Hid (vnote va = (allB pr va && (((va[0]'h0).toNat : Int) == 35))) := by
        have h5 : decide (1 ≤ va.size) = true := by simp; omega
        unfold vnote Hid; rw [vnote_head va h0, h5]; simp [h4]
      go_enter Tryd.func59, Tryd.ntmps59
      go_wp2_with (first | (go_at_call 79; refine (H1.out _).mono ?_; rintro e w' ⟨rfl, rfl⟩) | (go_at_call 77; refine (H2.out _).mono ?_; rintro e w' ⟨rfl, rfl⟩) | (go_at_call 80; go_in))
      all_goals
        go_ret
        exact ⟨ret_bool (by rw [HV.out]; clear H1 H2 HV; try rw [HN.out]; clear HN; simp_all [nul]), (Grows.refl _).alloc _⟩
    · have HN : Hid (vnote va = false) := by unfold vnote Hid; simp [h4]
      go_enter Tryd.func59, Tryd.ntmps59
      go_wp2_with (first | (go_at_call 79; refine (H1.out _).mono ?_; rintro e w' ⟨rfl, rfl⟩) | (go_at_call 77; refine (H2.out _).mono ?_; rintro e w' ⟨rfl, rfl⟩) | (go_at_call 80; go_in))
      all_goals
        go_ret
        exact ⟨ret_bool (by rw [HV.out, HN.out]; clear H1 H2 HV HN; simp_all [nul]), (Grows.refl _).alloc _⟩
  · have HN : Hid (vnote va = false) := by unfold vnote Hid; simp; intro _ h; omega
    go_enter Tryd.func59, Tryd.ntmps59
    go_wp2_with (first | (go_at_call 79; refine (H1.out _).mono ?_; rintro e w' ⟨rfl, rfl⟩) | (go_at_call 77; refine (H2.out _).mono ?_; rintro e w' ⟨rfl, rfl⟩) | (go_at_call 80; go_in))
    all_goals
      go_ret
      exact ⟨ret_bool (by rw [HV.out, HN.out]; clear H1 H2 HV HN; simp_all [nul]), (Grows.refl _).alloc _⟩

set_option maxHeartbeats 1000000 in
theorem specLine_2 (le na se va ta : ByteArray) (w : World) (h1 : le.size ≤ maxLen) (h2 : na.size ≤ 1048576) (h3 : ta.size ≤ maxLen) :
    Calls Tryd.prog 59 #[Ln.agg ⟨2, le, na, se, va, ta⟩] w fun e w' => e = .returned (.bool (vline ⟨2, le, na, se, va, ta⟩)) ∧ Grows w w' := by
  have H1 := Lib.hid (fun w => specSpaces_any le w h1)
  have H2 := Lib.hid (fun w => specName_any na w h2)
  have H3 := Lib.hid (fun w => specSpaces_any ta w h3)
  have HV : Hid (vline ⟨2, le, na, se, va, ta⟩ = (vspaces le && (vname na && (nul se && (nul va && vspaces ta))))) := by
    unfold Hid vline; rfl
  clear h1 h2 h3
  unfold Ln.agg
  by_cases hle : vspaces le = true
  · rw [hle] at H1
    rw [hle] at HV
    clear hle
    go_enter Tryd.func59, Tryd.ntmps59
    go_wp2_with fail
    refine (H1.out _).mono ?_
    rintro e w' ⟨rfl, rfl⟩
    go_wp2_with (first | (go_at_call 81; refine (H2.out _).mono ?_; rintro e w' ⟨rfl, rfl⟩) | (go_at_call 79; refine (H3.out _).mono ?_; rintro e w' ⟨rfl, rfl⟩))
    all_goals
      go_ret
      exact ⟨ret_bool (by rw [HV.out]; clear H1 H2 H3 HV; simp_all [nul]), (Grows.refl _).alloc _⟩
  · have hle' : vspaces le = false := by simpa using hle
    rw [hle'] at H1
    rw [hle'] at HV
    clear hle hle'
    go_enter Tryd.func59, Tryd.ntmps59
    go_wp2_with (go_at_call 79; refine (H1.out _).mono ?_; rintro e w' ⟨rfl, rfl⟩)
    go_ret
    exact ⟨ret_bool (by rw [HV.out]; rfl), (Grows.refl _).alloc _⟩

set_option maxHeartbeats 1000000 in
theorem specLine_x (k : Int) (le na se va ta : ByteArray) (w : World) (h1 : le.size ≤ maxLen) (hk : k < 0 ∨ 3 < k) :
    Calls Tryd.prog 59 #[Ln.agg ⟨k, le, na, se, va, ta⟩] w fun e w' => e = .returned (.bool (vline ⟨k, le, na, se, va, ta⟩)) ∧ Grows w w' := by
  have H1 := Lib.hid (fun w => specSpaces_any le w h1)
  have HV : Hid (vline ⟨k, le, na, se, va, ta⟩ = false) := by
    unfold Hid vline
    rw [if_neg (by show ¬ k = 0; omega), if_neg (by show ¬ k = 1; omega), if_neg (by show ¬ k = 2; omega), if_neg (by show ¬ k = 3; omega), Bool.and_false]
  have k0 : (k == 0) = false := by rw [beq_eq_false_iff_ne]; omega
  have k1 : (k == 1) = false := by rw [beq_eq_false_iff_ne]; omega
  have k2 : (k == 2) = false := by rw [beq_eq_false_iff_ne]; omega
  have k3 : (k == 3) = false := by rw [beq_eq_false_iff_ne]; omega
  clear h1 hk
  unfold Ln.agg
  go_enter Tryd.func59, Tryd.ntmps59
  go_wp2_with (go_at_call 79; refine (H1.out _).mono ?_; rintro e w' ⟨rfl, rfl⟩)
  all_goals
    go_ret
    exact ⟨ret_bool HV.out.symm, (Grows.refl _).alloc _⟩

end Go.Proofs.YtclopcbpelhiaaaDoor
namespace Go.Proofs.YtclopcbpelhiaaaDoor
open Go.RowKit

set_option maxHeartbeats 2000000 in
theorem specLine_3 (le na se va ta : ByteArray) (w : World) (h1 : le.size ≤ maxLen) (h2 : na.size ≤ 1048576) (h3 : se.size ≤ maxLen) (h4 : va.size ≤ maxLen) (h5 : ta.size ≤ maxLen) :
    Calls Tryd.prog 59 #[Ln.agg ⟨3, le, na, se, va, ta⟩] w fun e w' => e = .returned (.bool (vline ⟨3, le, na, se, va, ta⟩)) ∧ Grows w w' := by
  have H1 := Lib.hid h1
  have H2 := Lib.hid (fun w => specName_any na w h2)
  have H4 := Lib.hid (fun w => specValue_any va w h4)
  have H5 := Lib.hid h5
  have HV : Hid (vline ⟨3, le, na, se, va, ta⟩ = (vspaces le && (vname na && (vsep se && (vvalue va && (vspaces ta && (!nul va || nul ta))))))) := by
    unfold Hid vline; rfl
  have hx := fun w => specIndexOf_any se w h3
  unfold Ln.agg
  by_cases hf : eqAt se.data.toList < se.size
  · rw [eqIx_yes hf] at hx
    have hsep := vsep_yes hf rfl
    have hA := Nat.le_trans (extract_le se 0 (eqAt se.data.toList)) h3
    have hB := Nat.le_trans (extract_le se (eqAt se.data.toList + 1) se.size) h3
    obtain ⟨p, hp⟩ : ∃ p, eqAt se.data.toList = p := ⟨_, rfl⟩
    rw [hp] at hx hf hsep hA hB
    clear hp
    have HA := Lib.hid hA
    have HB := Lib.hid hB
    have HX := Lib.hid hx
    have HS := Lib.hid hsep
    unfold maxLen at h3
    clear h1 h2 h4 h5 hA hB hx hsep
    go_enter Tryd.func59, Tryd.ntmps59
    go_wp2_with (first | (go_at_call 79; refine (specSpaces_any _ _ (by first | exact H1.out | exact HA.out | exact HB.out | exact H5.out)).mono ?_; rintro e w' ⟨rfl, rfl⟩) | (go_at_call 82; refine (HX.out _).mono ?_; rintro e w' ⟨rfl, rfl⟩) | (go_at_call 81; refine (H2.out _).mono ?_; rintro e w' ⟨rfl, rfl⟩) | (go_at_call 50; refine (H4.out _).mono ?_; rintro e w' ⟨rfl, rfl⟩))
    all_goals
      go_ret
      exact ⟨ret_bool (by rw [HV.out, HS.out]; clear H1 H2 H4 H5 HV HS HA HB HX; simp_all [nul]), (Grows.refl _).alloc _⟩
  · rw [eqIx_no hf] at hx
    have HS : Hid (vsep se = false) := vsep_no hf
    have HX := Lib.hid hx
    clear h1 h2 h4 h5 hx hf
    go_enter Tryd.func59, Tryd.ntmps59
    go_wp2_with (first | (go_at_call 79; refine (specSpaces_any _ _ (by first | exact H1.out | exact H5.out)).mono ?_; rintro e w' ⟨rfl, rfl⟩) | (go_at_call 82; refine (HX.out _).mono ?_; rintro e w' ⟨rfl, rfl⟩) | (go_at_call 81; refine (H2.out _).mono ?_; rintro e w' ⟨rfl, rfl⟩) | (go_at_call 50; refine (H4.out _).mono ?_; rintro e w' ⟨rfl, rfl⟩))
    all_goals
      go_ret
      exact ⟨ret_bool (by rw [HV.out, HS.out]; clear H1 H2 H4 H5 HV HS HX; simp_all [nul]), (Grows.refl _).alloc _⟩

theorem specLine_any (l : Ln) (w : World) (hl : l.fits) :
    Calls Tryd.prog 59 #[l.agg] w fun e w' => e = .returned (.bool (vline l)) ∧ Grows w w' := by
  obtain ⟨k, le, na, se, va, ta⟩ := l
  obtain ⟨h1, h2, h3, h4, h5⟩ := hl
  by_cases hk : k < 0 ∨ 3 < k
  · exact specLine_x k le na se va ta w h1 hk
  · rcases (show k = 0 ∨ k = 1 ∨ k = 2 ∨ k = 3 from by omega) with rfl | rfl | rfl | rfl
    · exact specLine_0 le na se va ta w h1
    · exact specLine_1 le na se va ta w h1 h4
    · exact specLine_2 le na se va ta w h1 h2 h5
    · exact specLine_3 le na se va ta w h1 h2 h3 h4 h5
end Go.Proofs.YtclopcbpelhiaaaDoor
namespace Go.Proofs.YtclopcbpelhiaaaDoor
open Go.RowKit

set_option maxHeartbeats 1000000 in
theorem formOf_0 (le na se va ta : ByteArray) (w : World) :
    Calls Tryd.prog 44 #[Ln.agg ⟨0, le, na, se, va, ta⟩] w fun e w' => e = .returned (.iface 98 (.agg #[.string le])) ∧ w' = w.alloc (Ln.box ⟨0, le, na, se, va, ta⟩) := by
  unfold Ln.box
  unfold Ln.agg
  go_enter Tryd.func44, Tryd.ntmps44
  go_wp2
  go_ret
  exact ⟨rfl, rfl⟩

/-- the world behind the call of line -/
def lineW_0 (w : World) (le : ByteArray) : World := (w.alloc (.cells #[.string le] 98)).alloc (Ln.box ⟨0, le, ⟨#[]⟩, ⟨#[]⟩, ⟨#[]⟩, ⟨#[]⟩⟩)

set_option maxHeartbeats 1000000 in
theorem line_0 (le : ByteArray) (w : World) :
    Calls Tryd.prog 125 #[.agg #[.string le]] w fun e w' => e = .returned (Ln.agg ⟨0, le, ⟨#[]⟩, ⟨#[]⟩, ⟨#[]⟩, ⟨#[]⟩⟩) ∧ w' = lineW_0 w le := by
  unfold lineW_0 Ln.box
  unfold Ln.agg
  go_enter Tryd.func125, Tryd.ntmps125
  go_wp2
  refine bodyPost_ret (v := .agg #[.int .i64 0, .string le, .string ⟨#[]⟩, .string ⟨#[]⟩, .string ⟨#[]⟩, .string ⟨#[]⟩]) (by simp [results, Tryd.results125, go_sem]) rfl ⟨rfl, rfl⟩

theorem notNil_0 (v : Value) (w : World) : (binOp .neq 77 (.iface 98 v) .nilIface).run Tryd.prog w = .ok (.bool true) w := by kernel_rfl
theorem methLine_0 (v : Value) (w : World) : (method 249 98 v "loop.example/settinglayers/impl.line").run Tryd.prog w = .ok (125, v) w := by kernel_rfl
theorem methValid_0 (v : Value) (w : World) : (method 249 98 v "loop.example/settinglayers/impl.valid").run Tryd.prog w = .ok (126, v) w := by kernel_rfl

set_option maxHeartbeats 1000000 in
theorem formOf_1 (le na se va ta : ByteArray) (w : World) :
    Calls Tryd.prog 44 #[Ln.agg ⟨1, le, na, se, va, ta⟩] w fun e w' => e = .returned (.iface 100 (.agg #[.string le, .string va])) ∧ w' = w.alloc (Ln.box ⟨1, le, na, se, va, ta⟩) := by
  unfold Ln.box
  unfold Ln.agg
  go_enter Tryd.func44, Tryd.ntmps44
  go_wp2
  go_ret
  exact ⟨rfl, rfl⟩

/-- the world behind the call of line -/
def lineW_1 (w : World) (le va : ByteArray) : World := (w.alloc (.cells #[.string le, .string va] 100)).alloc (Ln.box ⟨1, le, ⟨#[]⟩, ⟨#[]⟩, va, ⟨#[]⟩⟩)

set_option maxHeartbeats 1000000 in
theorem line_1 (le va : ByteArray) (w : World) :
    Calls Tryd.prog 127 #[.agg #[.string le, .string va]] w fun e w' => e = .returned (Ln.agg ⟨1, le, ⟨#[]⟩, ⟨#[]⟩, va, ⟨#[]⟩⟩) ∧ w' = lineW_1 w le va := by
  unfold lineW_1 Ln.box
  unfold Ln.agg
  go_enter Tryd.func127, Tryd.ntmps127
  go_wp2
  refine bodyPost_ret (v := .agg #[.int .i64 1, .string le, .string ⟨#[]⟩, .string ⟨#[]⟩, .string va, .string ⟨#[]⟩]) (by simp [results, Tryd.results127, go_sem]) rfl ⟨rfl, rfl⟩

theorem notNil_1 (v : Value) (w : World) : (binOp .neq 77 (.iface 100 v) .nilIface).run Tryd.prog w = .ok (.bool true) w := by kernel_rfl
theorem methLine_1 (v : Value) (w : World) : (method 249 100 v "loop.example/settinglayers/impl.line").run Tryd.prog w = .ok (127, v) w := by kernel_rfl
theorem methValid_1 (v : Value) (w : World) : (method 249 100 v "loop.example/settinglayers/impl.valid").run Tryd.prog w = .ok (128, v) w := by kernel_rfl

set_option maxHeartbeats 1000000 in
theorem formOf_2 (le na se va ta : ByteArray) (w : World) :
    Calls Tryd.prog 44 #[Ln.agg ⟨2, le, na, se, va, ta⟩] w fun e w' => e = .returned (.iface 80 (.agg #[.string le, .string na, .string ta])) ∧ w' = w.alloc (Ln.box ⟨2, le, na, se, va, ta⟩) := by
  unfold Ln.box
  unfold Ln.agg
  go_enter Tryd.func44, Tryd.ntmps44
  go_wp2
  go_ret
  exact ⟨rfl, rfl⟩

/-- the world behind the call of line -/
def lineW_2 (w : World) (le na ta : ByteArray) : World := (w.alloc (.cells #[.string le, .string na, .string ta] 80)).alloc (Ln.box ⟨2, le, na, ⟨#[]⟩, ⟨#[]⟩, ta⟩)

set_option maxHeartbeats 1000000 in
theorem line_2 (le na ta : ByteArray) (w : World) :
    Calls Tryd.prog 55 #[.agg #[.string le, .string na, .string ta]] w fun e w' => e = .returned (Ln.agg ⟨2, le, na, ⟨#[]⟩, ⟨#[]⟩, ta⟩) ∧ w' = lineW_2 w le na ta := by
  unfold lineW_2 Ln.box
  unfold Ln.agg
  go_enter Tryd.func55, Tryd.ntmps55
  go_wp2
  refine bodyPost_ret (v := .agg #[.int .i64 2, .string le, .string na, .string ⟨#[]⟩, .string ⟨#[]⟩, .string ta]) (by simp [results, Tryd.results55, go_sem]) rfl ⟨rfl, rfl⟩

theorem notNil_2 (v : Value) (w : World) : (binOp .neq 77 (.iface 80 v) .nilIface).run Tryd.prog w = .ok (.bool true) w := by kernel_rfl
theorem methLine_2 (v : Value) (w : World) : (method 249 80 v "loop.example/settinglayers/impl.line").run Tryd.prog w = .ok (55, v) w := by kernel_rfl
theorem methValid_2 (v : Value) (w : World) : (method 249 80 v "loop.example/settinglayers/impl.valid").run Tryd.prog w = .ok (116, v) w := by kernel_rfl

set_option maxHeartbeats 1000000 in
theorem formOf_3 (le na se va ta : ByteArray) (w : World) :
    Calls Tryd.prog 44 #[Ln.agg ⟨3, le, na, se, va, ta⟩] w fun e w' => e = .returned (.iface 83 (.agg #[.string le, .string na, .string se, .string va, .string ta])) ∧ w' = w.alloc (Ln.box ⟨3, le, na, se, va, ta⟩) := by
  unfold Ln.box
  unfold Ln.agg
  go_enter Tryd.func44, Tryd.ntmps44
  go_wp2
  go_ret
  exact ⟨rfl, rfl⟩

/-- the world behind the call of line -/
def lineW_3 (w : World) (le na se va ta : ByteArray) : World := (w.alloc (.cells #[.string le, .string na, .string se, .string va, .string ta] 83)).alloc (Ln.box ⟨3, le, na, se, va, ta⟩)

set_option maxHeartbeats 1000000 in
theorem line_3 (le na se va ta : ByteArray) (w : World) :
    Calls Tryd.prog 53 #[.agg #[.string le, .string na, .string se, .string va, .string ta]] w fun e w' => e = .returned (Ln.agg ⟨3, le, na, se, va, ta⟩) ∧ w' = lineW_3 w le na se va ta := by
  unfold lineW_3 Ln.box
  unfold Ln.agg
  go_enter Tryd.func53, Tryd.ntmps53
  go_wp2
  refine bodyPost_ret (v := .agg #[.int .i64 3, .string le, .string na, .string se, .string va, .string ta]) (by simp [results, Tryd.results53, go_sem]) rfl ⟨rfl, rfl⟩

theorem notNil_3 (v : Value) (w : World) : (binOp .neq 77 (.iface 83 v) .nilIface).run Tryd.prog w = .ok (.bool true) w := by kernel_rfl
theorem methLine_3 (v : Value) (w : World) : (method 249 83 v "loop.example/settinglayers/impl.line").run Tryd.prog w = .ok (53, v) w := by kernel_rfl
theorem methValid_3 (v : Value) (w : World) : (method 249 83 v "loop.example/settinglayers/impl.valid").run Tryd.prog w = .ok (118, v) w := by kernel_rfl

set_option maxHeartbeats 1000000 in
theorem formOf_x (k : Int) (le na se va ta : ByteArray) (w : World) (hk : k < 0 ∨ 3 < k) :
    Calls Tryd.prog 44 #[Ln.agg ⟨k, le, na, se, va, ta⟩] w fun e w' => e = .returned .nilIface ∧ w' = w.alloc (Ln.box ⟨k, le, na, se, va, ta⟩) := by
  have k0 : (k == 0) = false := by rw [beq_eq_false_iff_ne]; omega
  have k1 : (k == 1) = false := by rw [beq_eq_false_iff_ne]; omega
  have k2 : (k == 2) = false := by rw [beq_eq_false_iff_ne]; omega
  have k3 : (k == 3) = false := by rw [beq_eq_false_iff_ne]; omega
  clear hk
  unfold Ln.box
  unfold Ln.agg
  go_enter Tryd.func44, Tryd.ntmps44
  go_wp2
  go_ret
  exact ⟨rfl, rfl⟩
theorem nilNil (w : World) : (binOp .neq 77 .nilIface .nilIface).run Tryd.prog w = .ok (.bool false) w := by kernel_rfl
end Go.Proofs.YtclopcbpelhiaaaDoor
namespace Go.Proofs.YtclopcbpelhiaaaDoor
open Go.RowKit

theorem Grows.bc {a b : World} (h : Grows a b) : ∀ k o, k < a.heap.size → b.cell? ⟨k, o, none⟩ = a.cell? ⟨k, o, none⟩ := fun k o hk => Below.cell (p := ⟨k, o, none⟩) h hk

theorem vnote_eq (s : ByteArray) : vnote s = (Lib.hasPrefix s.data.toList [35] && (decide (s.size ≤ 40) && allB pr s)) := by
  have h1 : Lib.hasPrefix s.data.toList [35] = (decide (1 ≤ s.size) && decide (s.data.toList.head? = some 35)) := by
    rw [Lib.size_eq]
    unfold Lib.hasPrefix
    cases s.data.toList with
    | nil => rfl
    | cons b t =>
      have : (35 == b) = decide (b = 35) := by rw [Bool.eq_iff_iff, beq_iff_eq, decide_eq_true_iff]; exact eq_comm
      simp [List.isPrefixOf, this]
  unfold vnote
  rw [h1]
  cases allB pr s <;> cases decide (1 ≤ s.size) <;> cases decide (s.size ≤ 40) <;> cases decide (s.data.toList.head? = some 35) <;> rfl

set_option maxHeartbeats 1000000 in
theorem valid_0 (le : ByteArray) (w : World) (h1 : le.size ≤ maxLen) :
    Calls Tryd.prog 126 #[.agg #[.string le]] w fun e w' => e = .returned (.bool (vspaces le)) ∧ Grows w w' := by
  have H1 := Lib.hid (fun w => fewSpaces_any le w h1)
  go_enter Tryd.func126, Tryd.ntmps126
  go_wp2_with (go_at_call 117; refine (H1.out _).mono ?_; rintro e w1 ⟨rfl, hb1⟩)
  go_ret
  exact ⟨rfl, ((Grows.refl _).alloc _).trans hb1⟩

set_option maxHeartbeats 1000000 in
theorem valid_1 (le va : ByteArray) (w : World) (h1 : le.size ≤ maxLen) (h2 : va.size ≤ maxLen) :
    Calls Tryd.prog 128 #[.agg #[.string le, .string va]] w fun e w' => e = .returned (.bool (vspaces le && vnote va)) ∧ Grows w w' := by
  have H1 := Lib.hid (fun w => fewSpaces_any le w h1)
  have H2 := Lib.hid (fun w => implPrintable_any va w)
  have hp := fun w => Tryd.strings_HasPrefix va ⟨#[35]⟩ w
  have H3 := Lib.hid hp
  have HV := Lib.hid (vnote_eq va)
  unfold maxLen at h2
  clear h1 hp
  go_enter Tryd.func128, Tryd.ntmps128
  go_wp2_with (first | (go_at_call 117; refine (H1.out _).mono ?_; rintro e w1 ⟨rfl, hb1⟩; have hc1 := hb1.bc; have hs1 : w.heap.size < w1.heap.size := Nat.lt_of_lt_of_le (by first | assumption | simp) hb1.size) | (go_at_call 129; refine (H3.out _).mono ?_; rintro e w' ⟨rfl, rfl⟩) | (go_at_call 48; refine (H2.out _).mono ?_; rintro e w2 ⟨rfl, hb2⟩; have hc2 := hb2.bc; have hs2 : w.heap.size < w2.heap.size := Nat.lt_of_lt_of_le (by first | assumption | simp) hb2.size))
  all_goals
    go_ret
    exact ⟨ret_bool (by rw [HV.out]; clear H1 H2 H3 HV; simp_all; try (intros; omega)), (by repeat (first | exact Grows.refl _ | assumption | refine Grows.trans ?_ (by assumption) | refine Grows.alloc ?_ _ | refine Grows.drew ?_ | refine Grows.drewN ?_ _))⟩

set_option maxHeartbeats 1000000 in
theorem valid_2 (le na ta : ByteArray) (w : World) (h1 : le.size ≤ maxLen) (h2 : na.size ≤ 1048576) (h3 : ta.size ≤ maxLen) :
    Calls Tryd.prog 116 #[.agg #[.string le, .string na, .string ta]] w fun e w' => e = .returned (.bool (vspaces le && (vname na && vspaces ta))) ∧ Grows w w' := by
  have H1 := Lib.hid h1
  have H3 := Lib.hid h3
  have H2 := Lib.hid (fun w => implName_any na w h2)
  clear h1 h2 h3
  go_enter Tryd.func116, Tryd.ntmps116
  go_wp2_with (first | (go_at_call 117; refine (fewSpaces_any _ _ (by first | exact H1.out | exact H3.out)).mono ?_; rintro e w1 ⟨rfl, hb1⟩; have hc1 := hb1.bc; have hs1 : w.heap.size < w1.heap.size := Nat.lt_of_lt_of_le (by first | assumption | simp) hb1.size) | (go_at_call 91; refine (H2.out _).mono ?_; rintro e w2 ⟨rfl, hb2⟩; have hc2 := hb2.bc; have hs2 : w.heap.size < w2.heap.size := Nat.lt_of_lt_of_le (by first | assumption | simp) hb2.size))
  all_goals
    go_ret
    exact ⟨ret_bool (by clear H1 H2 H3; simp_all), (by repeat (first | exact Grows.refl _ | assumption | refine Grows.trans ?_ (by assumption) | refine Grows.alloc ?_ _ | refine Grows.drew ?_ | refine Grows.drewN ?_ _))⟩

set_option maxHeartbeats 2000000 in
theorem valid_3 (le na se va ta : ByteArray) (w : World) (h1 : le.size ≤ maxLen) (h2 : na.size ≤ 1048576) (h3 : se.size ≤ maxLen) (h4 : va.size ≤ maxLen) (h5 : ta.size ≤ maxLen) :
    Calls Tryd.prog 118 #[.agg #[.string le, .string na, .string se, .string va, .string ta]] w fun e w' => e = .returned (.bool (vspaces le && (vname na && (vsep se && (vvalue va && (vspaces ta && (!nul va || nul ta))))))) ∧ Grows w w' := by
  have H1 := Lib.hid h1
  have H5 := Lib.hid h5
  have H2 := Lib.hid (fun w => implName_any na w h2)
  have H3 := Lib.hid (fun w => validSep_any se w h3)
  have H4 := Lib.hid (fun w => implValue_any va w h4)
  clear h1 h2 h3 h4 h5
  go_enter Tryd.func118, Tryd.ntmps118
  go_wp2_with (first | (go_at_call 117; refine (fewSpaces_any _ _ (by first | exact H1.out | exact H5.out)).mono ?_; rintro e w1 ⟨rfl, hb1⟩; have hc1 := hb1.bc; have hs1 : w.heap.size < w1.heap.size := Nat.lt_of_lt_of_le (by first | assumption | simp) hb1.size) | (go_at_call 91; refine (H2.out _).mono ?_; rintro e w2 ⟨rfl, hb2⟩; have hc2 := hb2.bc; have hs2 : w.heap.size < w2.heap.size := Nat.lt_of_lt_of_le (by first | assumption | simp) hb2.size) | (go_at_call 119; refine (H3.out _).mono ?_; rintro e w3 ⟨rfl, hb3⟩; have hc3 := hb3.bc; have hs3 : w.heap.size < w3.heap.size := Nat.lt_of_lt_of_le (by first | assumption | simp) hb3.size) | (go_at_call 21; refine (H4.out _).mono ?_; rintro e w4 ⟨rfl, hb4⟩; have hc4 := hb4.bc; have hs4 : w.heap.size < w4.heap.size := Nat.lt_of_lt_of_le (by first | assumption | simp) hb4.size))
  all_goals
    go_ret
    exact ⟨ret_bool (by clear H1 H2 H3 H4 H5; simp_all [nul]), (by repeat (first | exact Grows.refl _ | assumption | refine Grows.trans ?_ (by assumption) | refine Grows.alloc ?_ _ | refine Grows.drew ?_ | refine Grows.drewN ?_ _))⟩
end Go.Proofs.YtclopcbpelhiaaaDoor
namespace Go.Proofs.YtclopcbpelhiaaaDoor
open Go.RowKit

/-- two lines are the same in every part -/
def Ln.same (a b : Ln) : Bool := (a.k == b.k) && ((a.le.toList == b.le.toList) && ((a.na.toList == b.na.toList) && ((a.se.toList == b.se.toList) && ((a.va.toList == b.va.toList) && (a.ta.toList == b.ta.toList)))))
theorem eqLn (a b : Ln) (w : World) : (binOp .eql 60 a.agg b.agg).run Tryd.prog w = .ok (.bool (a.same b)) w := by
  unfold Ln.agg
  go_simp
  unfold Ln.same
  repeat' split
  all_goals simp_all

end Go.Proofs.YtclopcbpelhiaaaDoor
