/-
  The two tests of names, spec.validName (and spec.ValidName) and impl.ValidName, both return one plain test of the bytes, and write nothing that was there.
  What the tests of texts return: spaces, printable, indexOf, validValue of the specification; fewSpaces, printable, validSep, ValidValue of the program. Conditions: texts shorter than 4294967281 bytes.
  What the specification's test of a line returns: the plain test 'vline' of its six parts. Conditions: parts no longer than an int says.
  What the specification's test of a line returns at a pair: the plain test 'vline' of its six parts. Conditions: parts no longer than an int says.
  What the program's forms of a line are: formOf, and the method line of each form, with the very world that they leave. No condition.
  What the method valid of each form of a line returns; what the program's test of a line returns: the plain test 'vline'. Conditions: parts no longer than an int says.
  The comparison of two lines. No condition.
-/
import Derived.Test.YtkjoolmhcfajnaaDoorProg
import Derived.Test.YtkjoolmhcfajnaaDoorPure
import Derived.WalkKit
import Derived.WalkSpells
import Derived.WalkLawsBesides
import Derived.Deep.QuietTactic
import Derived.BigQuiet
import Derived.Lib.Hide
import Derived.Lib.Strings
import Derived.Test.YtkjoolmhcfajnaaDoorShelf
import Derived.Deep.RegionWith
namespace Go.Proofs.YtkjoolmhcfajnaaDoor
open Go.RowKit

set_option maxHeartbeats 400000 in
theorem specName_any (s : ByteArray) (w : World) (hs : s.size ≤ 1048576) :
    Calls Tryd.prog 46 #[.string s] w fun e w' => e = .returned (.bool (vname s)) ∧ w = w' := by
  go_enter Tryd.func46, Tryd.ntmps46
  go_wp2
  go_loop [3] (fun i => ∃ k : Nat, k ≤ s.size ∧ i = .int .i64 k ∧ Upto letter s k) (fun i => s.size - (intOf i).toNat)
  case atStart => exact ⟨0, Nat.zero_le _, rfl, Upto.zero _ s⟩
  case round =>
    obtain ⟨k, hk, rfl, hL⟩ := hrel
    by_cases hlt : k < s.size
    · go_wp2
      · go_ret
        exact ⟨ret_bool (by rw [vname, allB_not hlt (letter_no (by omega))]; rfl), rfl⟩
      · go_round
        case rel => exact ⟨k + 1, by omega, by go_num, hL.succ hlt (letter_yes (by omega) (by omega))⟩
        case measure => simp [intOf]; omega
      · go_ret
        exact ⟨ret_bool (by rw [vname, allB_not hlt (letter_no (by omega))]; rfl), rfl⟩
    · obtain rfl : k = s.size := by omega
      have HV : Hid (vname s = (decide (1 ≤ s.size) && decide (s.size ≤ 8))) := by unfold vname; rw [Upto.all hL]; rfl
      go_wp2
      all_goals
        go_ret
        exact ⟨ret_bool (by rw [HV.out, Bool.eq_iff_iff]; simp; try omega), rfl⟩

set_option maxHeartbeats 400000 in
theorem implName_out (s : ByteArray) (w : World) (h8 : s.size = 0 ∨ 8 < s.size) (hs : s.size ≤ 1048576) :
    Calls Tryd.prog 57 #[.string s] w fun e w' => e = .returned (.bool (vname s)) ∧ Grows w w' := by
  have HV : Hid (vname s = false) := vname_size h8
  rcases h8 with h8 | h8
  · have hl := toList_nil h8
    clear h8
    go_enter Tryd.func57, Tryd.ntmps57
    go_wp2
    go_ret
    exact ⟨ret_bool HV.out.symm, Below.refl _ _⟩
  · have hl := toList_ne (s := s) (by omega)
    have hl2 := isEmpty_ne (s := s) (by omega)
    go_enter Tryd.func57, Tryd.ntmps57
    go_wp2
    go_ret
    exact ⟨ret_bool HV.out.symm, Below.refl _ _⟩

set_option maxHeartbeats 400000 in
theorem implName_in (s : ByteArray) (w : World) (h1 : 0 < s.size) (h8 : s.size ≤ 8) :
    Calls Tryd.prog 57 #[.string s] w fun e w' => e = .returned (.bool (vname s)) ∧ Grows w w' := by
  have HV : Hid (vname s = allB letter s) := vname_in h1 h8
  have hl := toList_ne h1
  have hl2 := isEmpty_ne h1
  go_enter Tryd.func57, Tryd.ntmps57
  go_wp2
  go_loopw [4] (fun _ w' => ∃ pos : Nat, w' = w.iter s pos ∧ pos ≤ s.size ∧ Upto letter s pos) (fun _ w' => s.size - w'.iterPos w.heap.size)
  case atStart => exact ⟨0, rfl, by omega, Upto.zero _ s⟩
  case round =>
    obtain ⟨pos, rfl, hpos, hL⟩ := hrel
    by_cases hp : pos < s.size
    · have hnx : ∀ ty, (Instr.next (.pointer (some ⟨w.heap.size, 0, none⟩)) true ty).run Tryd.prog (w.iter s pos) = _ := fun ty => run_next_any w s pos ty hp
      go_wp2
      · go_ret
        exact ⟨ret_bool (by rw [HV.out, allB_not hp (rune_no_letter hp (by omega))]), below_iter _ _ _⟩
      · have hl := rune_letter hp (by omega) (by omega)
        go_roundw
        case rel => exact ⟨pos + 1, by rw [hl.2], by omega, hL.succ hp hl.1⟩
        case measure => rw [World.iterPos_iter, World.iterPos_iter, hl.2]; omega
      · go_ret
        exact ⟨ret_bool (by rw [HV.out, allB_not hp (rune_no_letter hp (by omega))]), below_iter _ _ _⟩
    · have hnx : ∀ ty, (Instr.next (.pointer (some ⟨w.heap.size, 0, none⟩)) true ty).run Tryd.prog (w.iter s pos) = _ := fun ty => run_next_end w s pos ty hp
      obtain rfl : pos = s.size := by omega
      have HW : Hid (vname s = true) := by unfold Hid; rw [HV.out, Upto.all hL]
      go_wp2
      go_ret
      exact ⟨ret_bool HW.out.symm, below_iter _ _ _⟩

theorem implName_any (s : ByteArray) (w : World) (hs : s.size ≤ 1048576) :
    Calls Tryd.prog 57 #[.string s] w fun e w' => e = .returned (.bool (vname s)) ∧ Grows w w' := by
  by_cases h0 : s.size = 0 ∨ 8 < s.size
  · exact implName_out s w h0 hs
  · exact implName_in s w (by omega) (by omega)

end Go.Proofs.YtkjoolmhcfajnaaDoor
namespace Go.Proofs.YtkjoolmhcfajnaaDoor
open Go.RowKit

set_option maxHeartbeats 400000 in
theorem specPrintable_any (s : ByteArray) (w : World) (hs : s.size ≤ maxLen) :
    Calls Tryd.prog 47 #[.string s] w fun e w' => e = .returned (.bool (allB pr s)) ∧ w = w' := by
  unfold maxLen at hs
  go_enter Tryd.func47, Tryd.ntmps47
  go_wp2
  go_loop [3] (fun i => ∃ k : Nat, k ≤ s.size ∧ i = .int .i64 k ∧ Upto pr s k) (fun i => s.size - (intOf i).toNat)
  case atStart => exact ⟨0, Nat.zero_le _, rfl, Upto.zero _ s⟩
  case round =>
    obtain ⟨k, hk, rfl, hL⟩ := hrel
    by_cases hlt : k < s.size
    · go_wp2
      · go_ret
        exact ⟨ret_bool (by rw [allB_not hlt (pr_no (by omega))]), rfl⟩
      · go_round
        case rel => exact ⟨k + 1, by omega, by go_num, hL.succ hlt (pr_yes (by omega) (by omega))⟩
        case measure => simp [intOf]; omega
      · go_ret
        exact ⟨ret_bool (by rw [allB_not hlt (pr_no (by omega))]), rfl⟩
    · obtain rfl : k = s.size := by omega
      have HV : Hid (allB pr s = true) := Upto.all hL
      go_wp2
      go_ret
      exact ⟨ret_bool HV.out.symm, rfl⟩

set_option maxHeartbeats 400000 in
theorem implPrintable_any (s : ByteArray) (w : World) :
    Calls Tryd.prog 58 #[.string s] w fun e w' => e = .returned (.bool (allB pr s)) ∧ Grows w w' := by
  go_enter Tryd.func58, Tryd.ntmps58
  go_wp2
  go_loopw [4] (fun _ w' => ∃ pos : Nat, w' = w.iter s pos ∧ pos ≤ s.size ∧ Upto pr s pos) (fun _ w' => s.size - w'.iterPos w.heap.size)
  case atStart => exact ⟨0, rfl, by omega, Upto.zero _ s⟩
  case round =>
    obtain ⟨pos, rfl, hpos, hL⟩ := hrel
    by_cases hp : pos < s.size
    · have hnx : ∀ ty, (Instr.next (.pointer (some ⟨w.heap.size, 0, none⟩)) true ty).run Tryd.prog (w.iter s pos) = _ := fun ty => run_next_any w s pos ty hp
      go_wp2
      · go_ret
        exact ⟨ret_bool (by rw [allB_not hp (rune_no_pr hp (by omega))]), below_iter _ _ _⟩
      · have hl := rune_pr hp (by omega) (by omega)
        go_roundw
        case rel => exact ⟨pos + 1, by rw [hl.2], by omega, hL.succ hp hl.1⟩
        case measure => rw [World.iterPos_iter, World.iterPos_iter, hl.2]; omega
      · go_ret
        exact ⟨ret_bool (by rw [allB_not hp (rune_no_pr hp (by omega))]), below_iter _ _ _⟩
    · have hnx : ∀ ty, (Instr.next (.pointer (some ⟨w.heap.size, 0, none⟩)) true ty).run Tryd.prog (w.iter s pos) = _ := fun ty => run_next_end w s pos ty hp
      obtain rfl : pos = s.size := by omega
      have HW : Hid (allB pr s = true) := Upto.all hL
      go_wp2
      go_ret
      exact ⟨ret_bool HW.out.symm, below_iter _ _ _⟩

theorem fewSpaces_pure (s : ByteArray) : ((⟨(Lib.trimB s.data.toList 32).toArray⟩ : ByteArray).toList = [] ↔ allB sp s = true) := by
  rw [Lib.toList_data]
  show (Lib.trimB s.data.toList 32).toArray.toList = [] ↔ _
  rw [List.toList_toArray]
  exact trimB_nil _

/-- a draw more or none -/
theorem below_or {w w' : World} (h : w' = w ∨ w' = w.drew) : Grows w w' := by
  rcases h with rfl | rfl
  · exact Below.refl _ _
  · exact (Below.refl _ _).drew

/-- the last byte of a text -/
theorem getLast_eq (s : ByteArray) (h : 0 < s.size) : s.data.toList.getLast? = some (s[s.size - 1]'(by omega)) := by
  rw [List.getLast?_eq_getElem?, ← Lib.size_eq]
  exact Lib.data_getElem? s _ (by omega)
theorem head_eq (s : ByteArray) (h : 0 < s.size) : s.data.toList.head? = some (s[0]'h) := by
  rw [List.head?_eq_getElem?]
  exact Lib.data_getElem? s _ (by omega)
theorem edge_eq (s : ByteArray) (h : 0 < s.size) : edge s.data.toList = (!sp (s[0]'h) && !sp (s[s.size - 1]'(by omega))) := by
  have h32 : ∀ b : UInt8, decide (some b ≠ some (32 : UInt8)) = !sp b := by
    intro b
    rw [← eq32, Bool.eq_iff_iff, decide_eq_true_iff]
    simp
  unfold edge
  rw [head_eq s h, getLast_eq s h, h32, h32]
theorem edge_nil (s : ByteArray) (h : s.size = 0) : edge s.data.toList = true := by
  have : s.data.toList = [] := List.eq_nil_of_length_eq_zero (by rw [← Lib.size_eq]; exact h)
  rw [this]; rfl

theorem ne32 (b : UInt8) : ((b.toNat : Int) != 32) = !sp b := by
  unfold sp
  rw [Bool.eq_iff_iff]
  simp
  omega

set_option maxHeartbeats 400000 in
theorem specValue_any (s : ByteArray) (w : World) (hs : s.size ≤ maxLen) :
    Calls Tryd.prog 35 #[.string s] w fun e w' => e = .returned (.bool (vvalue s)) ∧ w = w' := by
  have HP := Lib.hid (specPrintable_any s w hs)
  unfold maxLen at hs
  by_cases hp : allB pr s = true
  · have H0 := Lib.hid hp
    rw [hp] at HP
    clear hp
    by_cases h4 : s.size ≤ 40
    · by_cases h0 : s.size = 0
      · have hl := toList_nil h0
        have HV : Hid (vvalue s = true) := by unfold vvalue Hid; rw [H0.out, edge_nil s h0]; simp [h4]
        clear h0
        go_enter Tryd.func35, Tryd.ntmps35
        go_wp2_with (go_at_call 47; refine (HP.out).mono ?_; rintro e w' ⟨rfl, rfl⟩)
        go_ret
        exact ⟨ret_bool HV.out.symm, rfl⟩
      · have h1 : 0 < s.size := by omega
        have hl := toList_ne h1
        have hl2 := isEmpty_ne h1
        have HV : Hid (vvalue s = (!sp (s[0]'h1) && !sp (s[s.size - 1]'(by omega)))) := by unfold vvalue Hid; rw [H0.out, edge_eq s h1]; simp [h4]
        clear h0
        go_enter Tryd.func35, Tryd.ntmps35
        go_wp2_with (go_at_call 47; refine (HP.out).mono ?_; rintro e w' ⟨rfl, rfl⟩)
        · go_ret
          exact ⟨ret_bool (by rw [HV.out, sp_yes (by omega)]; rfl), rfl⟩
        · go_ret
          exact ⟨ret_bool (by rw [HV.out, ← ne32, ← ne32]), rfl⟩
    · have HV : Hid (vvalue s = false) := by unfold vvalue Hid; simp [h4]
      go_enter Tryd.func35, Tryd.ntmps35
      go_wp2_with (go_at_call 47; refine (HP.out).mono ?_; rintro e w' ⟨rfl, rfl⟩)
      go_ret
      exact ⟨ret_bool HV.out.symm, rfl⟩
  · have hp' : allB pr s = false := by simpa using hp
    have HV : Hid (vvalue s = false) := by unfold vvalue Hid; rw [hp']; rfl
    rw [hp'] at HP
    clear hp hp'
    go_enter Tryd.func35, Tryd.ntmps35
    go_wp2_with (go_at_call 47; refine (HP.out).mono ?_; rintro e w' ⟨rfl, rfl⟩)
    go_ret
    exact ⟨ret_bool HV.out.symm, rfl⟩

theorem trim_self (s : ByteArray) : ((⟨(Lib.trimB s.data.toList 32).toArray⟩ : ByteArray).toList == s.toList) = edge s.data.toList := by
  rw [Lib.toList_data, Lib.toList_data]
  show ((Lib.trimB s.data.toList 32).toArray.toList == _) = _
  rw [List.toList_toArray, Bool.eq_iff_iff, beq_iff_eq]
  exact trimB_self _

set_option maxHeartbeats 400000 in
theorem implValue_any (s : ByteArray) (w : World) (hs : s.size ≤ maxLen) :
    Calls Tryd.prog 49 #[.string s] w fun e w' => e = .returned (.bool (vvalue s)) ∧ Grows w w' := by
  have HP := Lib.hid (fun w => implPrintable_any s w)
  unfold maxLen at hs
  have H1 := Lib.hid (trim_self s)
  obtain ⟨t, ht⟩ : ∃ t : ByteArray, t = ⟨(Lib.trimB s.data.toList 32).toArray⟩ := ⟨_, rfl⟩
  rw [← ht] at H1
  have hc := fun w => Tryd.strings_Trim_one s 32 (by decide) w hs
  rw [← ht] at hc
  have HC := Lib.hid hc
  clear ht hc
  by_cases h4 : s.size ≤ 40
  · by_cases hp : allB pr s = true
    · have HV : Hid (vvalue s = edge s.data.toList) := by unfold vvalue Hid; rw [hp]; simp [h4]
      rw [hp] at HP
      clear hp
      go_enter Tryd.func49, Tryd.ntmps49
      go_wp2_with (first | (go_at_call 58; refine (HP.out _).mono ?_; rintro e w1 ⟨rfl, hb⟩) | (go_at_call 59; refine (HC.out _).mono ?_; rintro e w2 ⟨rfl, hb2⟩))
      go_ret
      refine ⟨ret_bool (by rw [HV.out, ← H1.out]), ?_⟩
      exact hb.trans (below_or hb2)
    · have hp' : allB pr s = false := by simpa using hp
      have HV : Hid (vvalue s = false) := by unfold vvalue Hid; rw [hp']; rfl
      rw [hp'] at HP
      clear hp hp'
      go_enter Tryd.func49, Tryd.ntmps49
      go_wp2_with (first | (go_at_call 58; refine (HP.out _).mono ?_; rintro e w1 ⟨rfl, hb⟩) | (go_at_call 59; refine (HC.out _).mono ?_; rintro e w2 ⟨rfl, hb2⟩))
      go_ret
      exact ⟨ret_bool HV.out.symm, by assumption⟩
  · have HV : Hid (vvalue s = false) := by unfold vvalue Hid; simp [h4]
    go_enter Tryd.func49, Tryd.ntmps49
    go_wp2
    go_ret
    exact ⟨ret_bool HV.out.symm, Below.refl _ _⟩

/-- the place of the first byte '=', -1 if there is none -/
def eqIx (s : ByteArray) : Int := if eqAt s.data.toList < s.size then (eqAt s.data.toList : Int) else -1

theorem eqIx_yes {s : ByteArray} (h : eqAt s.data.toList < s.size) : eqIx s = eqAt s.data.toList := by rw [eqIx, if_pos h]
theorem eqIx_no {s : ByteArray} (h : ¬ eqAt s.data.toList < s.size) : eqIx s = -1 := by rw [eqIx, if_neg h]
theorem eqIx_index (s : ByteArray) : Lib.indexByte s.data.toList 61 = eqIx s := by rw [eqAt_index, eqIx, Lib.size_eq]
theorem eqIx_one {s : ByteArray} (h : s.toList = [61]) : eqIx s = 0 := by
  rw [← eqIx_index, ← Lib.toList_data, h]; rfl

theorem below_drewN {B : Nat} {a w : World} (h : Below B a w) (n : Nat) : Below B a (w.drewN n) := ⟨h.os, h.tape, h.output, h.size, h.block⟩
theorem vsep_yes {s : ByteArray} {k : Nat} (hk : k < s.size) (he : eqAt s.data.toList = k) : vsep s = (vspaces (s.extract 0 k) && vspaces (s.extract (k + 1) s.size)) := by
  unfold vsep
  rw [he, ← lspaces_eq, ← lspaces_eq, Lib.extract_data, Lib.extract_to_end]
  simp [hk]
theorem vsep_no {s : ByteArray} (he : ¬ eqAt s.data.toList < s.size) : vsep s = false := by
  unfold vsep
  simp [he]
theorem extract_le (s : ByteArray) (a b : Nat) : (s.extract a b).size ≤ s.size := by
  rw [ByteArray.size_extract]; omega

end Go.Proofs.YtkjoolmhcfajnaaDoor
namespace Go.Proofs.YtkjoolmhcfajnaaDoor
open Go.RowKit

/-- a line: its kind, what it begins with, its name, what separates, its value, what it ends with -/
structure Ln where
  k : Int
  le : ByteArray
  na : ByteArray
  se : ByteArray
  va : ByteArray
  ta : ByteArray
def Ln.cells (l : Ln) : List Value := [.int .i64 l.k, .string l.le, .string l.na, .string l.se, .string l.va, .string l.ta]
def Ln.agg (l : Ln) : Value := .agg #[.int .i64 l.k, .string l.le, .string l.na, .string l.se, .string l.va, .string l.ta]
/-- the parts' lengths fit an int -/
def Ln.fits (l : Ln) : Prop := l.le.size ≤ maxLen ∧ l.na.size ≤ 1048576 ∧ l.se.size ≤ maxLen ∧ l.va.size ≤ maxLen ∧ l.ta.size ≤ maxLen

def nul (s : ByteArray) : Bool := s.toList.isEmpty
/-- the value of a note -/
def vnote (s : ByteArray) : Bool := allB pr s && ((decide (1 ≤ s.size) && decide (s.size ≤ 40)) && decide (s.data.toList.head? = some 35))
def vline (l : Ln) : Bool :=
  vspaces l.le && (
    if l.k = 0 then nul l.na && (nul l.se && (nul l.va && nul l.ta))
    else if l.k = 1 then nul l.na && (nul l.se && (nul l.ta && vnote l.va))
    else if l.k = 2 then vname l.na && (nul l.se && (nul l.va && vspaces l.ta))
    else if l.k = 3 then vname l.na && (vsep l.se && (vvalue l.va && (vspaces l.ta && (!nul l.va || nul l.ta))))
    else false)

theorem vnote_head (s : ByteArray) (h : 0 < s.size) : decide (s.data.toList.head? = some 35) = (((s[0]'h).toNat : Int) == 35) := by
  rw [head_eq s h, Bool.eq_iff_iff, decide_eq_true_iff, beq_iff_eq, Option.some.injEq]
  exact ⟨fun e => by rw [e]; rfl, fun e => UInt8.toNat_inj.1 (by show _ = 35; omega)⟩

end Go.Proofs.YtkjoolmhcfajnaaDoor
namespace Go.Proofs.YtkjoolmhcfajnaaDoor
open Go.RowKit

end Go.Proofs.YtkjoolmhcfajnaaDoor
namespace Go.Proofs.YtkjoolmhcfajnaaDoor
open Go.RowKit

end Go.Proofs.YtkjoolmhcfajnaaDoor
namespace Go.Proofs.YtkjoolmhcfajnaaDoor
open Go.RowKit

theorem Grows.bc {a b : World} (h : Grows a b) : ∀ k o, k < a.heap.size → b.cell? ⟨k, o, none⟩ = a.cell? ⟨k, o, none⟩ := fun k o hk => Below.cell (p := ⟨k, o, none⟩) h hk

theorem vnote_eq (s : ByteArray) : vnote s = (Lib.hasPrefix s.data.toList [35] && (decide (s.size ≤ 40) && allB pr s)) := by
  have h1 : Lib.hasPrefix s.data.toList [35] = (decide (1 ≤ s.size) && decide (s.data.toList.head? = some 35)) := by
    rw [Lib.size_eq]
    unfold Lib.hasPrefix
    cases s.data.toList with
    | nil => rfl
    | cons b t =>
      have : (35 == b) = decide (b = 35) := by rw [Bool.eq_iff_iff, beq_iff_eq, decide_eq_true_iff]; exact eq_comm
      simp [List.isPrefixOf, this]
  unfold vnote
  rw [h1]
  cases allB pr s <;> cases decide (1 ≤ s.size) <;> cases decide (s.size ≤ 40) <;> cases decide (s.data.toList.head? = some 35) <;> rfl

end Go.Proofs.YtkjoolmhcfajnaaDoor
namespace Go.Proofs.YtkjoolmhcfajnaaDoor
open Go.RowKit

/-- two lines are the same in every part -/
def Ln.same (a b : Ln) : Bool := (a.k == b.k) && ((a.le.toList == b.le.toList) && ((a.na.toList == b.na.toList) && ((a.se.toList == b.se.toList) && ((a.va.toList == b.va.toList) && (a.ta.toList == b.ta.toList)))))
end Go.Proofs.YtkjoolmhcfajnaaDoor
