/-
  The two tests of names, spec.validName (and spec.ValidName) and impl.ValidName, both return one plain test of the bytes, and write nothing that was there.
-/
import Derived.Test.YtpffgpjiggdioaaProg
import Derived.WalkKit
import Derived.WalkSpells
import Derived.WalkLawsBesides
import Derived.Deep.QuietTactic
import Derived.BigQuiet
import Derived.Lib.Hide
import Derived.Lib.Strings
namespace Go.Proofs.Ytpffgpjiggdioaa
open Go.RowKit

/-- a letter from a to z -/
def letter (b : UInt8) : Bool := decide (97 ≤ b.toNat) && decide (b.toNat ≤ 122)
/-- the first k bytes are letters -/
def Letters (s : ByteArray) (k : Nat) : Prop := ∀ j (h : j < s.size), j < k → letter s[j] = true
/-- all bytes are letters -/
def letters (s : ByteArray) : Bool := s.data.toList.all letter
/-- what a name is -/
def vname (s : ByteArray) : Bool := letters s && (decide (1 ≤ s.size) && decide (s.size ≤ 8))

theorem letters_of {s : ByteArray} (h : Letters s s.size) : letters s = true := by
  unfold letters
  rw [List.all_eq_true]
  intro b hb
  obtain ⟨j, hj, rfl⟩ := List.getElem_of_mem hb
  have hj' : j < s.size := by simpa using hj
  exact h j hj' hj'
theorem letters_not {s : ByteArray} {k : Nat} (hk : k < s.size) (h : letter s[k] = false) : letters s = false := by
  unfold letters
  rw [← Bool.not_eq_true, List.all_eq_true]
  intro hall
  have hm : s[k] ∈ s.data.toList := by
    have : s[k] = s.data.toList[k]'(by simpa using hk) := rfl
    rw [this]
    exact List.getElem_mem _
  have := hall _ hm
  rw [this] at h
  cases h
theorem Letters.zero (s : ByteArray) : Letters s 0 := fun _ _ h => absurd h (Nat.not_lt_zero _)
theorem Letters.succ {s : ByteArray} {k : Nat} (h : Letters s k) (hk : k < s.size) (hl : letter s[k] = true) : Letters s (k + 1) := by
  intro j hj hjk
  by_cases e : j = k
  · subst e; exact hl
  · exact h j hj (by omega)
theorem letter_yes {b : UInt8} (h1 : 97 ≤ b.toNat) (h2 : b.toNat ≤ 122) : letter b = true := by simp [letter, h1, h2]
theorem letter_no {b : UInt8} (h : b.toNat < 97 ∨ 122 < b.toNat) : letter b = false := by
  unfold letter
  rw [Bool.and_eq_false_iff, decide_eq_false_iff_not, decide_eq_false_iff_not]
  omega

theorem ret_bool {a b : Bool} (h : a = b) : Ending.returned (.bool a) = .returned (.bool b) := by rw [h]

set_option maxHeartbeats 400000 in
theorem specName_any (s : ByteArray) (w : World) (hs : s.size ≤ 1048576) :
    Calls Try.prog 41 #[.string s] w fun e w' => e = .returned (.bool (vname s)) ∧ w = w' := by
  go_enter Try.func41, Try.ntmps41
  go_wp2
  go_loop [3] (fun i => ∃ k : Nat, k ≤ s.size ∧ i = .int .i64 k ∧ Letters s k) (fun i => s.size - (intOf i).toNat)
  case atStart => exact ⟨0, Nat.zero_le _, rfl, Letters.zero s⟩
  case round =>
    obtain ⟨k, hk, rfl, hL⟩ := hrel
    by_cases hlt : k < s.size
    · go_wp2
      · go_ret
        exact ⟨ret_bool (by rw [vname, letters_not hlt (letter_no (by omega))]; rfl), rfl⟩
      · go_round
        case rel => exact ⟨k + 1, by omega, by go_num, hL.succ hlt (letter_yes (by omega) (by omega))⟩
        case measure => simp [intOf]; omega
      · go_ret
        exact ⟨ret_bool (by rw [vname, letters_not hlt (letter_no (by omega))]; rfl), rfl⟩
    · obtain rfl : k = s.size := by omega
      have HV : Hid (vname s = (decide (1 ≤ s.size) && decide (s.size ≤ 8))) := by unfold vname; rw [letters_of hL]; rfl
      go_wp2
      all_goals
        go_ret
        exact ⟨ret_bool (by rw [HV.out, Bool.eq_iff_iff]; simp; try omega), rfl⟩

set_option maxHeartbeats 400000 in
theorem specValidName_any (s : ByteArray) (w : World) (hs : s.size ≤ 1048576) :
    Calls Try.prog 13 #[.string s] w fun e w' => e = .returned (.bool (vname s)) ∧ w = w' := by
  go_enter Try.func13, Try.ntmps13
  go_wp2_with (go_at_call 41; refine (specName_any _ _ hs).mono ?_; rintro e w' ⟨rfl, rfl⟩)
  go_ret
  exact ⟨rfl, rfl⟩

theorem width_pos (s : ByteArray) (pos : Nat) (h : pos < s.size) : 1 ≤ (Utf8.decode s pos).2 := by
  by_cases ha : (s[pos]'h).toNat < 128
  · rw [decode_ascii s pos h ha]
    exact Nat.le_refl _
  · exact (decode_high s pos h (by omega)).2
theorem below_iter (w : World) (s : ByteArray) (pos : Nat) : Below w.heap.size w (w.iter s pos) := (Below.refl _ _).alloc (Nat.le_refl _) _

theorem toList_length (s : ByteArray) : s.toList.length = s.size := by rw [Lib.toList_data]; simp
theorem toList_nil {s : ByteArray} (h : s.size = 0) : s.toList = [] := List.eq_nil_of_length_eq_zero (by rw [toList_length, h])
theorem toList_ne {s : ByteArray} (h : 0 < s.size) : ¬ s.toList = [] := fun e => by
  have := toList_length s
  rw [e] at this
  simp at this; omega
theorem isEmpty_ne {s : ByteArray} (h : 0 < s.size) : s.toList.isEmpty = false := by
  have := toList_ne h
  simpa using this
theorem vname_size {s : ByteArray} (h : s.size = 0 ∨ 8 < s.size) : vname s = false := by
  unfold vname
  have : (decide (1 ≤ s.size) && decide (s.size ≤ 8)) = false := by
    rw [Bool.and_eq_false_iff, decide_eq_false_iff_not, decide_eq_false_iff_not]; omega
  rw [this, Bool.and_false]
theorem vname_in {s : ByteArray} (h : 0 < s.size) (h8 : s.size ≤ 8) : vname s = letters s := by
  unfold vname
  have : (decide (1 ≤ s.size) && decide (s.size ≤ 8)) = true := by
    rw [Bool.and_eq_true, decide_eq_true_iff, decide_eq_true_iff]; omega
  rw [this, Bool.and_true]

/-- where a byte is no letter, the rune that is read there is none -/
theorem rune_letter {s : ByteArray} {pos : Nat} (h : pos < s.size) (h1 : 97 ≤ (Utf8.decode s pos).1) (h2 : (Utf8.decode s pos).1 ≤ 122) :
    letter (s[pos]'h) = true ∧ (Utf8.decode s pos).2 = 1 := by
  by_cases ha : (s[pos]'h).toNat < 128
  · rw [decode_ascii s pos h ha] at h1 h2 ⊢
    exact ⟨letter_yes h1 h2, rfl⟩
  · have := (decode_high s pos h (by omega)).1
    omega
theorem rune_no_letter {s : ByteArray} {pos : Nat} (h : pos < s.size) (h1 : (Utf8.decode s pos).1 < 97 ∨ 122 < (Utf8.decode s pos).1) :
    letter (s[pos]'h) = false := by
  by_cases ha : (s[pos]'h).toNat < 128
  · rw [decode_ascii s pos h ha] at h1
    exact letter_no h1
  · exact letter_no (by omega)

set_option maxHeartbeats 400000 in
theorem implName_out (s : ByteArray) (w : World) (h8 : s.size = 0 ∨ 8 < s.size) (hs : s.size ≤ 1048576) :
    Calls Try.prog 14 #[.string s] w fun e w' => e = .returned (.bool (vname s)) ∧ Below w.heap.size w w' := by
  have HV : Hid (vname s = false) := vname_size h8
  rcases h8 with h8 | h8
  · have hl := toList_nil h8
    clear h8
    go_enter Try.func14, Try.ntmps14
    go_wp2
    go_ret
    exact ⟨ret_bool HV.out.symm, Below.refl _ _⟩
  · have hl := toList_ne (s := s) (by omega)
    have hl2 := isEmpty_ne (s := s) (by omega)
    go_enter Try.func14, Try.ntmps14
    go_wp2
    go_ret
    exact ⟨ret_bool HV.out.symm, Below.refl _ _⟩

set_option maxHeartbeats 400000 in
theorem implName_in (s : ByteArray) (w : World) (h1 : 0 < s.size) (h8 : s.size ≤ 8) :
    Calls Try.prog 14 #[.string s] w fun e w' => e = .returned (.bool (vname s)) ∧ Below w.heap.size w w' := by
  have HV : Hid (vname s = letters s) := vname_in h1 h8
  have hl := toList_ne h1
  have hl2 := isEmpty_ne h1
  go_enter Try.func14, Try.ntmps14
  go_wp2
  go_loopw [4] (fun _ w' => ∃ pos : Nat, w' = w.iter s pos ∧ pos ≤ s.size ∧ Letters s pos) (fun _ w' => s.size - w'.iterPos w.heap.size)
  case atStart => exact ⟨0, rfl, by omega, Letters.zero s⟩
  case round =>
    obtain ⟨pos, rfl, hpos, hL⟩ := hrel
    by_cases hp : pos < s.size
    · have hnx : ∀ ty, (Instr.next (.pointer (some ⟨w.heap.size, 0, none⟩)) true ty).run Try.prog (w.iter s pos) = _ := fun ty => run_next_any w s pos ty hp
      go_wp2
      · go_ret
        exact ⟨ret_bool (by rw [HV.out, letters_not hp (rune_no_letter hp (by omega))]), below_iter _ _ _⟩
      · have hl := rune_letter hp (by omega) (by omega)
        go_roundw
        case rel => exact ⟨pos + 1, by rw [hl.2], by omega, hL.succ hp hl.1⟩
        case measure => rw [World.iterPos_iter, World.iterPos_iter, hl.2]; omega
      · go_ret
        exact ⟨ret_bool (by rw [HV.out, letters_not hp (rune_no_letter hp (by omega))]), below_iter _ _ _⟩
    · have hnx : ∀ ty, (Instr.next (.pointer (some ⟨w.heap.size, 0, none⟩)) true ty).run Try.prog (w.iter s pos) = _ := fun ty => run_next_end w s pos ty hp
      obtain rfl : pos = s.size := by omega
      have HW : Hid (vname s = true) := by unfold Hid; rw [HV.out, letters_of hL]
      go_wp2
      go_ret
      exact ⟨ret_bool HW.out.symm, below_iter _ _ _⟩

theorem implName_any (s : ByteArray) (w : World) (hs : s.size ≤ 1048576) :
    Calls Try.prog 14 #[.string s] w fun e w' => e = .returned (.bool (vname s)) ∧ Below w.heap.size w w' := by
  by_cases h0 : s.size = 0 ∨ 8 < s.size
  · exact implName_out s w h0 hs
  · exact implName_in s w (by omega) (by omega)

set_option maxHeartbeats 400000 in
theorem lawName_any (s : ByteArray) (w : World) (hs : s.size ≤ maxLen) :
    Calls Try.prog 3 #[.string s] w fun e w' => e = .returned (.bool true) ∧ Below w.heap.size w w' := by
  unfold maxLen at hs
  by_cases h0 : s.size ≤ 1048576
  · go_enter Try.func3, Try.ntmps3
    go_wp2_with (first | (go_at_call 13; refine (specValidName_any _ _ (by assumption)).mono ?_; rintro e w' ⟨rfl, rfl⟩) | (go_at_call 14; refine (implName_any _ _ (by assumption)).mono ?_; rintro e w1 ⟨rfl, hb⟩))
    go_ret
    exact ⟨rfl, by assumption⟩
  · go_enter Try.func3, Try.ntmps3
    go_wp2
    go_ret
    exact ⟨rfl, Below.refl _ _⟩
end Go.Proofs.Ytpffgpjiggdioaa
