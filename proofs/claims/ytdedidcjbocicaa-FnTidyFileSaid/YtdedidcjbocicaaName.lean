/-
  The two tests of names, spec.validName (and spec.ValidName) and impl.ValidName, both return one plain test of the bytes, and write nothing that was there.
-/
import Derived.Test.YtdedidcjbocicaaProg
import Derived.Test.YtdedidcjbocicaaPure
import Derived.WalkKit
import Derived.WalkSpells
import Derived.WalkLawsBesides
import Derived.Deep.QuietTactic
import Derived.BigQuiet
import Derived.Lib.Hide
import Derived.Lib.Strings
namespace Go.Proofs.Ytdedidcjbocicaa
open Go.RowKit

set_option maxHeartbeats 400000 in
theorem specName_any (s : ByteArray) (w : World) (hs : s.size ≤ 1048576) :
    Calls Try.prog 62 #[.string s] w fun e w' => e = .returned (.bool (vname s)) ∧ w = w' := by
  go_enter Try.func62, Try.ntmps62
  go_wp2
  go_loop [3] (fun i => ∃ k : Nat, k ≤ s.size ∧ i = .int .i64 k ∧ Upto letter s k) (fun i => s.size - (intOf i).toNat)
  case atStart => exact ⟨0, Nat.zero_le _, rfl, Upto.zero _ s⟩
  case round =>
    obtain ⟨k, hk, rfl, hL⟩ := hrel
    by_cases hlt : k < s.size
    · go_wp2
      · go_ret
        exact ⟨ret_bool (by rw [vname, allB_not hlt (letter_no (by omega))]; rfl), rfl⟩
      · go_round
        case rel => exact ⟨k + 1, by omega, by go_num, hL.succ hlt (letter_yes (by omega) (by omega))⟩
        case measure => simp [intOf]; omega
      · go_ret
        exact ⟨ret_bool (by rw [vname, allB_not hlt (letter_no (by omega))]; rfl), rfl⟩
    · obtain rfl : k = s.size := by omega
      have HV : Hid (vname s = (decide (1 ≤ s.size) && decide (s.size ≤ 8))) := by unfold vname; rw [Upto.all hL]; rfl
      go_wp2
      all_goals
        go_ret
        exact ⟨ret_bool (by rw [HV.out, Bool.eq_iff_iff]; simp; try omega), rfl⟩

set_option maxHeartbeats 400000 in
theorem implName_out (s : ByteArray) (w : World) (h8 : s.size = 0 ∨ 8 < s.size) (hs : s.size ≤ 1048576) :
    Calls Try.prog 84 #[.string s] w fun e w' => e = .returned (.bool (vname s)) ∧ Grows w w' := by
  have HV : Hid (vname s = false) := vname_size h8
  rcases h8 with h8 | h8
  · have hl := toList_nil h8
    clear h8
    go_enter Try.func84, Try.ntmps84
    go_wp2
    go_ret
    exact ⟨ret_bool HV.out.symm, Below.refl _ _⟩
  · have hl := toList_ne (s := s) (by omega)
    have hl2 := isEmpty_ne (s := s) (by omega)
    go_enter Try.func84, Try.ntmps84
    go_wp2
    go_ret
    exact ⟨ret_bool HV.out.symm, Below.refl _ _⟩

set_option maxHeartbeats 400000 in
theorem implName_in (s : ByteArray) (w : World) (h1 : 0 < s.size) (h8 : s.size ≤ 8) :
    Calls Try.prog 84 #[.string s] w fun e w' => e = .returned (.bool (vname s)) ∧ Grows w w' := by
  have HV : Hid (vname s = allB letter s) := vname_in h1 h8
  have hl := toList_ne h1
  have hl2 := isEmpty_ne h1
  go_enter Try.func84, Try.ntmps84
  go_wp2
  go_loopw [4] (fun _ w' => ∃ pos : Nat, w' = w.iter s pos ∧ pos ≤ s.size ∧ Upto letter s pos) (fun _ w' => s.size - w'.iterPos w.heap.size)
  case atStart => exact ⟨0, rfl, by omega, Upto.zero _ s⟩
  case round =>
    obtain ⟨pos, rfl, hpos, hL⟩ := hrel
    by_cases hp : pos < s.size
    · have hnx : ∀ ty, (Instr.next (.pointer (some ⟨w.heap.size, 0, none⟩)) true ty).run Try.prog (w.iter s pos) = _ := fun ty => run_next_any w s pos ty hp
      go_wp2
      · go_ret
        exact ⟨ret_bool (by rw [HV.out, allB_not hp (rune_no_letter hp (by omega))]), below_iter _ _ _⟩
      · have hl := rune_letter hp (by omega) (by omega)
        go_roundw
        case rel => exact ⟨pos + 1, by rw [hl.2], by omega, hL.succ hp hl.1⟩
        case measure => rw [World.iterPos_iter, World.iterPos_iter, hl.2]; omega
      · go_ret
        exact ⟨ret_bool (by rw [HV.out, allB_not hp (rune_no_letter hp (by omega))]), below_iter _ _ _⟩
    · have hnx : ∀ ty, (Instr.next (.pointer (some ⟨w.heap.size, 0, none⟩)) true ty).run Try.prog (w.iter s pos) = _ := fun ty => run_next_end w s pos ty hp
      obtain rfl : pos = s.size := by omega
      have HW : Hid (vname s = true) := by unfold Hid; rw [HV.out, Upto.all hL]
      go_wp2
      go_ret
      exact ⟨ret_bool HW.out.symm, below_iter _ _ _⟩

theorem implName_any (s : ByteArray) (w : World) (hs : s.size ≤ 1048576) :
    Calls Try.prog 84 #[.string s] w fun e w' => e = .returned (.bool (vname s)) ∧ Grows w w' := by
  by_cases h0 : s.size = 0 ∨ 8 < s.size
  · exact implName_out s w h0 hs
  · exact implName_in s w (by omega) (by omega)

end Go.Proofs.Ytdedidcjbocicaa
