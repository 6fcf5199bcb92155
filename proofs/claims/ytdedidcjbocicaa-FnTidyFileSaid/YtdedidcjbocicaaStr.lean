/-
  What the tests of texts return: spaces, printable, indexOf, validValue of the specification; fewSpaces, printable, validSep, ValidValue of the program. Conditions: texts shorter than 4294967281 bytes.
-/
import Derived.Test.YtdedidcjbocicaaProg
import Derived.Test.YtdedidcjbocicaaPure
import Derived.Test.YtdedidcjbocicaaShelf
import Derived.Test.YtdedidcjbocicaaName
import Derived.WalkKit
import Derived.WalkSpells
import Derived.WalkLawsBesides
import Derived.Deep.QuietTactic
import Derived.BigQuiet
namespace Go.Proofs.Ytdedidcjbocicaa
open Go.RowKit

set_option maxHeartbeats 400000 in
theorem specSpaces_any (s : ByteArray) (w : World) (hs : s.size ≤ maxLen) :
    Calls Try.prog 59 #[.string s] w fun e w' => e = .returned (.bool (vspaces s)) ∧ w = w' := by
  unfold maxLen at hs
  go_enter Try.func59, Try.ntmps59
  go_wp2
  go_loop [3] (fun i => ∃ k : Nat, k ≤ s.size ∧ i = .int .i64 k ∧ Upto sp s k) (fun i => s.size - (intOf i).toNat)
  case atStart => exact ⟨0, Nat.zero_le _, rfl, Upto.zero _ s⟩
  case round =>
    obtain ⟨k, hk, rfl, hL⟩ := hrel
    by_cases hlt : k < s.size
    · by_cases h32 : (s[k]).toNat = 32
      · have hB : (((s[k]).toNat : Int) == 32) = true := by simp [h32]
        have hB' : (((s[k]).toNat : Int) != 32) = false := by simp [h32]
        have H := Lib.hid h32
        clear h32
        go_wp2
        go_round
        case rel => exact ⟨k + 1, by omega, by go_num, hL.succ hlt (sp_yes H.out)⟩
        case measure => simp [intOf]; omega
      · have hB' : (((s[k]).toNat : Int) != 32) = true := by simp; omega
        have H := Lib.hid h32
        clear h32
        go_wp2
        go_ret
        exact ⟨ret_bool (by rw [vspaces, allB_not hlt (sp_no H.out)]; rfl), rfl⟩
    · obtain rfl : k = s.size := by omega
      have HV : Hid (vspaces s = decide (s.size ≤ 4)) := by unfold vspaces; rw [Upto.all hL]; rfl
      go_wp2
      go_ret
      exact ⟨ret_bool (by rw [HV.out, Bool.eq_iff_iff]; simp; omega), rfl⟩

set_option maxHeartbeats 400000 in
theorem specPrintable_any (s : ByteArray) (w : World) (hs : s.size ≤ maxLen) :
    Calls Try.prog 60 #[.string s] w fun e w' => e = .returned (.bool (allB pr s)) ∧ w = w' := by
  unfold maxLen at hs
  go_enter Try.func60, Try.ntmps60
  go_wp2
  go_loop [3] (fun i => ∃ k : Nat, k ≤ s.size ∧ i = .int .i64 k ∧ Upto pr s k) (fun i => s.size - (intOf i).toNat)
  case atStart => exact ⟨0, Nat.zero_le _, rfl, Upto.zero _ s⟩
  case round =>
    obtain ⟨k, hk, rfl, hL⟩ := hrel
    by_cases hlt : k < s.size
    · go_wp2
      · go_ret
        exact ⟨ret_bool (by rw [allB_not hlt (pr_no (by omega))]), rfl⟩
      · go_round
        case rel => exact ⟨k + 1, by omega, by go_num, hL.succ hlt (pr_yes (by omega) (by omega))⟩
        case measure => simp [intOf]; omega
      · go_ret
        exact ⟨ret_bool (by rw [allB_not hlt (pr_no (by omega))]), rfl⟩
    · obtain rfl : k = s.size := by omega
      have HV : Hid (allB pr s = true) := Upto.all hL
      go_wp2
      go_ret
      exact ⟨ret_bool HV.out.symm, rfl⟩

set_option maxHeartbeats 400000 in
theorem implPrintable_any (s : ByteArray) (w : World) :
    Calls Try.prog 110 #[.string s] w fun e w' => e = .returned (.bool (allB pr s)) ∧ Grows w w' := by
  go_enter Try.func110, Try.ntmps110
  go_wp2
  go_loopw [4] (fun _ w' => ∃ pos : Nat, w' = w.iter s pos ∧ pos ≤ s.size ∧ Upto pr s pos) (fun _ w' => s.size - w'.iterPos w.heap.size)
  case atStart => exact ⟨0, rfl, by omega, Upto.zero _ s⟩
  case round =>
    obtain ⟨pos, rfl, hpos, hL⟩ := hrel
    by_cases hp : pos < s.size
    · have hnx : ∀ ty, (Instr.next (.pointer (some ⟨w.heap.size, 0, none⟩)) true ty).run Try.prog (w.iter s pos) = _ := fun ty => run_next_any w s pos ty hp
      go_wp2
      · go_ret
        exact ⟨ret_bool (by rw [allB_not hp (rune_no_pr hp (by omega))]), below_iter _ _ _⟩
      · have hl := rune_pr hp (by omega) (by omega)
        go_roundw
        case rel => exact ⟨pos + 1, by rw [hl.2], by omega, hL.succ hp hl.1⟩
        case measure => rw [World.iterPos_iter, World.iterPos_iter, hl.2]; omega
      · go_ret
        exact ⟨ret_bool (by rw [allB_not hp (rune_no_pr hp (by omega))]), below_iter _ _ _⟩
    · have hnx : ∀ ty, (Instr.next (.pointer (some ⟨w.heap.size, 0, none⟩)) true ty).run Try.prog (w.iter s pos) = _ := fun ty => run_next_end w s pos ty hp
      obtain rfl : pos = s.size := by omega
      have HW : Hid (allB pr s = true) := Upto.all hL
      go_wp2
      go_ret
      exact ⟨ret_bool HW.out.symm, below_iter _ _ _⟩

theorem fewSpaces_pure (s : ByteArray) : ((⟨(Lib.trimB s.data.toList 32).toArray⟩ : ByteArray).toList = [] ↔ allB sp s = true) := by
  rw [Lib.toList_data]
  show (Lib.trimB s.data.toList 32).toArray.toList = [] ↔ _
  rw [List.toList_toArray]
  exact trimB_nil _

/-- a draw more or none -/
theorem below_or {w w' : World} (h : w' = w ∨ w' = w.drew) : Grows w w' := by
  rcases h with rfl | rfl
  · exact Below.refl _ _
  · exact (Below.refl _ _).drew

set_option maxHeartbeats 400000 in
theorem fewSpaces_any (s : ByteArray) (w : World) (hs : s.size ≤ maxLen) :
    Calls Try.prog 83 #[.string s] w fun e w' => e = .returned (.bool (vspaces s)) ∧ Grows w w' := by
  unfold maxLen at hs
  have H1 := Lib.hid (fewSpaces_pure s)
  obtain ⟨t, ht⟩ : ∃ t : ByteArray, t = ⟨(Lib.trimB s.data.toList 32).toArray⟩ := ⟨_, rfl⟩
  rw [← ht] at H1
  have hc := Try.strings_Trim_one s 32 (by decide) w hs
  rw [← ht] at hc
  have HC := Lib.hid hc
  clear ht hc
  by_cases h4 : s.size ≤ 4
  · have HV : Hid (vspaces s = allB sp s) := by unfold vspaces Hid; simp [h4]
    go_enter Try.func83, Try.ntmps83
    go_wp2_with (go_at_call 85; refine (HC.out).mono ?_; rintro e w' ⟨rfl, hb⟩)
    go_ret
    exact ⟨ret_bool (by rw [HV.out, Bool.eq_iff_iff, ← H1.out]; simp), below_or (by assumption)⟩
  · have HV : Hid (vspaces s = false) := by unfold vspaces Hid; simp [h4]
    go_enter Try.func83, Try.ntmps83
    go_wp2
    go_ret
    exact ⟨ret_bool HV.out.symm, Below.refl _ _⟩

/-- the last byte of a text -/
theorem getLast_eq (s : ByteArray) (h : 0 < s.size) : s.data.toList.getLast? = some (s[s.size - 1]'(by omega)) := by
  rw [List.getLast?_eq_getElem?, ← Lib.size_eq]
  exact Lib.data_getElem? s _ (by omega)
theorem head_eq (s : ByteArray) (h : 0 < s.size) : s.data.toList.head? = some (s[0]'h) := by
  rw [List.head?_eq_getElem?]
  exact Lib.data_getElem? s _ (by omega)
theorem edge_eq (s : ByteArray) (h : 0 < s.size) : edge s.data.toList = (!sp (s[0]'h) && !sp (s[s.size - 1]'(by omega))) := by
  have h32 : ∀ b : UInt8, decide (some b ≠ some (32 : UInt8)) = !sp b := by
    intro b
    rw [← eq32, Bool.eq_iff_iff, decide_eq_true_iff]
    simp
  unfold edge
  rw [head_eq s h, getLast_eq s h, h32, h32]
theorem edge_nil (s : ByteArray) (h : s.size = 0) : edge s.data.toList = true := by
  have : s.data.toList = [] := List.eq_nil_of_length_eq_zero (by rw [← Lib.size_eq]; exact h)
  rw [this]; rfl

theorem ne32 (b : UInt8) : ((b.toNat : Int) != 32) = !sp b := by
  unfold sp
  rw [Bool.eq_iff_iff]
  simp
  omega

set_option maxHeartbeats 400000 in
theorem specValue_any (s : ByteArray) (w : World) (hs : s.size ≤ maxLen) :
    Calls Try.prog 64 #[.string s] w fun e w' => e = .returned (.bool (vvalue s)) ∧ w = w' := by
  have HP := Lib.hid (specPrintable_any s w hs)
  unfold maxLen at hs
  by_cases hp : allB pr s = true
  · have H0 := Lib.hid hp
    rw [hp] at HP
    clear hp
    by_cases h4 : s.size ≤ 40
    · by_cases h0 : s.size = 0
      · have hl := toList_nil h0
        have HV : Hid (vvalue s = true) := by unfold vvalue Hid; rw [H0.out, edge_nil s h0]; simp [h4]
        clear h0
        go_enter Try.func64, Try.ntmps64
        go_wp2_with (go_at_call 60; refine (HP.out).mono ?_; rintro e w' ⟨rfl, rfl⟩)
        go_ret
        exact ⟨ret_bool HV.out.symm, rfl⟩
      · have h1 : 0 < s.size := by omega
        have hl := toList_ne h1
        have hl2 := isEmpty_ne h1
        have HV : Hid (vvalue s = (!sp (s[0]'h1) && !sp (s[s.size - 1]'(by omega)))) := by unfold vvalue Hid; rw [H0.out, edge_eq s h1]; simp [h4]
        clear h0
        go_enter Try.func64, Try.ntmps64
        go_wp2_with (go_at_call 60; refine (HP.out).mono ?_; rintro e w' ⟨rfl, rfl⟩)
        · go_ret
          exact ⟨ret_bool (by rw [HV.out, sp_yes (by omega)]; rfl), rfl⟩
        · go_ret
          exact ⟨ret_bool (by rw [HV.out, ← ne32, ← ne32]), rfl⟩
    · have HV : Hid (vvalue s = false) := by unfold vvalue Hid; simp [h4]
      go_enter Try.func64, Try.ntmps64
      go_wp2_with (go_at_call 60; refine (HP.out).mono ?_; rintro e w' ⟨rfl, rfl⟩)
      go_ret
      exact ⟨ret_bool HV.out.symm, rfl⟩
  · have hp' : allB pr s = false := by simpa using hp
    have HV : Hid (vvalue s = false) := by unfold vvalue Hid; rw [hp']; rfl
    rw [hp'] at HP
    clear hp hp'
    go_enter Try.func64, Try.ntmps64
    go_wp2_with (go_at_call 60; refine (HP.out).mono ?_; rintro e w' ⟨rfl, rfl⟩)
    go_ret
    exact ⟨ret_bool HV.out.symm, rfl⟩

theorem trim_self (s : ByteArray) : ((⟨(Lib.trimB s.data.toList 32).toArray⟩ : ByteArray).toList == s.toList) = edge s.data.toList := by
  rw [Lib.toList_data, Lib.toList_data]
  show ((Lib.trimB s.data.toList 32).toArray.toList == _) = _
  rw [List.toList_toArray, Bool.eq_iff_iff, beq_iff_eq]
  exact trimB_self _

set_option maxHeartbeats 400000 in
theorem implValue_any (s : ByteArray) (w : World) (hs : s.size ≤ maxLen) :
    Calls Try.prog 108 #[.string s] w fun e w' => e = .returned (.bool (vvalue s)) ∧ Grows w w' := by
  have HP := Lib.hid (fun w => implPrintable_any s w)
  unfold maxLen at hs
  have H1 := Lib.hid (trim_self s)
  obtain ⟨t, ht⟩ : ∃ t : ByteArray, t = ⟨(Lib.trimB s.data.toList 32).toArray⟩ := ⟨_, rfl⟩
  rw [← ht] at H1
  have hc := fun w => Try.strings_Trim_one s 32 (by decide) w hs
  rw [← ht] at hc
  have HC := Lib.hid hc
  clear ht hc
  by_cases h4 : s.size ≤ 40
  · by_cases hp : allB pr s = true
    · have HV : Hid (vvalue s = edge s.data.toList) := by unfold vvalue Hid; rw [hp]; simp [h4]
      rw [hp] at HP
      clear hp
      go_enter Try.func108, Try.ntmps108
      go_wp2_with (first | (go_at_call 110; refine (HP.out _).mono ?_; rintro e w1 ⟨rfl, hb⟩) | (go_at_call 85; refine (HC.out _).mono ?_; rintro e w2 ⟨rfl, hb2⟩))
      go_ret
      refine ⟨ret_bool (by rw [HV.out, ← H1.out]), ?_⟩
      exact hb.trans (below_or hb2)
    · have hp' : allB pr s = false := by simpa using hp
      have HV : Hid (vvalue s = false) := by unfold vvalue Hid; rw [hp']; rfl
      rw [hp'] at HP
      clear hp hp'
      go_enter Try.func108, Try.ntmps108
      go_wp2_with (first | (go_at_call 110; refine (HP.out _).mono ?_; rintro e w1 ⟨rfl, hb⟩) | (go_at_call 85; refine (HC.out _).mono ?_; rintro e w2 ⟨rfl, hb2⟩))
      go_ret
      exact ⟨ret_bool HV.out.symm, by assumption⟩
  · have HV : Hid (vvalue s = false) := by unfold vvalue Hid; simp [h4]
    go_enter Try.func108, Try.ntmps108
    go_wp2
    go_ret
    exact ⟨ret_bool HV.out.symm, Below.refl _ _⟩

/-- the place of the first byte '=', -1 if there is none -/
def eqIx (s : ByteArray) : Int := if eqAt s.data.toList < s.size then (eqAt s.data.toList : Int) else -1

set_option maxHeartbeats 400000 in
theorem specIndexOf_any (s : ByteArray) (w : World) (hs : s.size ≤ maxLen) :
    Calls Try.prog 63 #[.string s, .int .u8 61] w fun e w' => e = .returned (.int .i64 (eqIx s)) ∧ w = w' := by
  unfold maxLen at hs
  go_enter Try.func63, Try.ntmps63
  go_wp2
  go_loop [5] (fun i => ∃ k : Nat, k ≤ s.size ∧ i = .int .i64 k ∧ Upto (fun b => decide (b.toNat ≠ 61)) s k) (fun i => s.size - (intOf i).toNat)
  case atStart => exact ⟨0, Nat.zero_le _, rfl, Upto.zero _ s⟩
  case round =>
    obtain ⟨k, hk, rfl, hL⟩ := hrel
    have HL := Lib.hid hL
    clear hL
    by_cases hlt : k < s.size
    · by_cases h61 : (s[k]).toNat = 61
      · have hB : (((s[k]).toNat : Int) == 61) = true := by simp [h61]
        have HK : Hid (eqAt s.data.toList = k) := eqAt_of _ k (by rw [← Lib.size_eq]; exact hlt) (fun j hj hjk => of_decide_eq_true (HL.out j (by simpa using hj) hjk)) (fun _ => h61)
        clear h61
        go_wp2
        go_ret
        exact ⟨ret_int (by rw [eqIx, HK.out, if_pos hlt]), rfl⟩
      · have hB : (((s[k]).toNat : Int) == 61) = false := by simp; omega
        have H := Lib.hid h61
        clear h61
        go_wp2
        go_round
        case rel => exact ⟨k + 1, by omega, by go_num, HL.out.succ hlt (by simpa using H.out)⟩
        case measure => simp [intOf]; omega
    · obtain rfl : k = s.size := by omega
      have HK : Hid (eqAt s.data.toList = s.size) := (eqAt_none _ (fun j hj => of_decide_eq_true (HL.out j (by simpa using hj) (by simpa using hj)))).trans (Lib.size_eq s).symm
      go_wp2
      go_ret
      exact ⟨ret_int (by rw [eqIx, HK.out, if_neg (Nat.lt_irrefl _)]), rfl⟩

theorem eqIx_yes {s : ByteArray} (h : eqAt s.data.toList < s.size) : eqIx s = eqAt s.data.toList := by rw [eqIx, if_pos h]
theorem eqIx_no {s : ByteArray} (h : ¬ eqAt s.data.toList < s.size) : eqIx s = -1 := by rw [eqIx, if_neg h]
theorem eqIx_index (s : ByteArray) : Lib.indexByte s.data.toList 61 = eqIx s := by rw [eqAt_index, eqIx, Lib.size_eq]
theorem eqIx_one {s : ByteArray} (h : s.toList = [61]) : eqIx s = 0 := by
  rw [← eqIx_index, ← Lib.toList_data, h]; rfl

set_option maxHeartbeats 400000 in
theorem sIndex_any (s : ByteArray) (w : World) :
    Calls Try.prog 112 #[.string s, .string ⟨#[61]⟩] w fun e w' => e = .returned (.int .i64 (eqIx s)) ∧ w = w' := by
  have hc := fun w => Try.stringslite_IndexByte s 61 w
  have e61 : (61 : Int).toNat.toUInt8 = 61 := rfl
  rw [e61, eqIx_index] at hc
  have HC := Lib.hid hc
  clear hc e61
  by_cases h1 : s.toList = [61]
  · have HV : Hid (eqIx s = 0) := eqIx_one h1
    have hB : ([61] == s.toList) = true := by rw [h1]; rfl
    clear h1
    go_enter Try.func112, Try.ntmps112
    go_wp2
    go_ret
    exact ⟨ret_int HV.out.symm, rfl⟩
  · have hB : ([61] == s.toList) = false := by rw [beq_eq_false_iff_ne]; exact fun e => h1 e.symm
    clear h1
    go_enter Try.func112, Try.ntmps112
    go_wp2_with (go_at_call 104; refine (HC.out _).mono ?_; rintro e w' ⟨rfl, rfl⟩)
    go_ret
    exact ⟨rfl, rfl⟩

set_option maxHeartbeats 400000 in
theorem sCut_yes (s : ByteArray) (w : World) (hs : s.size ≤ maxLen) (k : Nat) (hk : k < s.size) (he : eqAt s.data.toList = k) :
    Calls Try.prog 111 #[.string s, .string ⟨#[61]⟩] w fun e w' => e = .returned (.tuple #[.string (s.extract 0 k), .string (s.extract (k + 1) s.size), .bool true]) ∧ ∃ n, w' = w.drewN n := by
  have hc := sIndex_any s w
  rw [eqIx_yes (by omega), he] at hc
  have HC := Lib.hid hc
  clear hc he
  unfold maxLen at hs
  go_enter Try.func111, Try.ntmps111
  go_wp2_with (go_at_call 112; refine (HC.out).mono ?_; rintro e w' ⟨rfl, rfl⟩)
  go_quiet (fail)
  go_wp2
  go_ret3
  exact ⟨rfl, _, rfl⟩
set_option maxHeartbeats 400000 in
theorem sCut_no (s : ByteArray) (w : World) (he : ¬ eqAt s.data.toList < s.size) :
    Calls Try.prog 111 #[.string s, .string ⟨#[61]⟩] w fun e w' => e = .returned (.tuple #[.string s, .string ⟨#[]⟩, .bool false]) ∧ ∃ n, w' = w.drewN n := by
  have hc := sIndex_any s w
  rw [eqIx_no he] at hc
  have HC := Lib.hid hc
  clear hc he
  go_enter Try.func111, Try.ntmps111
  go_wp2_with (go_at_call 112; refine (HC.out).mono ?_; rintro e w' ⟨rfl, rfl⟩)
  go_ret3
  exact ⟨rfl, 0, rfl⟩

set_option maxHeartbeats 400000 in
theorem cut_yes (s : ByteArray) (w : World) (hs : s.size ≤ maxLen) (k : Nat) (hk : k < s.size) (he : eqAt s.data.toList = k) :
    Calls Try.prog 109 #[.string s, .string ⟨#[61]⟩] w fun e w' => e = .returned (.tuple #[.string (s.extract 0 k), .string (s.extract (k + 1) s.size), .bool true]) ∧ ∃ n, w' = w.drewN n := by
  have HC := Lib.hid (sCut_yes s w hs k hk he)
  clear he
  go_enter Try.func109, Try.ntmps109
  go_wp2_with (go_at_call 111; refine (HC.out).mono ?_; rintro e w' ⟨rfl, n, rfl⟩)
  go_ret3
  exact ⟨rfl, n, rfl⟩
set_option maxHeartbeats 400000 in
theorem cut_no (s : ByteArray) (w : World) (he : ¬ eqAt s.data.toList < s.size) :
    Calls Try.prog 109 #[.string s, .string ⟨#[61]⟩] w fun e w' => e = .returned (.tuple #[.string s, .string ⟨#[]⟩, .bool false]) ∧ ∃ n, w' = w.drewN n := by
  have HC := Lib.hid (sCut_no s w he)
  clear he
  go_enter Try.func109, Try.ntmps109
  go_wp2_with (go_at_call 111; refine (HC.out).mono ?_; rintro e w' ⟨rfl, n, rfl⟩)
  go_ret3
  exact ⟨rfl, n, rfl⟩

theorem below_drewN {B : Nat} {a w : World} (h : Below B a w) (n : Nat) : Below B a (w.drewN n) := ⟨h.os, h.tape, h.output, h.size, h.block⟩
theorem vsep_yes {s : ByteArray} {k : Nat} (hk : k < s.size) (he : eqAt s.data.toList = k) : vsep s = (vspaces (s.extract 0 k) && vspaces (s.extract (k + 1) s.size)) := by
  unfold vsep
  rw [he, ← lspaces_eq, ← lspaces_eq, Lib.extract_data, Lib.extract_to_end]
  simp [hk]
theorem vsep_no {s : ByteArray} (he : ¬ eqAt s.data.toList < s.size) : vsep s = false := by
  unfold vsep
  simp [he]
theorem extract_le (s : ByteArray) (a b : Nat) : (s.extract a b).size ≤ s.size := by
  rw [ByteArray.size_extract]; omega

set_option maxHeartbeats 400000 in
theorem validSep_any (s : ByteArray) (w : World) (hs : s.size ≤ maxLen) :
    Calls Try.prog 107 #[.string s] w fun e w' => e = .returned (.bool (vsep s)) ∧ Grows w w' := by
  by_cases hf : eqAt s.data.toList < s.size
  · obtain ⟨k, hk⟩ : ∃ k, eqAt s.data.toList = k := ⟨_, rfl⟩
    rw [hk] at hf
    have HC := Lib.hid (fun w => cut_yes s w hs k hf hk)
    have hv := vsep_yes hf hk
    have h1 := fun w => fewSpaces_any (s.extract 0 k) w (Nat.le_trans (extract_le _ _ _) hs)
    have h2 := fun w => fewSpaces_any (s.extract (k + 1) s.size) w (Nat.le_trans (extract_le _ _ _) hs)
    obtain ⟨a, ha⟩ : ∃ a, s.extract 0 k = a := ⟨_, rfl⟩
    obtain ⟨b, hb⟩ : ∃ b, s.extract (k + 1) s.size = b := ⟨_, rfl⟩
    rw [ha, hb] at hv HC
    rw [ha] at h1
    rw [hb] at h2
    clear ha hb hk
    by_cases h0 : vspaces a = true
    · rw [h0] at h1
      have HV : Hid (vsep s = vspaces b) := by unfold Hid; rw [hv, h0, Bool.true_and]
      have H1 := Lib.hid h1
      have H2 := Lib.hid h2
      clear h1 h2 hv h0
      go_enter Try.func107, Try.ntmps107
      go_wp2_with (go_at_call 109; refine (HC.out _).mono ?_; rintro e w' ⟨rfl, n, rfl⟩)
      go_wp2_with fail
      refine (H1.out _).mono ?_
      rintro e w1 ⟨rfl, hb1⟩
      go_wp2_with fail
      refine (H2.out _).mono ?_
      rintro e w2 ⟨rfl, hb2⟩
      go_wp2
      go_ret
      exact ⟨ret_bool HV.out.symm, ((Grows.refl _).drewN n).trans (hb1.trans hb2)⟩
    · have h0' : vspaces a = false := by simpa using h0
      rw [h0'] at h1
      have HV : Hid (vsep s = false) := by unfold Hid; rw [hv, h0', Bool.false_and]
      have H1 := Lib.hid h1
      clear h1 h2 hv h0 h0'
      go_enter Try.func107, Try.ntmps107
      go_wp2_with (go_at_call 109; refine (HC.out _).mono ?_; rintro e w' ⟨rfl, n, rfl⟩)
      go_wp2_with fail
      refine (H1.out _).mono ?_
      rintro e w1 ⟨rfl, hb1⟩
      go_wp2
      go_ret
      exact ⟨ret_bool HV.out.symm, ((Grows.refl _).drewN n).trans hb1⟩
  · have HC := Lib.hid (fun w => cut_no s w hf)
    have HV : Hid (vsep s = false) := vsep_no hf
    clear hf
    go_enter Try.func107, Try.ntmps107
    go_wp2_with (go_at_call 109; refine (HC.out _).mono ?_; rintro e w' ⟨rfl, n, rfl⟩)
    go_wp2
    go_ret
    exact ⟨ret_bool HV.out.symm, below_drewN (Below.refl _ _) n⟩
end Go.Proofs.Ytdedidcjbocicaa
