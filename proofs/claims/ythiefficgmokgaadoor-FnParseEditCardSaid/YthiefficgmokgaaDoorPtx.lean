/-
  Texts of places: PlaceText and ParsePlace of both sides. Conditions: texts of at most 1048576 bytes.
-/
import Derived.Test.YthiefficgmokgaaDoorPtP
import Derived.ProofKit
import Derived.Deep.Slices
import Derived.Deep.Fields
import Derived.ChangeSame
import Derived.ShutString
import Derived.StillTailTactics
import Derived.Test.YthiefficgmokgaaDoorRegG
import Derived.Deep.QuietTactic
import Derived.BigQuiet
import Derived.Deep.CutBlock
import Derived.Deep.CutRange
import Derived.Outline
namespace Go.Proofs.YthiefficgmokgaaDoor
open Go.ChangeShapes Go.WideShapes Go.Deep Go.RowKit

/-- the place of the first byte '=', -1 if there is none -/
def dotIx (s : ByteArray) : Int := if dotAt s.data.toList < s.size then (dotAt s.data.toList : Int) else -1

set_option maxHeartbeats 400000 in
theorem specIndexOfDot_any (s : ByteArray) (w : World) (hs : s.size ≤ maxLen) :
    Calls Tryd.prog 21 #[.string s, .int .u8 46] w fun e w' => e = .returned (.int .i64 (dotIx s)) ∧ w = w' := by
  unfold maxLen at hs
  go_enter Tryd.func21, Tryd.ntmps21
  go_wp2
  go_loop [5] (fun i => ∃ k : Nat, k ≤ s.size ∧ i = .int .i64 k ∧ Upto (fun b => decide (b.toNat ≠ 46)) s k) (fun i => s.size - (intOf i).toNat)
  case atStart => exact ⟨0, Nat.zero_le _, rfl, Upto.zero _ s⟩
  case round =>
    obtain ⟨k, hk, rfl, hL⟩ := hrel
    have HL := Lib.hid hL
    clear hL
    by_cases hlt : k < s.size
    · by_cases h46 : (s[k]).toNat = 46
      · have hB : (((s[k]).toNat : Int) == 46) = true := by simp [h46]
        have HK : Hid (dotAt s.data.toList = k) := dotAt_of _ k (by rw [← Lib.size_eq]; exact hlt) (fun j hj hjk => of_decide_eq_true (HL.out j (by simpa using hj) hjk)) (fun _ => h46)
        clear h46
        go_wp2
        go_ret
        exact ⟨ret_int (by rw [dotIx, HK.out, if_pos hlt]), rfl⟩
      · have hB : (((s[k]).toNat : Int) == 46) = false := by simp; omega
        have H := Lib.hid h46
        clear h46
        go_wp2
        go_round
        case rel => exact ⟨k + 1, by omega, by go_num, HL.out.succ hlt (by simpa using H.out)⟩
        case measure => simp [intOf]; omega
    · obtain rfl : k = s.size := by omega
      have HK : Hid (dotAt s.data.toList = s.size) := (dotAt_none _ (fun j hj => of_decide_eq_true (HL.out j (by simpa using hj) (by simpa using hj)))).trans (Lib.size_eq s).symm
      go_wp2
      go_ret
      exact ⟨ret_int (by rw [dotIx, HK.out, if_neg (Nat.lt_irrefl _)]), rfl⟩

theorem dotIx_yes {s : ByteArray} (h : dotAt s.data.toList < s.size) : dotIx s = dotAt s.data.toList := by rw [dotIx, if_pos h]
theorem dotIx_no {s : ByteArray} (h : ¬ dotAt s.data.toList < s.size) : dotIx s = -1 := by rw [dotIx, if_neg h]
theorem dotIx_index (s : ByteArray) : Lib.indexByte s.data.toList 46 = dotIx s := by rw [dotAt_index, dotIx, Lib.size_eq]
theorem dotIx_one {s : ByteArray} (h : s.toList = [46]) : dotIx s = 0 := by
  rw [← dotIx_index, ← Lib.toList_data, h]; rfl

set_option maxHeartbeats 400000 in
theorem sIndexDot_any (s : ByteArray) (w : World) :
    Calls Tryd.prog 49 #[.string s, .string ⟨#[46]⟩] w fun e w' => e = .returned (.int .i64 (dotIx s)) ∧ w = w' := by
  have hc := fun w => Tryd.stringslite_IndexByte s 46 w
  have e46 : (46 : Int).toNat.toUInt8 = 46 := rfl
  rw [e46, dotIx_index] at hc
  have HC := Lib.hid hc
  clear hc e46
  by_cases h1 : s.toList = [46]
  · have HV : Hid (dotIx s = 0) := dotIx_one h1
    have hB : ([46] == s.toList) = true := by rw [h1]; rfl
    clear h1
    go_enter Tryd.func49, Tryd.ntmps49
    go_wp2
    go_ret
    exact ⟨ret_int HV.out.symm, rfl⟩
  · have hB : ([46] == s.toList) = false := by rw [beq_eq_false_iff_ne]; exact fun e => h1 e.symm
    clear h1
    go_enter Tryd.func49, Tryd.ntmps49
    go_wp2_with (go_at_call 54; refine (HC.out _).mono ?_; rintro e w' ⟨rfl, rfl⟩)
    go_ret
    exact ⟨rfl, rfl⟩

set_option maxHeartbeats 400000 in
theorem sCutDot_yes (s : ByteArray) (w : World) (hs : s.size ≤ maxLen) (k : Nat) (hk : k < s.size) (he : dotAt s.data.toList = k) :
    Calls Tryd.prog 35 #[.string s, .string ⟨#[46]⟩] w fun e w' => e = .returned (.tuple #[.string (s.extract 0 k), .string (s.extract (k + 1) s.size), .bool true]) ∧ ∃ n, w' = w.drewN n := by
  have hc := sIndexDot_any s w
  rw [dotIx_yes (by omega), he] at hc
  have HC := Lib.hid hc
  clear hc he
  unfold maxLen at hs
  go_enter Tryd.func35, Tryd.ntmps35
  go_wp2_with (go_at_call 49; refine (HC.out).mono ?_; rintro e w' ⟨rfl, rfl⟩)
  go_quiet (fail)
  go_wp2
  go_ret3
  exact ⟨rfl, _, rfl⟩
set_option maxHeartbeats 400000 in
theorem sCutDot_no (s : ByteArray) (w : World) (he : ¬ dotAt s.data.toList < s.size) :
    Calls Tryd.prog 35 #[.string s, .string ⟨#[46]⟩] w fun e w' => e = .returned (.tuple #[.string s, .string ⟨#[]⟩, .bool false]) ∧ ∃ n, w' = w.drewN n := by
  have hc := sIndexDot_any s w
  rw [dotIx_no he] at hc
  have HC := Lib.hid hc
  clear hc he
  go_enter Tryd.func35, Tryd.ntmps35
  go_wp2_with (go_at_call 49; refine (HC.out).mono ?_; rintro e w' ⟨rfl, rfl⟩)
  go_ret3
  exact ⟨rfl, 0, rfl⟩

set_option maxHeartbeats 400000 in
theorem cutDot_yes (s : ByteArray) (w : World) (hs : s.size ≤ maxLen) (k : Nat) (hk : k < s.size) (he : dotAt s.data.toList = k) :
    Calls Tryd.prog 23 #[.string s, .string ⟨#[46]⟩] w fun e w' => e = .returned (.tuple #[.string (s.extract 0 k), .string (s.extract (k + 1) s.size), .bool true]) ∧ ∃ n, w' = w.drewN n := by
  have HC := Lib.hid (sCutDot_yes s w hs k hk he)
  clear he
  go_enter Tryd.func23, Tryd.ntmps23
  go_wp2_with (go_at_call 35; refine (HC.out).mono ?_; rintro e w' ⟨rfl, n, rfl⟩)
  go_ret3
  exact ⟨rfl, n, rfl⟩
set_option maxHeartbeats 400000 in
theorem cutDot_no (s : ByteArray) (w : World) (he : ¬ dotAt s.data.toList < s.size) :
    Calls Tryd.prog 23 #[.string s, .string ⟨#[46]⟩] w fun e w' => e = .returned (.tuple #[.string s, .string ⟨#[]⟩, .bool false]) ∧ ∃ n, w' = w.drewN n := by
  have HC := Lib.hid (sCutDot_no s w he)
  clear he
  go_enter Tryd.func23, Tryd.ntmps23
  go_wp2_with (go_at_call 35; refine (HC.out).mono ?_; rintro e w' ⟨rfl, n, rfl⟩)
  go_ret3
  exact ⟨rfl, n, rfl⟩

/-- the place of the first byte '=', -1 if there is none -/
def blIx (s : ByteArray) : Int := if blAt s.data.toList < s.size then (blAt s.data.toList : Int) else -1

set_option maxHeartbeats 400000 in
theorem specIndexOfBl_any (s : ByteArray) (w : World) (hs : s.size ≤ maxLen) :
    Calls Tryd.prog 21 #[.string s, .int .u8 32] w fun e w' => e = .returned (.int .i64 (blIx s)) ∧ w = w' := by
  unfold maxLen at hs
  go_enter Tryd.func21, Tryd.ntmps21
  go_wp2
  go_loop [5] (fun i => ∃ k : Nat, k ≤ s.size ∧ i = .int .i64 k ∧ Upto (fun b => decide (b.toNat ≠ 32)) s k) (fun i => s.size - (intOf i).toNat)
  case atStart => exact ⟨0, Nat.zero_le _, rfl, Upto.zero _ s⟩
  case round =>
    obtain ⟨k, hk, rfl, hL⟩ := hrel
    have HL := Lib.hid hL
    clear hL
    by_cases hlt : k < s.size
    · by_cases h32 : (s[k]).toNat = 32
      · have hB : (((s[k]).toNat : Int) == 32) = true := by simp [h32]
        have HK : Hid (blAt s.data.toList = k) := blAt_of _ k (by rw [← Lib.size_eq]; exact hlt) (fun j hj hjk => of_decide_eq_true (HL.out j (by simpa using hj) hjk)) (fun _ => h32)
        clear h32
        go_wp2
        go_ret
        exact ⟨ret_int (by rw [blIx, HK.out, if_pos hlt]), rfl⟩
      · have hB : (((s[k]).toNat : Int) == 32) = false := by simp; omega
        have H := Lib.hid h32
        clear h32
        go_wp2
        go_round
        case rel => exact ⟨k + 1, by omega, by go_num, HL.out.succ hlt (by simpa using H.out)⟩
        case measure => simp [intOf]; omega
    · obtain rfl : k = s.size := by omega
      have HK : Hid (blAt s.data.toList = s.size) := (blAt_none _ (fun j hj => of_decide_eq_true (HL.out j (by simpa using hj) (by simpa using hj)))).trans (Lib.size_eq s).symm
      go_wp2
      go_ret
      exact ⟨ret_int (by rw [blIx, HK.out, if_neg (Nat.lt_irrefl _)]), rfl⟩

theorem blIx_yes {s : ByteArray} (h : blAt s.data.toList < s.size) : blIx s = blAt s.data.toList := by rw [blIx, if_pos h]
theorem blIx_no {s : ByteArray} (h : ¬ blAt s.data.toList < s.size) : blIx s = -1 := by rw [blIx, if_neg h]
theorem blIx_index (s : ByteArray) : Lib.indexByte s.data.toList 32 = blIx s := by rw [blAt_index, blIx, Lib.size_eq]
theorem blIx_one {s : ByteArray} (h : s.toList = [32]) : blIx s = 0 := by
  rw [← blIx_index, ← Lib.toList_data, h]; rfl

set_option maxHeartbeats 400000 in
theorem sIndexBl_any (s : ByteArray) (w : World) :
    Calls Tryd.prog 49 #[.string s, .string ⟨#[32]⟩] w fun e w' => e = .returned (.int .i64 (blIx s)) ∧ w = w' := by
  have hc := fun w => Tryd.stringslite_IndexByte s 32 w
  have e32 : (32 : Int).toNat.toUInt8 = 32 := rfl
  rw [e32, blIx_index] at hc
  have HC := Lib.hid hc
  clear hc e32
  by_cases h1 : s.toList = [32]
  · have HV : Hid (blIx s = 0) := blIx_one h1
    have hB : ([32] == s.toList) = true := by rw [h1]; rfl
    clear h1
    go_enter Tryd.func49, Tryd.ntmps49
    go_wp2
    go_ret
    exact ⟨ret_int HV.out.symm, rfl⟩
  · have hB : ([32] == s.toList) = false := by rw [beq_eq_false_iff_ne]; exact fun e => h1 e.symm
    clear h1
    go_enter Tryd.func49, Tryd.ntmps49
    go_wp2_with (go_at_call 54; refine (HC.out _).mono ?_; rintro e w' ⟨rfl, rfl⟩)
    go_ret
    exact ⟨rfl, rfl⟩

set_option maxHeartbeats 400000 in
theorem sCutBl_yes (s : ByteArray) (w : World) (hs : s.size ≤ maxLen) (k : Nat) (hk : k < s.size) (he : blAt s.data.toList = k) :
    Calls Tryd.prog 35 #[.string s, .string ⟨#[32]⟩] w fun e w' => e = .returned (.tuple #[.string (s.extract 0 k), .string (s.extract (k + 1) s.size), .bool true]) ∧ ∃ n, w' = w.drewN n := by
  have hc := sIndexBl_any s w
  rw [blIx_yes (by omega), he] at hc
  have HC := Lib.hid hc
  clear hc he
  unfold maxLen at hs
  go_enter Tryd.func35, Tryd.ntmps35
  go_wp2_with (go_at_call 49; refine (HC.out).mono ?_; rintro e w' ⟨rfl, rfl⟩)
  go_quiet (fail)
  go_wp2
  go_ret3
  exact ⟨rfl, _, rfl⟩
set_option maxHeartbeats 400000 in
theorem sCutBl_no (s : ByteArray) (w : World) (he : ¬ blAt s.data.toList < s.size) :
    Calls Tryd.prog 35 #[.string s, .string ⟨#[32]⟩] w fun e w' => e = .returned (.tuple #[.string s, .string ⟨#[]⟩, .bool false]) ∧ ∃ n, w' = w.drewN n := by
  have hc := sIndexBl_any s w
  rw [blIx_no he] at hc
  have HC := Lib.hid hc
  clear hc he
  go_enter Tryd.func35, Tryd.ntmps35
  go_wp2_with (go_at_call 49; refine (HC.out).mono ?_; rintro e w' ⟨rfl, rfl⟩)
  go_ret3
  exact ⟨rfl, 0, rfl⟩

set_option maxHeartbeats 400000 in
theorem cutBl_yes (s : ByteArray) (w : World) (hs : s.size ≤ maxLen) (k : Nat) (hk : k < s.size) (he : blAt s.data.toList = k) :
    Calls Tryd.prog 23 #[.string s, .string ⟨#[32]⟩] w fun e w' => e = .returned (.tuple #[.string (s.extract 0 k), .string (s.extract (k + 1) s.size), .bool true]) ∧ ∃ n, w' = w.drewN n := by
  have HC := Lib.hid (sCutBl_yes s w hs k hk he)
  clear he
  go_enter Tryd.func23, Tryd.ntmps23
  go_wp2_with (go_at_call 35; refine (HC.out).mono ?_; rintro e w' ⟨rfl, n, rfl⟩)
  go_ret3
  exact ⟨rfl, n, rfl⟩
set_option maxHeartbeats 400000 in
theorem cutBl_no (s : ByteArray) (w : World) (he : ¬ blAt s.data.toList < s.size) :
    Calls Tryd.prog 23 #[.string s, .string ⟨#[32]⟩] w fun e w' => e = .returned (.tuple #[.string s, .string ⟨#[]⟩, .bool false]) ∧ ∃ n, w' = w.drewN n := by
  have HC := Lib.hid (sCutBl_no s w he)
  clear he
  go_enter Tryd.func23, Tryd.ntmps23
  go_wp2_with (go_at_call 35; refine (HC.out).mono ?_; rintro e w' ⟨rfl, n, rfl⟩)
  go_ret3
  exact ⟨rfl, n, rfl⟩


theorem and_thenP {p q : Prop} (h : p) (k : p → q) : p ∧ q := ⟨h, k h⟩
theorem quiet_leftP {P : Program} {f : FuncId} {args : Array Value} {w : World} {n : Nat} {v : Value}
    (h : Calls P f args (w.drewN n) fun e w' => e = .returned v ∧ w.drewN n = w') : Calls P f args (w.drewN n) fun e w' => e = .returned v ∧ ∃ m, w' = w.drewN m :=
  h.mono fun _ _ h => ⟨h.1, n, h.2.symm⟩

set_option maxHeartbeats 1000000 in
theorem specPlT_any (r k : ByteArray) (w : World) (hr : r.size ≤ 1048576) (hk : k.size ≤ 1048576) :
    Calls Tryd.prog 18 #[.string r, .string k] w fun e w' => e = .returned (.string (plT r k)) ∧ w = w' := by
  by_cases h : r.toList = []
  · have hl2 : r.toList.isEmpty = true := by simp [h]
    have HV : Hid (plT r k = k) := by unfold Hid plT; rw [if_pos (eqNil_yes h)]
    go_enter Tryd.func18, Tryd.ntmps18
    go_wp2
    go_ret
    exact ⟨ret_str HV.out.symm, rfl⟩
  · have hl2 : r.toList.isEmpty = false := by simp [h]
    have HV : Hid (plT r k = r ++ ⟨#[46]⟩ ++ k) := by unfold Hid plT; rw [if_neg (eqNil_no h)]
    clear h
    go_enter Tryd.func18, Tryd.ntmps18
    go_wp2
    go_ret
    exact ⟨ret_str HV.out.symm, rfl⟩

set_option maxHeartbeats 1000000 in
theorem implPl_any (r k : ByteArray) (w : World) (hr : r.size ≤ 1048576) (hk : k.size ≤ 1048576) :
    Calls Tryd.prog 20 #[.agg #[.string r, .string k]] w fun e w' => e = .returned (.string (plTB r k)) ∧ Grows w w' := by
  have HP := Lib.hid (fun w => implPlace_any r k w hr hk)
  have HB : Hid (plTB r k = if vplace r k = true then plT r k else ⟨#[]⟩) := rfl
  by_cases h : vplace r k = true
  · have HV : Hid (plTB r k = plT r k) := by unfold Hid; rw [HB.out, if_pos h]
    rw [h] at HP
    clear h HB
    by_cases h : r.toList = []
    · have hl2 : r.toList.isEmpty = true := by simp [h]
      have HW : Hid (plT r k = k) := by unfold Hid plT; rw [if_pos (eqNil_yes h)]
      go_enter Tryd.func20, Tryd.ntmps20
      go_wp2_with fail
      refine (HP.out _).mono ?_
      rintro e w1 ⟨rfl, g1⟩
      have c0 : w1.cell? ⟨w.heap.size, 0, none⟩ = some (.string r) := (g1.cell (p := ⟨w.heap.size, 0, none⟩) (by simp)).trans (by simp)
      have c1 : w1.cell? ⟨w.heap.size, 1, none⟩ = some (.string k) := (g1.cell (p := ⟨w.heap.size, 1, none⟩) (by simp)).trans (by simp)
      have HG : Hid (Grows w w1) := ((Grows.refl _).alloc _).trans g1
      clear g1
      go_wp2
      go_ret
      exact ⟨ret_str (HV.out.trans HW.out).symm, HG.out⟩
    · have hl2 : r.toList.isEmpty = false := by simp [h]
      have HW : Hid (plT r k = r ++ ⟨#[46]⟩ ++ k) := by unfold Hid plT; rw [if_neg (eqNil_no h)]
      clear h
      go_enter Tryd.func20, Tryd.ntmps20
      go_wp2_with fail
      refine (HP.out _).mono ?_
      rintro e w1 ⟨rfl, g1⟩
      have c0 : w1.cell? ⟨w.heap.size, 0, none⟩ = some (.string r) := (g1.cell (p := ⟨w.heap.size, 0, none⟩) (by simp)).trans (by simp)
      have c1 : w1.cell? ⟨w.heap.size, 1, none⟩ = some (.string k) := (g1.cell (p := ⟨w.heap.size, 1, none⟩) (by simp)).trans (by simp)
      have HG : Hid (Grows w w1) := ((Grows.refl _).alloc _).trans g1
      clear g1
      go_wp2
      go_ret
      exact ⟨ret_str (HV.out.trans HW.out).symm, HG.out⟩
  · have h' : vplace r k = false := by simpa using h
    have HV : Hid (plTB r k = ⟨#[]⟩) := by unfold Hid; rw [HB.out, if_neg h]
    rw [h'] at HP
    clear h h' HB
    go_enter Tryd.func20, Tryd.ntmps20
    go_wp2_with fail
    refine (HP.out _).mono ?_
    rintro e w1 ⟨rfl, g1⟩
    go_wp2
    go_ret
    exact ⟨ret_str HV.out.symm, ((Grows.refl _).alloc _).trans g1⟩

set_option maxHeartbeats 2000000 in
theorem specPar_any (s : ByteArray) (w : World) (hs : s.size ≤ 1048576) :
    Calls Tryd.prog 22 #[.string s] w fun e w' => e = .returned (.tuple #[.agg #[.string (pSec s), .string (pKey s)], .bool (parB s)]) ∧ Grows w w' := by
  have HI := Lib.hid (fun w => specIndexOfDot_any s w (by unfold maxLen; omega))
  have HP := Lib.hid (fun w => specPlace_any (pSec s) (pKey s) w (Nat.le_trans (pSec_le s) hs) (Nat.le_trans (pKey_le s) hs))
  have HB : Hid (parB s = (vplace (pSec s) (pKey s) && (!decide (dotAt s.data.toList < s.size) || !((pSec s).toList == [])))) := rfl
  by_cases hd : dotAt s.data.toList < s.size
  · obtain ⟨k, hk⟩ : ∃ k, dotAt s.data.toList = k := ⟨_, rfl⟩
    have hS : pSec s = s.extract 0 k := by unfold pSec; rw [if_pos hd, hk]
    have hK : pKey s = s.extract (k + 1) s.size := by unfold pKey; rw [if_pos hd, hk]
    rw [dotIx_yes hd, hk] at HI
    rw [decide_eq_true hd] at HB
    rw [hk] at hd
    obtain ⟨a, ha⟩ : ∃ a, pSec s = a := ⟨_, rfl⟩
    obtain ⟨b, hb⟩ : ∃ b, pKey s = b := ⟨_, rfl⟩
    rw [ha] at HB HP hS ⊢
    rw [hb] at HB HP hK ⊢
    subst hS hK
    clear ha hb hk
    have h0k : (0 : Int) ≤ (k : Int) := by omega
    have hkn : (k : Int) < (s.size : Int) := by omega
    have hs2 : (s.size : Int) ≤ 1048576 := by omega
    by_cases hv : vplace (s.extract 0 k) (s.extract (k + 1) s.size) = true
    · rw [hv] at HP HB
      clear hv
      by_cases he : (s.extract 0 k).toList = []
      · have hl2 : (s.extract 0 k).toList.isEmpty = true := by simp [he]
        have HV : Hid (parB s = false) := by unfold Hid; rw [HB.out, he]; rfl
        clear he HB
        go_enter Tryd.func22, Tryd.ntmps22
        go_upto_region 1 with (fail)
        go_wp2_with fail
        refine (HI.out _).mono ?_
        rintro e w' ⟨rfl, rfl⟩
        go_upto_region 6 with (fail)
        refine wp_region_M 16 (CellsAre [(⟨w.heap.size + 1, 0, none⟩, .string (s.extract 0 k)), (⟨w.heap.size + 1, 1, none⟩, .string (s.extract (k + 1) s.size))]) (by kernel_rfl) (by kernel_rfl) ⟨by simp, by simp, trivial⟩ (fun hB hS => ?_)
        refine wpAnyM_take (i := 0) (v := ?vb0) hB rfl (by kernel_rfl) (fun _ _ _ h => h) (by first | kernel_rfl | simp [Region.wanted, yielded, Act.put]) ?yb0 hS ?nb0
        case yb0 => (intro w9 hSw; obtain ⟨s1, s2, _⟩ := hSw; go_simp; try with_reducible rfl)
        refine wpAnyM_take (i := 1) (v := ?vb1) hB rfl (by kernel_rfl) (fun _ _ _ h => h) (by first | kernel_rfl | simp [Region.wanted, yielded, Act.put]) ?yb1 hS ?nb1
        case yb1 => (intro w9 hSw; obtain ⟨s1, s2, _⟩ := hSw; go_simp; try with_reducible rfl)
        refine wpAnyM_take (i := 2) (v := ?vb2) hB rfl (by kernel_rfl) (fun _ _ _ h => h) (by first | kernel_rfl | simp [Region.wanted, yielded, Act.put]) ?yb2 hS ?nb2
        case yb2 => (intro w9 hSw; obtain ⟨s1, s2, _⟩ := hSw; go_simp; try with_reducible rfl)
        refine wpAnyM_take (i := 3) (v := ?vb3) hB rfl (by kernel_rfl) (fun _ _ _ h => h) (by first | kernel_rfl | simp [Region.wanted, yielded, Act.put]) ?yb3 hS ?nb3
        case yb3 => (intro w9 hSw; obtain ⟨s1, s2, _⟩ := hSw; go_simp; try with_reducible rfl)
        refine wpAnyM_take (i := 4) (v := ?vb4) hB rfl (by kernel_rfl) (fun _ _ _ h => h) (by first | kernel_rfl | simp [Region.wanted, yielded, Act.put]) ?yb4 hS ?nb4
        case yb4 => (intro w9 hSw; obtain ⟨s1, s2, _⟩ := hSw; go_simp; try with_reducible rfl)
        have HSx := Lib.hid hS
        clear hS
        refine wpAnyM_one (i := 5) rfl (by kernel_rfl) rfl ?_
        go_wp2_with fail
        refine (HP.out _).mono ?_
        rintro e w' ⟨rfl, rfl⟩
        go_wp2_with fail
        refine ⟨HSx.out, ?_⟩
        have hS := HSx.out
        clear HSx
        refine wpAnyM_take (i := 6) (v := .bool true) hB rfl (by kernel_rfl) (fun _ _ _ h => h) (by first | kernel_rfl | simp [Region.wanted, yielded, Act.put]) ?yb6 hS ?nb6
        case yb6 => (intro w9 hSw; obtain ⟨s1, s2, _⟩ := hSw; go_simp; try with_reducible rfl)
        refine wpAnyM_take (i := 7) (v := ?vb7) hB rfl (by kernel_rfl) (fun _ _ _ h => h) (by first | kernel_rfl | simp [Region.wanted, yielded, Act.put]) ?yb7 hS ?nb7
        case yb7 => (intro w9 hSw; obtain ⟨s1, s2, _⟩ := hSw; go_simp; try with_reducible rfl)
        refine wpAnyM_take (i := 8) (v := .bool false) hB rfl (by kernel_rfl) (fun _ _ _ h => h) (by first | kernel_rfl | simp [Region.wanted, yielded, Act.put]) ?yb8 hS ?nb8
        case yb8 => (intro w9 hSw; obtain ⟨s1, s2, _⟩ := hSw; go_simp; try with_reducible rfl)
        refine wpAnyM_take (i := 9) (v := .bool false) hB rfl (by kernel_rfl) (fun _ _ _ h => h) (by first | kernel_rfl | simp [Region.wanted, yielded, Act.put]) ?yb9 hS ?nb9
        case yb9 => (intro w9 hSw; obtain ⟨s1, s2, _⟩ := hSw; go_simp; try with_reducible rfl)
        refine wpAnyM_take (i := 10) (v := ?vb10) hB rfl (by kernel_rfl) (fun _ _ _ h => h) (by first | kernel_rfl | simp [Region.wanted, yielded, Act.put]) ?yb10 hS ?nb10
        case yb10 => (intro w9 hSw; obtain ⟨s1, s2, _⟩ := hSw; go_simp; try with_reducible rfl)
        refine wpAnyM_take (i := 11) (v := ?vb11) hB rfl (by kernel_rfl) (fun _ _ _ h => h) (by first | kernel_rfl | simp [Region.wanted, yielded, Act.put]) ?yb11 hS ?nb11
        case yb11 => (intro w9 hSw; obtain ⟨s1, s2, _⟩ := hSw; go_simp; try with_reducible rfl)
        refine wpAnyM_take (i := 12) (v := .bool false) hB rfl (by kernel_rfl) (fun _ _ _ h => h) (by first | kernel_rfl | simp [Region.wanted, yielded, Act.put]) ?yb12 hS ?nb12
        case yb12 => (intro w9 hSw; obtain ⟨s1, s2, _⟩ := hSw; go_simp; try with_reducible rfl)
        refine wpAnyM_take (i := 13) (v := .bool false) hB rfl (by kernel_rfl) (fun _ _ _ h => h) (by first | kernel_rfl | simp [Region.wanted, yielded, Act.put]) ?yb13 hS ?nb13
        case yb13 => (intro w9 hSw; obtain ⟨s1, s2, _⟩ := hSw; go_simp; try with_reducible rfl)
        refine wpAnyM_take (i := 14) (v := .bool false) hB rfl (by kernel_rfl) (fun _ _ _ h => h) (by first | kernel_rfl | simp [Region.wanted, yielded, Act.put]) ?yb14 hS ?nb14
        case yb14 => (intro w9 hSw; obtain ⟨s1, s2, _⟩ := hSw; go_simp; try with_reducible rfl)
        clear hS
        refine wpAnyM_one (i := 15) rfl (by kernel_rfl) rfl ?_
        go_wp2_with fail
        refine ⟨⟨by simp, by simp, trivial⟩, ?_⟩
        refine wpAnyM_tail (by kernel_rfl) ?_
        clear hB
        go_wp2
        refine bodyPost_ret (v := .tuple #[.agg #[.string ((s.extract 0 k)), .string ((s.extract (k + 1) s.size))], .bool (parB s)]) (by simp [results, Tryd.results22, go_sem, HV.out]) rfl ⟨rfl, ?_⟩
        exact (((Grows.refl w).alloc _).alloc _).drew
      · have hl2 : (s.extract 0 k).toList.isEmpty = false := by simp [he]
        have HV : Hid (parB s = true) := by unfold Hid; rw [HB.out, beq_eq_false_iff_ne.2 he]; rfl
        clear he HB
        go_enter Tryd.func22, Tryd.ntmps22
        go_upto_region 1 with (fail)
        go_wp2_with fail
        refine (HI.out _).mono ?_
        rintro e w' ⟨rfl, rfl⟩
        go_upto_region 6 with (fail)
        refine wp_region_M 16 (CellsAre [(⟨w.heap.size + 1, 0, none⟩, .string (s.extract 0 k)), (⟨w.heap.size + 1, 1, none⟩, .string (s.extract (k + 1) s.size))]) (by kernel_rfl) (by kernel_rfl) ⟨by simp, by simp, trivial⟩ (fun hB hS => ?_)
        refine wpAnyM_take (i := 0) (v := ?vc0) hB rfl (by kernel_rfl) (fun _ _ _ h => h) (by first | kernel_rfl | simp [Region.wanted, yielded, Act.put]) ?yc0 hS ?nc0
        case yc0 => (intro w9 hSw; obtain ⟨s1, s2, _⟩ := hSw; go_simp; try with_reducible rfl)
        refine wpAnyM_take (i := 1) (v := ?vc1) hB rfl (by kernel_rfl) (fun _ _ _ h => h) (by first | kernel_rfl | simp [Region.wanted, yielded, Act.put]) ?yc1 hS ?nc1
        case yc1 => (intro w9 hSw; obtain ⟨s1, s2, _⟩ := hSw; go_simp; try with_reducible rfl)
        refine wpAnyM_take (i := 2) (v := ?vc2) hB rfl (by kernel_rfl) (fun _ _ _ h => h) (by first | kernel_rfl | simp [Region.wanted, yielded, Act.put]) ?yc2 hS ?nc2
        case yc2 => (intro w9 hSw; obtain ⟨s1, s2, _⟩ := hSw; go_simp; try with_reducible rfl)
        refine wpAnyM_take (i := 3) (v := ?vc3) hB rfl (by kernel_rfl) (fun _ _ _ h => h) (by first | kernel_rfl | simp [Region.wanted, yielded, Act.put]) ?yc3 hS ?nc3
        case yc3 => (intro w9 hSw; obtain ⟨s1, s2, _⟩ := hSw; go_simp; try with_reducible rfl)
        refine wpAnyM_take (i := 4) (v := ?vc4) hB rfl (by kernel_rfl) (fun _ _ _ h => h) (by first | kernel_rfl | simp [Region.wanted, yielded, Act.put]) ?yc4 hS ?nc4
        case yc4 => (intro w9 hSw; obtain ⟨s1, s2, _⟩ := hSw; go_simp; try with_reducible rfl)
        have HSx := Lib.hid hS
        clear hS
        refine wpAnyM_one (i := 5) rfl (by kernel_rfl) rfl ?_
        go_wp2_with fail
        refine (HP.out _).mono ?_
        rintro e w' ⟨rfl, rfl⟩
        go_wp2_with fail
        refine ⟨HSx.out, ?_⟩
        have hS := HSx.out
        clear HSx
        refine wpAnyM_take (i := 6) (v := .bool true) hB rfl (by kernel_rfl) (fun _ _ _ h => h) (by first | kernel_rfl | simp [Region.wanted, yielded, Act.put]) ?yc6 hS ?nc6
        case yc6 => (intro w9 hSw; obtain ⟨s1, s2, _⟩ := hSw; go_simp; try with_reducible rfl)
        refine wpAnyM_take (i := 7) (v := ?vc7) hB rfl (by kernel_rfl) (fun _ _ _ h => h) (by first | kernel_rfl | simp [Region.wanted, yielded, Act.put]) ?yc7 hS ?nc7
        case yc7 => (intro w9 hSw; obtain ⟨s1, s2, _⟩ := hSw; go_simp; try with_reducible rfl)
        refine wpAnyM_take (i := 8) (v := .bool false) hB rfl (by kernel_rfl) (fun _ _ _ h => h) (by first | kernel_rfl | simp [Region.wanted, yielded, Act.put]) ?yc8 hS ?nc8
        case yc8 => (intro w9 hSw; obtain ⟨s1, s2, _⟩ := hSw; go_simp; try with_reducible rfl)
        refine wpAnyM_take (i := 9) (v := .bool false) hB rfl (by kernel_rfl) (fun _ _ _ h => h) (by first | kernel_rfl | simp [Region.wanted, yielded, Act.put]) ?yc9 hS ?nc9
        case yc9 => (intro w9 hSw; obtain ⟨s1, s2, _⟩ := hSw; go_simp; try with_reducible rfl)
        refine wpAnyM_take (i := 10) (v := ?vc10) hB rfl (by kernel_rfl) (fun _ _ _ h => h) (by first | kernel_rfl | simp [Region.wanted, yielded, Act.put]) ?yc10 hS ?nc10
        case yc10 => (intro w9 hSw; obtain ⟨s1, s2, _⟩ := hSw; go_simp; try with_reducible rfl)
        refine wpAnyM_take (i := 11) (v := ?vc11) hB rfl (by kernel_rfl) (fun _ _ _ h => h) (by first | kernel_rfl | simp [Region.wanted, yielded, Act.put]) ?yc11 hS ?nc11
        case yc11 => (intro w9 hSw; obtain ⟨s1, s2, _⟩ := hSw; go_simp; try with_reducible rfl)
        refine wpAnyM_take (i := 12) (v := .bool true) hB rfl (by kernel_rfl) (fun _ _ _ h => h) (by first | kernel_rfl | simp [Region.wanted, yielded, Act.put]) ?yc12 hS ?nc12
        case yc12 => (intro w9 hSw; obtain ⟨s1, s2, _⟩ := hSw; go_simp; try with_reducible rfl)
        refine wpAnyM_take (i := 13) (v := .bool true) hB rfl (by kernel_rfl) (fun _ _ _ h => h) (by first | kernel_rfl | simp [Region.wanted, yielded, Act.put]) ?yc13 hS ?nc13
        case yc13 => (intro w9 hSw; obtain ⟨s1, s2, _⟩ := hSw; go_simp; try with_reducible rfl)
        refine wpAnyM_take (i := 14) (v := .bool true) hB rfl (by kernel_rfl) (fun _ _ _ h => h) (by first | kernel_rfl | simp [Region.wanted, yielded, Act.put]) ?yc14 hS ?nc14
        case yc14 => (intro w9 hSw; obtain ⟨s1, s2, _⟩ := hSw; go_simp; try with_reducible rfl)
        clear hS
        refine wpAnyM_one (i := 15) rfl (by kernel_rfl) rfl ?_
        go_wp2_with fail
        refine ⟨⟨by simp, by simp, trivial⟩, ?_⟩
        refine wpAnyM_tail (by kernel_rfl) ?_
        clear hB
        go_wp2
        refine bodyPost_ret (v := .tuple #[.agg #[.string ((s.extract 0 k)), .string ((s.extract (k + 1) s.size))], .bool (parB s)]) (by simp [results, Tryd.results22, go_sem, HV.out]) rfl ⟨rfl, ?_⟩
        exact (((Grows.refl w).alloc _).alloc _).drew
    · have hv' : vplace (s.extract 0 k) (s.extract (k + 1) s.size) = false := by simpa using hv
      have HV : Hid (parB s = false) := by unfold Hid; rw [HB.out, hv', Bool.false_and]
      rw [hv'] at HP
      clear hv hv' HB
      go_enter Tryd.func22, Tryd.ntmps22
      go_upto_region 1 with (fail)
      go_wp2_with fail
      refine (HI.out _).mono ?_
      rintro e w' ⟨rfl, rfl⟩
      go_upto_region 6 with (fail)
      refine wp_region_M 16 (CellsAre [(⟨w.heap.size + 1, 0, none⟩, .string (s.extract 0 k)), (⟨w.heap.size + 1, 1, none⟩, .string (s.extract (k + 1) s.size))]) (by kernel_rfl) (by kernel_rfl) ⟨by simp, by simp, trivial⟩ (fun hB hS => ?_)
      refine wpAnyM_take (i := 0) (v := ?vd0) hB rfl (by kernel_rfl) (fun _ _ _ h => h) (by first | kernel_rfl | simp [Region.wanted, yielded, Act.put]) ?yd0 hS ?nd0
      case yd0 => (intro w9 hSw; obtain ⟨s1, s2, _⟩ := hSw; go_simp; try with_reducible rfl)
      refine wpAnyM_take (i := 1) (v := ?vd1) hB rfl (by kernel_rfl) (fun _ _ _ h => h) (by first | kernel_rfl | simp [Region.wanted, yielded, Act.put]) ?yd1 hS ?nd1
      case yd1 => (intro w9 hSw; obtain ⟨s1, s2, _⟩ := hSw; go_simp; try with_reducible rfl)
      refine wpAnyM_take (i := 2) (v := ?vd2) hB rfl (by kernel_rfl) (fun _ _ _ h => h) (by first | kernel_rfl | simp [Region.wanted, yielded, Act.put]) ?yd2 hS ?nd2
      case yd2 => (intro w9 hSw; obtain ⟨s1, s2, _⟩ := hSw; go_simp; try with_reducible rfl)
      refine wpAnyM_take (i := 3) (v := ?vd3) hB rfl (by kernel_rfl) (fun _ _ _ h => h) (by first | kernel_rfl | simp [Region.wanted, yielded, Act.put]) ?yd3 hS ?nd3
      case yd3 => (intro w9 hSw; obtain ⟨s1, s2, _⟩ := hSw; go_simp; try with_reducible rfl)
      refine wpAnyM_take (i := 4) (v := ?vd4) hB rfl (by kernel_rfl) (fun _ _ _ h => h) (by first | kernel_rfl | simp [Region.wanted, yielded, Act.put]) ?yd4 hS ?nd4
      case yd4 => (intro w9 hSw; obtain ⟨s1, s2, _⟩ := hSw; go_simp; try with_reducible rfl)
      have HSx := Lib.hid hS
      clear hS
      refine wpAnyM_one (i := 5) rfl (by kernel_rfl) rfl ?_
      go_wp2_with fail
      refine (HP.out _).mono ?_
      rintro e w' ⟨rfl, rfl⟩
      go_wp2_with fail
      refine ⟨HSx.out, ?_⟩
      have hS := HSx.out
      clear HSx
      refine wpAnyM_take (i := 6) (v := .bool false) hB rfl (by kernel_rfl) (fun _ _ _ h => h) (by first | kernel_rfl | simp [Region.wanted, yielded, Act.put]) ?yd6 hS ?nd6
      case yd6 => (intro w9 hSw; obtain ⟨s1, s2, _⟩ := hSw; go_simp; try with_reducible rfl)
      refine wpAnyM_skip (i := 7) hB rfl (by kernel_rfl) (fun _ _ _ h => h) (by first | kernel_rfl | simp [Region.wanted, yielded, Act.put]) hS ?_
      refine wpAnyM_skip (i := 8) hB rfl (by kernel_rfl) (fun _ _ _ h => h) (by first | kernel_rfl | simp [Region.wanted, yielded, Act.put]) hS ?_
      refine wpAnyM_skip (i := 9) hB rfl (by kernel_rfl) (fun _ _ _ h => h) (by first | kernel_rfl | simp [Region.wanted, yielded, Act.put]) hS ?_
      refine wpAnyM_skip (i := 10) hB rfl (by kernel_rfl) (fun _ _ _ h => h) (by first | kernel_rfl | simp [Region.wanted, yielded, Act.put]) hS ?_
      refine wpAnyM_skip (i := 11) hB rfl (by kernel_rfl) (fun _ _ _ h => h) (by first | kernel_rfl | simp [Region.wanted, yielded, Act.put]) hS ?_
      refine wpAnyM_skip (i := 12) hB rfl (by kernel_rfl) (fun _ _ _ h => h) (by first | kernel_rfl | simp [Region.wanted, yielded, Act.put]) hS ?_
      refine wpAnyM_skip (i := 13) hB rfl (by kernel_rfl) (fun _ _ _ h => h) (by first | kernel_rfl | simp [Region.wanted, yielded, Act.put]) hS ?_
      refine wpAnyM_take (i := 14) (v := .bool false) hB rfl (by kernel_rfl) (fun _ _ _ h => h) (by first | kernel_rfl | simp [Region.wanted, yielded, Act.put]) ?yd14 hS ?nd14
      case yd14 => (intro w9 hSw; obtain ⟨s1, s2, _⟩ := hSw; go_simp; try with_reducible rfl)
      clear hS
      refine wpAnyM_one (i := 15) rfl (by kernel_rfl) rfl ?_
      go_wp2_with fail
      refine ⟨⟨by simp, by simp, trivial⟩, ?_⟩
      refine wpAnyM_tail (by kernel_rfl) ?_
      clear hB
      go_wp2
      refine bodyPost_ret (v := .tuple #[.agg #[.string ((s.extract 0 k)), .string ((s.extract (k + 1) s.size))], .bool (parB s)]) (by simp [results, Tryd.results22, go_sem, HV.out]) rfl ⟨rfl, ?_⟩
      exact (((Grows.refl w).alloc _).alloc _).drew
  · have hS : pSec s = ⟨#[]⟩ := by unfold pSec; rw [if_neg hd]
    have hK : pKey s = s := by unfold pKey; rw [if_neg hd]
    rw [dotIx_no hd] at HI
    rw [decide_eq_false hd] at HB
    rw [hS, hK] at HP HB ⊢
    clear hd hS hK
    by_cases hv : vplace ⟨#[]⟩ s = true
    · rw [hv] at HP HB
      have HV : Hid (parB s = true) := by unfold Hid; rw [HB.out]; rfl
      clear hv HB
      go_enter Tryd.func22, Tryd.ntmps22
      go_upto_region 1 with (fail)
      go_wp2_with fail
      refine (HI.out _).mono ?_
      rintro e w' ⟨rfl, rfl⟩
      go_upto_region 6 with (fail)
      refine wp_region_M 16 (CellsAre [(⟨w.heap.size + 1, 0, none⟩, .string ⟨#[]⟩), (⟨w.heap.size + 1, 1, none⟩, .string s)]) (by kernel_rfl) (by kernel_rfl) ⟨by simp, by simp, trivial⟩ (fun hB hS => ?_)
      refine wpAnyM_take (i := 0) (v := ?ve0) hB rfl (by kernel_rfl) (fun _ _ _ h => h) (by first | kernel_rfl | simp [Region.wanted, yielded, Act.put]) ?ye0 hS ?ne0
      case ye0 => (intro w9 hSw; obtain ⟨s1, s2, _⟩ := hSw; go_simp; try with_reducible rfl)
      refine wpAnyM_take (i := 1) (v := ?ve1) hB rfl (by kernel_rfl) (fun _ _ _ h => h) (by first | kernel_rfl | simp [Region.wanted, yielded, Act.put]) ?ye1 hS ?ne1
      case ye1 => (intro w9 hSw; obtain ⟨s1, s2, _⟩ := hSw; go_simp; try with_reducible rfl)
      refine wpAnyM_take (i := 2) (v := ?ve2) hB rfl (by kernel_rfl) (fun _ _ _ h => h) (by first | kernel_rfl | simp [Region.wanted, yielded, Act.put]) ?ye2 hS ?ne2
      case ye2 => (intro w9 hSw; obtain ⟨s1, s2, _⟩ := hSw; go_simp; try with_reducible rfl)
      refine wpAnyM_take (i := 3) (v := ?ve3) hB rfl (by kernel_rfl) (fun _ _ _ h => h) (by first | kernel_rfl | simp [Region.wanted, yielded, Act.put]) ?ye3 hS ?ne3
      case ye3 => (intro w9 hSw; obtain ⟨s1, s2, _⟩ := hSw; go_simp; try with_reducible rfl)
      refine wpAnyM_take (i := 4) (v := ?ve4) hB rfl (by kernel_rfl) (fun _ _ _ h => h) (by first | kernel_rfl | simp [Region.wanted, yielded, Act.put]) ?ye4 hS ?ne4
      case ye4 => (intro w9 hSw; obtain ⟨s1, s2, _⟩ := hSw; go_simp; try with_reducible rfl)
      have HSx := Lib.hid hS
      clear hS
      refine wpAnyM_one (i := 5) rfl (by kernel_rfl) rfl ?_
      go_wp2_with fail
      refine (HP.out _).mono ?_
      rintro e w' ⟨rfl, rfl⟩
      go_wp2_with fail
      refine ⟨HSx.out, ?_⟩
      have hS := HSx.out
      clear HSx
      refine wpAnyM_take (i := 6) (v := .bool true) hB rfl (by kernel_rfl) (fun _ _ _ h => h) (by first | kernel_rfl | simp [Region.wanted, yielded, Act.put]) ?ye6 hS ?ne6
      case ye6 => (intro w9 hSw; obtain ⟨s1, s2, _⟩ := hSw; go_simp; try with_reducible rfl)
      refine wpAnyM_take (i := 7) (v := ?ve7) hB rfl (by kernel_rfl) (fun _ _ _ h => h) (by first | kernel_rfl | simp [Region.wanted, yielded, Act.put]) ?ye7 hS ?ne7
      case ye7 => (intro w9 hSw; obtain ⟨s1, s2, _⟩ := hSw; go_simp; try with_reducible rfl)
      refine wpAnyM_take (i := 8) (v := .bool true) hB rfl (by kernel_rfl) (fun _ _ _ h => h) (by first | kernel_rfl | simp [Region.wanted, yielded, Act.put]) ?ye8 hS ?ne8
      case ye8 => (intro w9 hSw; obtain ⟨s1, s2, _⟩ := hSw; go_simp; try with_reducible rfl)
      refine wpAnyM_take (i := 9) (v := .bool true) hB rfl (by kernel_rfl) (fun _ _ _ h => h) (by first | kernel_rfl | simp [Region.wanted, yielded, Act.put]) ?ye9 hS ?ne9
      case ye9 => (intro w9 hSw; obtain ⟨s1, s2, _⟩ := hSw; go_simp; try with_reducible rfl)
      refine wpAnyM_skip (i := 10) hB rfl (by kernel_rfl) (fun _ _ _ h => h) (by first | kernel_rfl | simp [Region.wanted, yielded, Act.put]) hS ?_
      refine wpAnyM_skip (i := 11) hB rfl (by kernel_rfl) (fun _ _ _ h => h) (by first | kernel_rfl | simp [Region.wanted, yielded, Act.put]) hS ?_
      refine wpAnyM_skip (i := 12) hB rfl (by kernel_rfl) (fun _ _ _ h => h) (by first | kernel_rfl | simp [Region.wanted, yielded, Act.put]) hS ?_
      refine wpAnyM_take (i := 13) (v := .bool true) hB rfl (by kernel_rfl) (fun _ _ _ h => h) (by first | kernel_rfl | simp [Region.wanted, yielded, Act.put]) ?ye13 hS ?ne13
      case ye13 => (intro w9 hSw; obtain ⟨s1, s2, _⟩ := hSw; go_simp; try with_reducible rfl)
      refine wpAnyM_take (i := 14) (v := .bool true) hB rfl (by kernel_rfl) (fun _ _ _ h => h) (by first | kernel_rfl | simp [Region.wanted, yielded, Act.put]) ?ye14 hS ?ne14
      case ye14 => (intro w9 hSw; obtain ⟨s1, s2, _⟩ := hSw; go_simp; try with_reducible rfl)
      clear hS
      refine wpAnyM_one (i := 15) rfl (by kernel_rfl) rfl ?_
      go_wp2_with fail
      refine ⟨⟨by simp, by simp, trivial⟩, ?_⟩
      refine wpAnyM_tail (by kernel_rfl) ?_
      clear hB
      go_wp2
      refine bodyPost_ret (v := .tuple #[.agg #[.string (⟨#[]⟩), .string (s)], .bool (parB s)]) (by simp [results, Tryd.results22, go_sem, HV.out]) rfl ⟨rfl, ?_⟩
      exact (((Grows.refl w).alloc _).alloc _).drew
    · have hv' : vplace ⟨#[]⟩ s = false := by simpa using hv
      have HV : Hid (parB s = false) := by unfold Hid; rw [HB.out, hv', Bool.false_and]
      rw [hv'] at HP
      clear hv hv' HB
      go_enter Tryd.func22, Tryd.ntmps22
      go_upto_region 1 with (fail)
      go_wp2_with fail
      refine (HI.out _).mono ?_
      rintro e w' ⟨rfl, rfl⟩
      go_upto_region 6 with (fail)
      refine wp_region_M 16 (CellsAre [(⟨w.heap.size + 1, 0, none⟩, .string ⟨#[]⟩), (⟨w.heap.size + 1, 1, none⟩, .string s)]) (by kernel_rfl) (by kernel_rfl) ⟨by simp, by simp, trivial⟩ (fun hB hS => ?_)
      refine wpAnyM_take (i := 0) (v := ?vf0) hB rfl (by kernel_rfl) (fun _ _ _ h => h) (by first | kernel_rfl | simp [Region.wanted, yielded, Act.put]) ?yf0 hS ?nf0
      case yf0 => (intro w9 hSw; obtain ⟨s1, s2, _⟩ := hSw; go_simp; try with_reducible rfl)
      refine wpAnyM_take (i := 1) (v := ?vf1) hB rfl (by kernel_rfl) (fun _ _ _ h => h) (by first | kernel_rfl | simp [Region.wanted, yielded, Act.put]) ?yf1 hS ?nf1
      case yf1 => (intro w9 hSw; obtain ⟨s1, s2, _⟩ := hSw; go_simp; try with_reducible rfl)
      refine wpAnyM_take (i := 2) (v := ?vf2) hB rfl (by kernel_rfl) (fun _ _ _ h => h) (by first | kernel_rfl | simp [Region.wanted, yielded, Act.put]) ?yf2 hS ?nf2
      case yf2 => (intro w9 hSw; obtain ⟨s1, s2, _⟩ := hSw; go_simp; try with_reducible rfl)
      refine wpAnyM_take (i := 3) (v := ?vf3) hB rfl (by kernel_rfl) (fun _ _ _ h => h) (by first | kernel_rfl | simp [Region.wanted, yielded, Act.put]) ?yf3 hS ?nf3
      case yf3 => (intro w9 hSw; obtain ⟨s1, s2, _⟩ := hSw; go_simp; try with_reducible rfl)
      refine wpAnyM_take (i := 4) (v := ?vf4) hB rfl (by kernel_rfl) (fun _ _ _ h => h) (by first | kernel_rfl | simp [Region.wanted, yielded, Act.put]) ?yf4 hS ?nf4
      case yf4 => (intro w9 hSw; obtain ⟨s1, s2, _⟩ := hSw; go_simp; try with_reducible rfl)
      have HSx := Lib.hid hS
      clear hS
      refine wpAnyM_one (i := 5) rfl (by kernel_rfl) rfl ?_
      go_wp2_with fail
      refine (HP.out _).mono ?_
      rintro e w' ⟨rfl, rfl⟩
      go_wp2_with fail
      refine ⟨HSx.out, ?_⟩
      have hS := HSx.out
      clear HSx
      refine wpAnyM_take (i := 6) (v := .bool false) hB rfl (by kernel_rfl) (fun _ _ _ h => h) (by first | kernel_rfl | simp [Region.wanted, yielded, Act.put]) ?yf6 hS ?nf6
      case yf6 => (intro w9 hSw; obtain ⟨s1, s2, _⟩ := hSw; go_simp; try with_reducible rfl)
      refine wpAnyM_skip (i := 7) hB rfl (by kernel_rfl) (fun _ _ _ h => h) (by first | kernel_rfl | simp [Region.wanted, yielded, Act.put]) hS ?_
      refine wpAnyM_skip (i := 8) hB rfl (by kernel_rfl) (fun _ _ _ h => h) (by first | kernel_rfl | simp [Region.wanted, yielded, Act.put]) hS ?_
      refine wpAnyM_skip (i := 9) hB rfl (by kernel_rfl) (fun _ _ _ h => h) (by first | kernel_rfl | simp [Region.wanted, yielded, Act.put]) hS ?_
      refine wpAnyM_skip (i := 10) hB rfl (by kernel_rfl) (fun _ _ _ h => h) (by first | kernel_rfl | simp [Region.wanted, yielded, Act.put]) hS ?_
      refine wpAnyM_skip (i := 11) hB rfl (by kernel_rfl) (fun _ _ _ h => h) (by first | kernel_rfl | simp [Region.wanted, yielded, Act.put]) hS ?_
      refine wpAnyM_skip (i := 12) hB rfl (by kernel_rfl) (fun _ _ _ h => h) (by first | kernel_rfl | simp [Region.wanted, yielded, Act.put]) hS ?_
      refine wpAnyM_skip (i := 13) hB rfl (by kernel_rfl) (fun _ _ _ h => h) (by first | kernel_rfl | simp [Region.wanted, yielded, Act.put]) hS ?_
      refine wpAnyM_take (i := 14) (v := .bool false) hB rfl (by kernel_rfl) (fun _ _ _ h => h) (by first | kernel_rfl | simp [Region.wanted, yielded, Act.put]) ?yf14 hS ?nf14
      case yf14 => (intro w9 hSw; obtain ⟨s1, s2, _⟩ := hSw; go_simp; try with_reducible rfl)
      clear hS
      refine wpAnyM_one (i := 15) rfl (by kernel_rfl) rfl ?_
      go_wp2_with fail
      refine ⟨⟨by simp, by simp, trivial⟩, ?_⟩
      refine wpAnyM_tail (by kernel_rfl) ?_
      clear hB
      go_wp2
      refine bodyPost_ret (v := .tuple #[.agg #[.string (⟨#[]⟩), .string (s)], .bool (parB s)]) (by simp [results, Tryd.results22, go_sem, HV.out]) rfl ⟨rfl, ?_⟩
      exact (((Grows.refl w).alloc _).alloc _).drew

set_option maxHeartbeats 2000000 in
theorem implParse_any (s : ByteArray) (w : World) (hs : s.size ≤ 1048576) :
    Calls Tryd.prog 24 #[.string s] w fun e w' => e = .returned (.tuple #[.agg #[.string (resS s), .string (resK s)], .bool (parB s)]) ∧ Grows w w' := by
  have HP := Lib.hid (fun w => implPlace_any (pSec s) (pKey s) w (Nat.le_trans (pSec_le s) hs) (Nat.le_trans (pKey_le s) hs))
  have HT := Lib.hid (fun w => implPl_any (pSec s) (pKey s) w (Nat.le_trans (pSec_le s) hs) (Nat.le_trans (pKey_le s) hs))
  have HB := Lib.hid (par_test s)
  have HRS : Hid (resS s = if parB s = true then pSec s else ⟨#[]⟩) := rfl
  have HRK : Hid (resK s = if parB s = true then pKey s else ⟨#[]⟩) := rfl
  obtain ⟨t, ht⟩ : ∃ t, plTB (pSec s) (pKey s) = t := ⟨_, rfl⟩
  rw [ht] at HB HT
  clear ht
  by_cases hd : dotAt s.data.toList < s.size
  · have HC := Lib.hid (fun w => cutDot_yes s w (by unfold maxLen; omega) (dotAt s.data.toList) hd rfl)
    have hS : pSec s = s.extract 0 (dotAt s.data.toList) := by unfold pSec; rw [if_pos hd]
    have hK : pKey s = s.extract (dotAt s.data.toList + 1) s.size := by unfold pKey; rw [if_pos hd]
    rw [← hS, ← hK] at HC
    obtain ⟨a, ha⟩ : ∃ a, pSec s = a := ⟨_, rfl⟩
    obtain ⟨b, hb⟩ : ∃ b, pKey s = b := ⟨_, rfl⟩
    rw [ha] at HC HP HB HRS HT
    rw [hb] at HC HP HB HRK HT
    clear hS hK ha hb hd
    by_cases hv : vplace a b = true
    · by_cases he : (t.toList == s.toList) = true
      · have hx : parB s = true := by rw [HB.out, hv, he]; rfl
        have hne : (t.toList != s.toList) = false := by unfold bne; rw [he]; rfl
        rw [hx] at HRS HRK ⊢
        have h1 : resS s = a := by rw [HRS.out]; rfl
        have h2 : resK s = b := by rw [HRK.out]; rfl
        rw [h1, h2]
        rw [hv] at HP
        clear hx h1 h2 HB HRS HRK hv
        go_enter Tryd.func24, Tryd.ntmps24
        go_upto_region 2 with (fail)
        go_wp2_with (go_at_call 23; refine (HC.out _).mono ?_; rintro e w' ⟨rfl, n, rfl⟩)
        go_upto_region 5 with (fail)
        go_wp2_with fail
        refine (HP.out _).mono ?_
        rintro e w1 ⟨rfl, g1⟩
        have q0 : w1.cell? ⟨w.heap.size, 0, none⟩ = some (.string ⟨#[]⟩) := (g1.cell (p := ⟨w.heap.size, 0, none⟩) (by simp <;> omega)).trans (by first | simp | go_simp)
        have q1 : w1.cell? ⟨w.heap.size, 1, none⟩ = some (.string ⟨#[]⟩) := (g1.cell (p := ⟨w.heap.size, 1, none⟩) (by simp <;> omega)).trans (by first | simp | go_simp)
        have f0 : w1.frozen? ⟨w.heap.size, 0, none⟩ = false := (g1.frozen (p := ⟨w.heap.size, 0, none⟩) (by simp <;> omega)).trans (by first | simp | go_simp)
        have f1 : w1.frozen? ⟨w.heap.size, 1, none⟩ = false := (g1.frozen (p := ⟨w.heap.size, 1, none⟩) (by simp <;> omega)).trans (by first | simp | go_simp)
        have k0 : w1.cell? ⟨w.heap.size + 1, 0, none⟩ = some (.string a) := (g1.cell (p := ⟨w.heap.size + 1, 0, none⟩) (by simp <;> omega)).trans (by first | simp | go_simp)
        have k1 : w1.cell? ⟨w.heap.size + 1, 1, none⟩ = some (.string b) := (g1.cell (p := ⟨w.heap.size + 1, 1, none⟩) (by simp <;> omega)).trans (by first | simp | go_simp)
        have HG1 : Hid (Grows w w1) := (((((Grows.refl _).alloc _).alloc _).drewN n).setCell (show w.heap.size ≤ w.heap.size + 1 by omega) _).setCell (show w.heap.size ≤ w.heap.size + 1 by omega) _ |>.trans g1
        clear g1
        go_wp2_with fail
        refine (HT.out _).mono ?_
        rintro e w2 ⟨rfl, g2⟩
        have hz : w.heap.size + 1 < w1.heap.size := World.block_lt_of_cell? w1 _ k0
        have hz0 : w.heap.size < w1.heap.size := by omega
        have q0' := (g2.cell (p := ⟨w.heap.size, 0, none⟩) hz0).trans q0
        have q1' := (g2.cell (p := ⟨w.heap.size, 1, none⟩) hz0).trans q1
        have f0' := (g2.frozen (p := ⟨w.heap.size, 0, none⟩) hz0).trans f0
        have f1' := (g2.frozen (p := ⟨w.heap.size, 1, none⟩) hz0).trans f1
        have k0' := (g2.cell (p := ⟨w.heap.size + 1, 0, none⟩) hz).trans k0
        have k1' := (g2.cell (p := ⟨w.heap.size + 1, 1, none⟩) hz).trans k1
        clear q0 q1 f0 f1 k0 k1 hz hz0
        have q0 := q0'
        have q1 := q1'
        have f0 := f0'
        have f1 := f1'
        have k0 := k0'
        have k1 := k1'
        clear q0' q1' f0' f1' k0' k1'
        have HG2 : Hid (Grows w w2) := HG1.out.trans g2
        clear g2 HG1
        go_wp2
        refine bodyPost_ret (v := .tuple #[.agg #[.string a, .string b], .bool true]) (by simp [results, Tryd.results24, go_sem, q0, q1]) rfl ⟨rfl, ?_⟩
        exact (HG2.out.setCell (by exact Nat.le_refl _) _).setCell (by exact Nat.le_refl _) _
      · have he' : (t.toList == s.toList) = false := by simpa using he
        have hx : parB s = false := by rw [HB.out, hv, he']; rfl
        have hne : (t.toList != s.toList) = true := by unfold bne; rw [he']; rfl
        rw [hx] at HRS HRK ⊢
        have h1 : resS s = ⟨#[]⟩ := by rw [HRS.out]; rfl
        have h2 : resK s = ⟨#[]⟩ := by rw [HRK.out]; rfl
        rw [h1, h2]
        rw [hv] at HP
        clear hx h1 h2 HB HRS HRK hv he
        go_enter Tryd.func24, Tryd.ntmps24
        go_upto_region 2 with (fail)
        go_wp2_with (go_at_call 23; refine (HC.out _).mono ?_; rintro e w' ⟨rfl, n, rfl⟩)
        go_upto_region 5 with (fail)
        go_wp2_with fail
        refine (HP.out _).mono ?_
        rintro e w1 ⟨rfl, g1⟩
        have q0 : w1.cell? ⟨w.heap.size, 0, none⟩ = some (.string ⟨#[]⟩) := (g1.cell (p := ⟨w.heap.size, 0, none⟩) (by simp <;> omega)).trans (by first | simp | go_simp)
        have q1 : w1.cell? ⟨w.heap.size, 1, none⟩ = some (.string ⟨#[]⟩) := (g1.cell (p := ⟨w.heap.size, 1, none⟩) (by simp <;> omega)).trans (by first | simp | go_simp)
        have f0 : w1.frozen? ⟨w.heap.size, 0, none⟩ = false := (g1.frozen (p := ⟨w.heap.size, 0, none⟩) (by simp <;> omega)).trans (by first | simp | go_simp)
        have f1 : w1.frozen? ⟨w.heap.size, 1, none⟩ = false := (g1.frozen (p := ⟨w.heap.size, 1, none⟩) (by simp <;> omega)).trans (by first | simp | go_simp)
        have k0 : w1.cell? ⟨w.heap.size + 1, 0, none⟩ = some (.string a) := (g1.cell (p := ⟨w.heap.size + 1, 0, none⟩) (by simp <;> omega)).trans (by first | simp | go_simp)
        have k1 : w1.cell? ⟨w.heap.size + 1, 1, none⟩ = some (.string b) := (g1.cell (p := ⟨w.heap.size + 1, 1, none⟩) (by simp <;> omega)).trans (by first | simp | go_simp)
        have HG1 : Hid (Grows w w1) := (((((Grows.refl _).alloc _).alloc _).drewN n).setCell (show w.heap.size ≤ w.heap.size + 1 by omega) _).setCell (show w.heap.size ≤ w.heap.size + 1 by omega) _ |>.trans g1
        clear g1
        go_wp2_with fail
        refine (HT.out _).mono ?_
        rintro e w2 ⟨rfl, g2⟩
        have hz : w.heap.size + 1 < w1.heap.size := World.block_lt_of_cell? w1 _ k0
        have hz0 : w.heap.size < w1.heap.size := by omega
        have q0' := (g2.cell (p := ⟨w.heap.size, 0, none⟩) hz0).trans q0
        have q1' := (g2.cell (p := ⟨w.heap.size, 1, none⟩) hz0).trans q1
        have f0' := (g2.frozen (p := ⟨w.heap.size, 0, none⟩) hz0).trans f0
        have f1' := (g2.frozen (p := ⟨w.heap.size, 1, none⟩) hz0).trans f1
        have k0' := (g2.cell (p := ⟨w.heap.size + 1, 0, none⟩) hz).trans k0
        have k1' := (g2.cell (p := ⟨w.heap.size + 1, 1, none⟩) hz).trans k1
        clear q0 q1 f0 f1 k0 k1 hz hz0
        have q0 := q0'
        have q1 := q1'
        have f0 := f0'
        have f1 := f1'
        have k0 := k0'
        have k1 := k1'
        clear q0' q1' f0' f1' k0' k1'
        have HG2 : Hid (Grows w w2) := HG1.out.trans g2
        clear g2 HG1
        go_wp2
        refine bodyPost_ret (v := .tuple #[.agg #[.string ⟨#[]⟩, .string ⟨#[]⟩], .bool false]) (by simp [results, Tryd.results24, go_sem, q0, q1]) rfl ⟨rfl, ?_⟩
        exact (HG2.out.setCell (by exact Nat.le_refl _) _).setCell (by exact Nat.le_refl _) _
    · have hv' : vplace a b = false := by simpa using hv
      have hx : parB s = false := by rw [HB.out, hv', Bool.false_and]
      rw [hx] at HRS HRK ⊢
      have h1 : resS s = ⟨#[]⟩ := by rw [HRS.out]; rfl
      have h2 : resK s = ⟨#[]⟩ := by rw [HRK.out]; rfl
      rw [h1, h2]
      rw [hv'] at HP
      clear hx h1 h2 HB HRS HRK hv hv' HT
      go_enter Tryd.func24, Tryd.ntmps24
      go_upto_region 2 with (fail)
      go_wp2_with (go_at_call 23; refine (HC.out _).mono ?_; rintro e w' ⟨rfl, n, rfl⟩)
      go_upto_region 5 with (fail)
      go_wp2_with fail
      refine (HP.out _).mono ?_
      rintro e w1 ⟨rfl, g1⟩
      have q0 : w1.cell? ⟨w.heap.size, 0, none⟩ = some (.string ⟨#[]⟩) := (g1.cell (p := ⟨w.heap.size, 0, none⟩) (by simp <;> omega)).trans (by first | simp | go_simp)
      have q1 : w1.cell? ⟨w.heap.size, 1, none⟩ = some (.string ⟨#[]⟩) := (g1.cell (p := ⟨w.heap.size, 1, none⟩) (by simp <;> omega)).trans (by first | simp | go_simp)
      have f0 : w1.frozen? ⟨w.heap.size, 0, none⟩ = false := (g1.frozen (p := ⟨w.heap.size, 0, none⟩) (by simp <;> omega)).trans (by first | simp | go_simp)
      have f1 : w1.frozen? ⟨w.heap.size, 1, none⟩ = false := (g1.frozen (p := ⟨w.heap.size, 1, none⟩) (by simp <;> omega)).trans (by first | simp | go_simp)
      have k0 : w1.cell? ⟨w.heap.size + 1, 0, none⟩ = some (.string a) := (g1.cell (p := ⟨w.heap.size + 1, 0, none⟩) (by simp <;> omega)).trans (by first | simp | go_simp)
      have k1 : w1.cell? ⟨w.heap.size + 1, 1, none⟩ = some (.string b) := (g1.cell (p := ⟨w.heap.size + 1, 1, none⟩) (by simp <;> omega)).trans (by first | simp | go_simp)
      have HG1 : Hid (Grows w w1) := (((((Grows.refl _).alloc _).alloc _).drewN n).setCell (show w.heap.size ≤ w.heap.size + 1 by omega) _).setCell (show w.heap.size ≤ w.heap.size + 1 by omega) _ |>.trans g1
      clear g1
      go_wp2
      refine bodyPost_ret (v := .tuple #[.agg #[.string ⟨#[]⟩, .string ⟨#[]⟩], .bool false]) (by simp [results, Tryd.results24, go_sem, q0, q1]) rfl ⟨rfl, ?_⟩
      exact (HG1.out.setCell (by exact Nat.le_refl _) _).setCell (by exact Nat.le_refl _) _
  · have HC := Lib.hid (fun w => cutDot_no s w hd)
    have hS : pSec s = ⟨#[]⟩ := by unfold pSec; rw [if_neg hd]
    have hK : pKey s = s := by unfold pKey; rw [if_neg hd]
    rw [hS] at HP HB HRS HT
    rw [hK] at HP HB HRK HT
    clear hS hK hd
    by_cases hv : vplace ⟨#[]⟩ s = true
    · by_cases he : (t.toList == s.toList) = true
      · have hx : parB s = true := by rw [HB.out, hv, he]; rfl
        have hne : (t.toList != s.toList) = false := by unfold bne; rw [he]; rfl
        rw [hx] at HRS HRK ⊢
        have h1 : resS s = ⟨#[]⟩ := by rw [HRS.out]; rfl
        have h2 : resK s = s := by rw [HRK.out]; rfl
        rw [h1, h2]
        rw [hv] at HP
        clear hx h1 h2 HB HRS HRK hv
        go_enter Tryd.func24, Tryd.ntmps24
        go_upto_region 2 with (fail)
        go_wp2_with (go_at_call 23; refine (HC.out _).mono ?_; rintro e w' ⟨rfl, n, rfl⟩)
        go_upto_region 5 with (fail)
        go_wp2_with fail
        refine (HP.out _).mono ?_
        rintro e w1 ⟨rfl, g1⟩
        have q0 : w1.cell? ⟨w.heap.size, 0, none⟩ = some (.string ⟨#[]⟩) := (g1.cell (p := ⟨w.heap.size, 0, none⟩) (by simp <;> omega)).trans (by first | simp | go_simp)
        have q1 : w1.cell? ⟨w.heap.size, 1, none⟩ = some (.string ⟨#[]⟩) := (g1.cell (p := ⟨w.heap.size, 1, none⟩) (by simp <;> omega)).trans (by first | simp | go_simp)
        have f0 : w1.frozen? ⟨w.heap.size, 0, none⟩ = false := (g1.frozen (p := ⟨w.heap.size, 0, none⟩) (by simp <;> omega)).trans (by first | simp | go_simp)
        have f1 : w1.frozen? ⟨w.heap.size, 1, none⟩ = false := (g1.frozen (p := ⟨w.heap.size, 1, none⟩) (by simp <;> omega)).trans (by first | simp | go_simp)
        have k0 : w1.cell? ⟨w.heap.size + 1, 0, none⟩ = some (.string ⟨#[]⟩) := (g1.cell (p := ⟨w.heap.size + 1, 0, none⟩) (by simp <;> omega)).trans (by first | simp | go_simp)
        have k1 : w1.cell? ⟨w.heap.size + 1, 1, none⟩ = some (.string s) := (g1.cell (p := ⟨w.heap.size + 1, 1, none⟩) (by simp <;> omega)).trans (by first | simp | go_simp)
        have HG1 : Hid (Grows w w1) := ((((Grows.refl _).alloc _).alloc _).drewN n).trans g1
        clear g1
        go_wp2_with fail
        refine (HT.out _).mono ?_
        rintro e w2 ⟨rfl, g2⟩
        have hz : w.heap.size + 1 < w1.heap.size := World.block_lt_of_cell? w1 _ k0
        have hz0 : w.heap.size < w1.heap.size := by omega
        have q0' := (g2.cell (p := ⟨w.heap.size, 0, none⟩) hz0).trans q0
        have q1' := (g2.cell (p := ⟨w.heap.size, 1, none⟩) hz0).trans q1
        have f0' := (g2.frozen (p := ⟨w.heap.size, 0, none⟩) hz0).trans f0
        have f1' := (g2.frozen (p := ⟨w.heap.size, 1, none⟩) hz0).trans f1
        have k0' := (g2.cell (p := ⟨w.heap.size + 1, 0, none⟩) hz).trans k0
        have k1' := (g2.cell (p := ⟨w.heap.size + 1, 1, none⟩) hz).trans k1
        clear q0 q1 f0 f1 k0 k1 hz hz0
        have q0 := q0'
        have q1 := q1'
        have f0 := f0'
        have f1 := f1'
        have k0 := k0'
        have k1 := k1'
        clear q0' q1' f0' f1' k0' k1'
        have HG2 : Hid (Grows w w2) := HG1.out.trans g2
        clear g2 HG1
        go_wp2
        refine bodyPost_ret (v := .tuple #[.agg #[.string ⟨#[]⟩, .string s], .bool true]) (by simp [results, Tryd.results24, go_sem, q0, q1]) rfl ⟨rfl, ?_⟩
        exact (HG2.out.setCell (by exact Nat.le_refl _) _).setCell (by exact Nat.le_refl _) _
      · have he' : (t.toList == s.toList) = false := by simpa using he
        have hx : parB s = false := by rw [HB.out, hv, he']; rfl
        have hne : (t.toList != s.toList) = true := by unfold bne; rw [he']; rfl
        rw [hx] at HRS HRK ⊢
        have h1 : resS s = ⟨#[]⟩ := by rw [HRS.out]; rfl
        have h2 : resK s = ⟨#[]⟩ := by rw [HRK.out]; rfl
        rw [h1, h2]
        rw [hv] at HP
        clear hx h1 h2 HB HRS HRK hv he
        go_enter Tryd.func24, Tryd.ntmps24
        go_upto_region 2 with (fail)
        go_wp2_with (go_at_call 23; refine (HC.out _).mono ?_; rintro e w' ⟨rfl, n, rfl⟩)
        go_upto_region 5 with (fail)
        go_wp2_with fail
        refine (HP.out _).mono ?_
        rintro e w1 ⟨rfl, g1⟩
        have q0 : w1.cell? ⟨w.heap.size, 0, none⟩ = some (.string ⟨#[]⟩) := (g1.cell (p := ⟨w.heap.size, 0, none⟩) (by simp <;> omega)).trans (by first | simp | go_simp)
        have q1 : w1.cell? ⟨w.heap.size, 1, none⟩ = some (.string ⟨#[]⟩) := (g1.cell (p := ⟨w.heap.size, 1, none⟩) (by simp <;> omega)).trans (by first | simp | go_simp)
        have f0 : w1.frozen? ⟨w.heap.size, 0, none⟩ = false := (g1.frozen (p := ⟨w.heap.size, 0, none⟩) (by simp <;> omega)).trans (by first | simp | go_simp)
        have f1 : w1.frozen? ⟨w.heap.size, 1, none⟩ = false := (g1.frozen (p := ⟨w.heap.size, 1, none⟩) (by simp <;> omega)).trans (by first | simp | go_simp)
        have k0 : w1.cell? ⟨w.heap.size + 1, 0, none⟩ = some (.string ⟨#[]⟩) := (g1.cell (p := ⟨w.heap.size + 1, 0, none⟩) (by simp <;> omega)).trans (by first | simp | go_simp)
        have k1 : w1.cell? ⟨w.heap.size + 1, 1, none⟩ = some (.string s) := (g1.cell (p := ⟨w.heap.size + 1, 1, none⟩) (by simp <;> omega)).trans (by first | simp | go_simp)
        have HG1 : Hid (Grows w w1) := ((((Grows.refl _).alloc _).alloc _).drewN n).trans g1
        clear g1
        go_wp2_with fail
        refine (HT.out _).mono ?_
        rintro e w2 ⟨rfl, g2⟩
        have hz : w.heap.size + 1 < w1.heap.size := World.block_lt_of_cell? w1 _ k0
        have hz0 : w.heap.size < w1.heap.size := by omega
        have q0' := (g2.cell (p := ⟨w.heap.size, 0, none⟩) hz0).trans q0
        have q1' := (g2.cell (p := ⟨w.heap.size, 1, none⟩) hz0).trans q1
        have f0' := (g2.frozen (p := ⟨w.heap.size, 0, none⟩) hz0).trans f0
        have f1' := (g2.frozen (p := ⟨w.heap.size, 1, none⟩) hz0).trans f1
        have k0' := (g2.cell (p := ⟨w.heap.size + 1, 0, none⟩) hz).trans k0
        have k1' := (g2.cell (p := ⟨w.heap.size + 1, 1, none⟩) hz).trans k1
        clear q0 q1 f0 f1 k0 k1 hz hz0
        have q0 := q0'
        have q1 := q1'
        have f0 := f0'
        have f1 := f1'
        have k0 := k0'
        have k1 := k1'
        clear q0' q1' f0' f1' k0' k1'
        have HG2 : Hid (Grows w w2) := HG1.out.trans g2
        clear g2 HG1
        go_wp2
        refine bodyPost_ret (v := .tuple #[.agg #[.string ⟨#[]⟩, .string ⟨#[]⟩], .bool false]) (by simp [results, Tryd.results24, go_sem, q0, q1]) rfl ⟨rfl, ?_⟩
        exact (HG2.out.setCell (by exact Nat.le_refl _) _).setCell (by exact Nat.le_refl _) _
    · have hv' : vplace ⟨#[]⟩ s = false := by simpa using hv
      have hx : parB s = false := by rw [HB.out, hv', Bool.false_and]
      rw [hx] at HRS HRK ⊢
      have h1 : resS s = ⟨#[]⟩ := by rw [HRS.out]; rfl
      have h2 : resK s = ⟨#[]⟩ := by rw [HRK.out]; rfl
      rw [h1, h2]
      rw [hv'] at HP
      clear hx h1 h2 HB HRS HRK hv hv' HT
      go_enter Tryd.func24, Tryd.ntmps24
      go_upto_region 2 with (fail)
      go_wp2_with (go_at_call 23; refine (HC.out _).mono ?_; rintro e w' ⟨rfl, n, rfl⟩)
      go_upto_region 5 with (fail)
      go_wp2_with fail
      refine (HP.out _).mono ?_
      rintro e w1 ⟨rfl, g1⟩
      have q0 : w1.cell? ⟨w.heap.size, 0, none⟩ = some (.string ⟨#[]⟩) := (g1.cell (p := ⟨w.heap.size, 0, none⟩) (by simp <;> omega)).trans (by first | simp | go_simp)
      have q1 : w1.cell? ⟨w.heap.size, 1, none⟩ = some (.string ⟨#[]⟩) := (g1.cell (p := ⟨w.heap.size, 1, none⟩) (by simp <;> omega)).trans (by first | simp | go_simp)
      have f0 : w1.frozen? ⟨w.heap.size, 0, none⟩ = false := (g1.frozen (p := ⟨w.heap.size, 0, none⟩) (by simp <;> omega)).trans (by first | simp | go_simp)
      have f1 : w1.frozen? ⟨w.heap.size, 1, none⟩ = false := (g1.frozen (p := ⟨w.heap.size, 1, none⟩) (by simp <;> omega)).trans (by first | simp | go_simp)
      have k0 : w1.cell? ⟨w.heap.size + 1, 0, none⟩ = some (.string ⟨#[]⟩) := (g1.cell (p := ⟨w.heap.size + 1, 0, none⟩) (by simp <;> omega)).trans (by first | simp | go_simp)
      have k1 : w1.cell? ⟨w.heap.size + 1, 1, none⟩ = some (.string s) := (g1.cell (p := ⟨w.heap.size + 1, 1, none⟩) (by simp <;> omega)).trans (by first | simp | go_simp)
      have HG1 : Hid (Grows w w1) := ((((Grows.refl _).alloc _).alloc _).drewN n).trans g1
      clear g1
      go_wp2
      refine bodyPost_ret (v := .tuple #[.agg #[.string ⟨#[]⟩, .string ⟨#[]⟩], .bool false]) (by simp [results, Tryd.results24, go_sem, q0, q1]) rfl ⟨rfl, ?_⟩
      exact (HG1.out.setCell (by exact Nat.le_refl _) _).setCell (by exact Nat.le_refl _) _
end Go.Proofs.YthiefficgmokgaaDoor
