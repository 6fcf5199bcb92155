/-
  The law's own helpers: sizes, copies and comparison of files. Conditions: sizes that an int holds.
-/
import Derived.Test.YteifcogfnpeahaaMem
import Derived.Test.YteifcogfnpeahaaSame
import Derived.Deep.RegionWith
namespace Go.Proofs.Yteifcogfnpeahaa
open Go.RowKit

/-- how much a line weighs -/
def Ln.size (l : Ln) : Nat := l.le.size + l.na.size + l.se.size + l.va.size + l.ta.size
/-- what is left of a purse behind a weight; -1 if it does not do -/
def less (left : Int) (t : Nat) : Int := if (t : Int) ≤ left then left - t else -1
theorem less_of {left : Int} {t : Nat} (h : (t : Int) ≤ left) : less left t = left - t := by rw [less, if_pos h]
theorem less_no {left : Int} {t : Nat} (h : left < (t : Int)) : less left t = -1 := by rw [less, if_neg (by omega)]

/-- each part is no longer than a text may be -/
def Ln.inReach (l : Ln) : Prop := l.le.size ≤ maxLen ∧ l.na.size ≤ maxLen ∧ l.se.size ≤ maxLen ∧ l.va.size ≤ maxLen ∧ l.ta.size ≤ maxLen

set_option maxHeartbeats 1000000 in
theorem szLine_any (l : Ln) (left : Int) (w : World) (h0 : 0 ≤ left) (h1 : left ≤ 1048576) (hr : l.inReach) :
    Calls Try.prog 104 #[l.agg, .int .i64 left] w fun e w' => e = .returned (.int .i64 (less left l.size)) ∧ Grows w w' := by
  obtain ⟨r1, r2, r3, r4, r5⟩ := hr
  have HL : Hid (l.size = l.le.size + l.na.size + l.se.size + l.va.size + l.ta.size) := rfl
  unfold maxLen at r1 r2 r3 r4 r5
  unfold Ln.agg
  go_enter Try.func104, Try.ntmps104
  go_wp2
  all_goals
    go_ret
    exact ⟨ret_int (by have := HL.out; first | (rw [less_no (by omega)]) | (rw [less_of (by omega)]; omega)), (Grows.refl _).alloc _⟩

/-- the weight of the first k lines -/
def wsum (ls : List Ln) (k : Nat) : Nat := ((ls.take k).map Ln.size).sum
theorem wsum_succ {ls : List Ln} {k : Nat} (hk : k < ls.length) : wsum ls (k + 1) = wsum ls k + ls[k].size := by
  unfold wsum
  rw [List.take_succ_eq_append_getElem hk, List.map_append, List.sum_append]
  simp
theorem wsum_le (ls : List Ln) (k : Nat) : wsum ls k ≤ wsum ls ls.length := by
  unfold wsum
  rw [List.take_length]
  have h := List.take_append_drop k ls
  have : (ls.map Ln.size).sum = ((ls.take k).map Ln.size).sum + ((ls.drop k).map Ln.size).sum := by
    rw [← List.sum_append, ← List.map_append, h]
  omega
/-- the weight of lines: their number and their parts -/
def wlines (ls : List Ln) : Nat := ls.length + wsum ls ls.length

set_option maxHeartbeats 1000000 in
theorem szLineS_any (A : Option Addr) (c : Nat) (ls : List Ln) (left : Int) (w : World) (h0 : 0 ≤ left) (h1 : left ≤ 1048576) (hn : ls.length ≤ maxLen) (hr : ∀ i (h : i < ls.length), ls[i].inReach) (hA : LnsAt w A ls) :
    Calls Try.prog 81 #[.slice A ls.length c, .int .i64 left] w fun e w' => e = .returned (.int .i64 (less left (wlines ls))) ∧ Grows w w' := by
  have HR := Lib.hid hr
  have HA := Lib.hid hA
  have HW : Hid (wlines ls = ls.length + wsum ls ls.length) := rfl
  clear hA hr
  obtain ⟨n, hnn⟩ : ∃ n, ls.length = n := ⟨_, rfl⟩
  rw [hnn] at hn
  rw [hnn]
  have HN := Lib.hid hnn
  clear hnn
  unfold maxLen at hn
  by_cases hl : left < n
  · have HV : Hid (less left (wlines ls) = -1) := less_no (by rw [HW.out, HN.out]; omega)
    go_enter Try.func81, Try.ntmps81
    go_wp2
    go_ret
    exact ⟨ret_int HV.out.symm, Grows.refl _⟩
  · go_enter Try.func81, Try.ntmps81
    go_wp2
    go_loopw [1, 5] (fun v i wr => ∃ (k : Nat) (m : Int), k ≤ n ∧ i = .int .i64 k ∧ v = .int .i64 m ∧ 0 ≤ m ∧ m ≤ 1048576 ∧ Hid (m = left - n - wsum ls k) ∧ Grows w wr) (fun _ i _ => n - (intOf i).toNat)
    case atStart => exact ⟨0, left - n, Nat.zero_le _, rfl, rfl, by omega, by omega, by unfold Hid wsum; simp, Grows.refl _⟩
    case round =>
      obtain ⟨k, m, hk, rfl, rfl, hm0, hm1, HM, hg⟩ := hrel
      have HG := Lib.hid hg
      clear hg
      by_cases hlt : k < n
      · obtain ⟨b, o, rfl, hb, hc⟩ := HA.out (by rw [HN.out]; omega)
        have hk2 : k < ls.length := by rw [HN.out]; exact hlt
        obtain ⟨l, hl⟩ : ∃ l, ls[k] = l := ⟨_, rfl⟩
        have hat := (hc k hk2).keep hb HG.out
        rw [hl] at hat
        obtain ⟨c0, c1, c2, c3, c4, c5⟩ := hat
        have HS := Lib.hid (fun w => szLine_any l m w hm0 hm1 (hl ▸ HR.out k hk2))
        have HK : Hid (wsum ls (k + 1) = wsum ls k + l.size) := by unfold Hid; rw [wsum_succ hk2, hl]
        have HX : Hid (wsum ls (k + 1) ≤ wsum ls n) := by
          have := wsum_le ls (k + 1)
          rw [HN.out] at this
          exact this
        clear hl hc
        unfold Ln.agg at HS
        by_cases hv : (l.size : Int) ≤ m
        · rw [less_of hv] at HS
          go_wp2_with fail
          refine (HS.out _).mono ?_
          rintro e w1 ⟨rfl, hg1⟩
          go_wp2
          go_roundw
          case rel => exact ⟨k + 1, m - l.size, by omega, by go_num, rfl, by omega, by omega, by have := HK.out; have := HM.out; unfold Hid; omega, HG.out.trans hg1⟩
          case measure => simp [intOf]; omega
        · rw [less_no (by omega)] at HS
          have HV : Hid (less left (wlines ls) = -1) := less_no (by have := HW.out; have := HN.out; have := HX.out; have := HK.out; have := HM.out; rw [HN.out] at *; omega)
          go_wp2_with fail
          refine (HS.out _).mono ?_
          rintro e w1 ⟨rfl, hg1⟩
          go_wp2
          go_ret
          exact ⟨ret_int HV.out.symm, HG.out.trans hg1⟩
      · obtain rfl : k = n := by omega
        have HV : Hid (less left (wlines ls) = m) := by
          have h1 := HW.out
          have h2 := HM.out
          rw [HN.out] at h1
          unfold Hid
          rw [less_of (by omega)]
          omega
        go_wp2
        go_ret
        exact ⟨ret_int HV.out.symm, HG.out⟩

set_option maxHeartbeats 1000000 in
theorem szFile_any (A : Option Addr) (c : Nat) (ls : List Ln) (left : Int) (w : World) (h0 : 0 ≤ left) (h1 : left ≤ 1048576) (hn : ls.length ≤ maxLen) (hr : ∀ i (h : i < ls.length), ls[i].inReach) (hA : LnsAt w A ls) :
    Calls Try.prog 42 #[.agg #[.slice A ls.length c], .int .i64 left] w fun e w' => e = .returned (.int .i64 (less left (wlines ls))) ∧ Grows w w' := by
  have HS := Lib.hid (szLineS_any A c ls left (w.alloc (.cells #[.slice A ls.length c] 54)) h0 h1 hn hr (hA.keep ((Grows.refl _).alloc _)))
  clear hA hr hn
  by_cases hv : (wlines ls : Int) ≤ left
  · rw [less_of hv] at HS
    rw [less_of hv]
    obtain ⟨m, hm⟩ : ∃ m, left - (wlines ls : Int) = m := ⟨_, rfl⟩
    rw [hm] at HS
    rw [hm]
    have hm0 : 0 ≤ m := by omega
    clear hv hm
    go_enter Try.func42, Try.ntmps42
    go_wp2_with fail
    refine (HS.out).mono ?_
    rintro e w1 ⟨rfl, hg1⟩
    go_wp2
    go_ret
    exact ⟨rfl, ((Grows.refl _).alloc _).trans hg1⟩
  · rw [less_no (by omega)] at HS
    rw [less_no (by omega)]
    clear hv
    go_enter Try.func42, Try.ntmps42
    go_wp2_with fail
    refine (HS.out).mono ?_
    rintro e w1 ⟨rfl, hg1⟩
    go_wp2
    go_ret
    exact ⟨rfl, ((Grows.refl _).alloc _).trans hg1⟩

set_option maxHeartbeats 1000000 in
theorem toLine_any (l : Ln) (w : World) :
    Calls Try.prog 105 #[l.agg] w fun e w' => e = .returned l.agg ∧ Grows w w' := by
  unfold Ln.agg
  go_enter Try.func105, Try.ntmps105
  go_wp2
  refine bodyPost_ret (v := .agg #[.int .i64 l.k, .string l.le, .string l.na, .string l.se, .string l.va, .string l.ta]) (by simp [results, Try.results105, go_sem]) rfl ⟨rfl, (((Grows.refl _).alloc _).alloc _).alloc _⟩

set_option maxHeartbeats 1000000 in
theorem eqLine_any (l m : Ln) (w : World) :
    Calls Try.prog 106 #[l.agg, m.agg] w fun e w' => e = .returned (.bool (l.same m)) ∧ Grows w w' := by
  unfold Ln.agg
  go_enter Try.func106, Try.ntmps106
  go_wp2
  all_goals
    go_ret
    exact ⟨ret_bool (by unfold Ln.same; simp_all), ((Grows.refl _).alloc _).alloc _⟩

theorem Ln.same_self (l : Ln) : l.same l = true := by simp [Ln.same]

set_option maxHeartbeats 1000000 in
theorem eqLineS_any (A B : Option Addr) (c d : Nat) (ls : List Ln) (w : World) (hn : ls.length ≤ maxLen) (hA : LnsAt w A ls) (hB : LnsAt w B ls) :
    Calls Try.prog 83 #[.slice A ls.length c, .slice B ls.length d] w fun e w' => e = .returned (.bool true) ∧ Grows w w' := by
  have HA := Lib.hid hA
  have HB := Lib.hid hB
  clear hA hB
  obtain ⟨n, hnn⟩ : ∃ n, ls.length = n := ⟨_, rfl⟩
  rw [hnn] at hn
  rw [hnn]
  have HN := Lib.hid hnn
  clear hnn
  unfold maxLen at hn
  go_enter Try.func83, Try.ntmps83
  go_wp2
  go_loopw [5] (fun i wr => ∃ (k : Nat), k ≤ n ∧ i = .int .i64 k ∧ Grows w wr) (fun i _ => n - (intOf i).toNat)
  case atStart => exact ⟨0, Nat.zero_le _, rfl, Grows.refl _⟩
  case round =>
    obtain ⟨k, hk, rfl, hg⟩ := hrel
    have HG := Lib.hid hg
    clear hg
    by_cases hlt : k < n
    · obtain ⟨b, o, rfl, hb, hc⟩ := HA.out (by rw [HN.out]; omega)
      obtain ⟨b2, o2, rfl, hb2, hc2⟩ := HB.out (by rw [HN.out]; omega)
      have hk2 : k < ls.length := by rw [HN.out]; exact hlt
      obtain ⟨l, hl⟩ : ∃ l, ls[k] = l := ⟨_, rfl⟩
      have hat := (hc k hk2).keep hb HG.out
      have hat2 := (hc2 k hk2).keep hb2 HG.out
      rw [hl] at hat hat2
      obtain ⟨c0, c1, c2, c3, c4, c5⟩ := hat
      obtain ⟨d0, d1, d2, d3, d4, d5⟩ := hat2
      have hs := fun w => eqLine_any l l w
      rw [Ln.same_self] at hs
      have HS := Lib.hid hs
      clear hl hc hc2 hs
      unfold Ln.agg at HS
      go_wp2_with fail
      first | (go_region_with (go_at_call 106; refine (HS.out _).mono ?_; rintro e w1 ⟨rfl, hg1⟩)) | skip
      all_goals
        go_wp2
        go_roundw
        case rel => exact ⟨k + 1, by omega, by go_num, (HG.out.drew).trans hg1⟩
        case measure => simp [intOf]; omega
    · go_wp2
      go_ret
      exact ⟨rfl, HG.out⟩

end Go.Proofs.Yteifcogfnpeahaa
