/-
  The pairs of a key, the line of a key and its value: pairsOf, WhereIs and GetValue of the program, lastPair, WhereIs and GetValue of the specification. Conditions: at most 1048576 bytes in all.
-/
import Derived.Test.YtdedidcjbocicaaSec
namespace Go.Proofs.Ytdedidcjbocicaa
open Go.RowKit

/-- line i is a pair of the key -/
def isKey (ls : List Ln) (key : ByteArray) (i : Nat) : Bool := (ls[i]!.k == 3) && (ls[i]!.na.toList == key.toList)
/-- line i is a pair of the key in the section -/
def isPair (ls : List Ln) (s key : ByteArray) (i : Nat) : Bool := isKey ls key i && inSec ls s i
/-- the last pair below k, -1 if there is none -/
def lastP (ls : List Ln) (s key : ByteArray) : Nat → Int
  | 0 => -1
  | k + 1 => if isPair ls s key k = true then (k : Int) else lastP ls s key k
def pairsTo (ls : List Ln) (s key : ByteArray) (k : Nat) : List Nat := (List.range k).filter (isPair ls s key)
theorem pairsTo_eq (ls : List Ln) (s key : ByteArray) (k : Nat) : (secTo ls s k).filter (isKey ls key) = pairsTo ls s key k := by
  unfold secTo pairsTo isPair
  rw [List.filter_filter]
theorem lastP_lt (ls : List Ln) (s key : ByteArray) (k : Nat) : lastP ls s key k < k ∧ -1 ≤ lastP ls s key k := by
  induction k with
  | zero => exact ⟨by show (-1 : Int) < 0; omega, Int.le_refl _⟩
  | succ k ih =>
    unfold lastP
    split <;> omega
theorem lastP_pairs (ls : List Ln) (s key : ByteArray) (k : Nat) : lastP ls s key k = match (pairsTo ls s key k).getLast? with | some i => (i : Int) | none => -1 := by
  induction k with
  | zero => rfl
  | succ k ih =>
    have hs : pairsTo ls s key (k + 1) = pairsTo ls s key k ++ (if isPair ls s key k = true then [k] else []) := by
      unfold pairsTo
      rw [List.range_succ, List.filter_append]
      congr 1
      by_cases h : isPair ls s key k = true <;> simp [h]
    unfold lastP
    rw [hs]
    by_cases h : isPair ls s key k = true
    · rw [if_pos h, if_pos h, List.getLast?_append]
      rfl
    · rw [if_neg h, if_neg h, List.append_nil]
      exact ih
theorem get_bang {ls : List Ln} {k : Nat} (h : k < ls.length) : ls[k]! = ls[k] := by
  rw [List.getElem!_eq_getElem?_getD, List.getElem?_eq_getElem h]; rfl

set_option maxRecDepth 100000 in
set_option maxHeartbeats 2000000 in
theorem sectionAt_any (A : Option Addr) (c : Nat) (ls : List Ln) (i : Nat) (w : World) (hn : ls.length ≤ 1048576) (hi : i < ls.length) (hA : LnsAt w A ls) :
    Calls Try.prog 51 #[.agg #[.slice A ls.length c], .int .i64 i] w fun e w' => e = .returned (.string (nowAt ls (i + 1))) ∧ Grows w w' := by
  have HA := Lib.hid hA
  obtain ⟨n, hnn⟩ : ∃ n, ls.length = n := ⟨_, rfl⟩
  rw [hnn] at hn hi
  rw [hnn]
  have HN := Lib.hid hnn
  clear hnn hA
  go_enter Try.func51, Try.ntmps51
  go_wp2
  go_loopw [1] (fun v wr => ∃ m : Int, v = .int .i64 m ∧ -1 ≤ m ∧ m ≤ i ∧ Hid (nowAt ls (i + 1) = nowAt ls (m + 1).toNat) ∧ Grows (w.alloc (fbox A n c)) wr) (fun v _ => (intOf v + 1).toNat)
  case atStart => exact ⟨i, rfl, by omega, Int.le_refl _, rfl, Grows.refl _⟩
  case round =>
    obtain ⟨m, rfl, hm1, hm2, HM, hg⟩ := hrel
    have HG := Lib.hid hg
    have hb0 : wr.cell? ⟨w.heap.size, 0, none⟩ = some (.slice A n c) := (HG.out.cell (p := ⟨w.heap.size, 0, none⟩) (by simp)).trans (by simp [fbox])
    clear hg
    by_cases hm : 0 ≤ m
    · obtain ⟨j, rfl⟩ := Int.eq_ofNat_of_zero_le hm
      have hj : j < n := by omega
      obtain ⟨b, o, rfl, hb, hc⟩ := HA.out (by rw [HN.out]; omega)
      have hk2 : j < ls.length := by rw [HN.out]; exact hj
      have hbs : b < w.heap.size + 1 := by omega
      have HSU := Lib.hid (nowAt_succ hk2)
      obtain ⟨l, hl⟩ : ∃ l, ls[j] = l := ⟨_, rfl⟩
      have hat := (((hc j hk2).keep hb ((Grows.refl _).alloc (fbox (some ⟨b, o, none⟩) n c))).keep (by simpa using hbs) HG.out)
      rw [hl] at hat HSU
      obtain ⟨c0, c1, c2, c3, c4, c5⟩ := hat
      clear hl hc
      by_cases h2 : l.k = 2
      · have hB : (l.k == 2) = true := by rw [beq_iff_eq]; exact h2
        have HNW : Hid (nowAt ls (i + 1) = l.na) := by
          have h1 := HM.out
          rw [show ((j : Int) + 1).toNat = j + 1 from by omega] at h1
          unfold Hid; rw [h1, HSU.out, if_pos h2]
        clear h2
        go_wp2
        go_ret
        exact ⟨ret_str HNW.out.symm, ((Grows.refl _).alloc _).trans HG.out⟩
      · have hB : (l.k == 2) = false := by rw [beq_eq_false_iff_ne]; exact h2
        have HNW : Hid (nowAt ls (i + 1) = nowAt ls j) := by
          have h1 := HM.out
          rw [show ((j : Int) + 1).toNat = j + 1 from by omega] at h1
          unfold Hid; rw [h1, HSU.out, if_neg h2]
        clear h2
        go_wp2
        go_roundw
        case rel => exact ⟨(j : Int) - 1, rfl, by omega, by omega, by unfold Hid; rw [HNW.out]; congr 1; omega, HG.out⟩
        case measure => simp [intOf] <;> omega
    · obtain rfl : m = -1 := by omega
      go_wp2
      go_ret
      exact ⟨ret_str HM.out.symm, ((Grows.refl _).alloc _).trans HG.out⟩

theorem lastP_yes {ls : List Ln} {s key : ByteArray} {k : Nat} (h : isPair ls s key k = true) : lastP ls s key (k + 1) = k := by
  show (if isPair ls s key k = true then (k : Int) else lastP ls s key k) = k
  rw [if_pos h]
theorem lastP_no {ls : List Ln} {s key : ByteArray} {k : Nat} (h : isPair ls s key k = false) : lastP ls s key (k + 1) = lastP ls s key k := by
  show (if isPair ls s key k = true then (k : Int) else lastP ls s key k) = _
  rw [if_neg (by rw [h]; simp)]

set_option maxRecDepth 100000 in
set_option maxHeartbeats 2000000 in
theorem lastPair_any (A : Option Addr) (c : Nat) (ls : List Ln) (s key : ByteArray) (w : World) (hn : ls.length ≤ 1048576) (hA : LnsAt w A ls) :
    Calls Try.prog 41 #[.agg #[.slice A ls.length c], .string s, .string key] w fun e w' => e = .returned (.int .i64 (lastP ls s key ls.length)) ∧ Grows w w' := by
  have HA := Lib.hid hA
  have HSA := Lib.hid (fun (i : Nat) (h : i < ls.length) w1 (g : Grows w w1) => sectionAt_any A c ls i w1 hn h (hA.keep g))
  obtain ⟨n, hnn⟩ : ∃ n, ls.length = n := ⟨_, rfl⟩
  rw [hnn] at hn HSA
  rw [hnn]
  have HN := Lib.hid hnn
  clear hnn hA
  go_enter Try.func41, Try.ntmps41
  go_wp2
  go_loopw [7] (fun v wr => ∃ m : Int, v = .int .i64 m ∧ -1 ≤ m ∧ m < n ∧ Hid (lastP ls s key n = lastP ls s key (m + 1).toNat) ∧ Grows (w.alloc (fbox A n c)) wr) (fun v _ => (intOf v + 1).toNat)
  case atStart => exact ⟨(n : Int) - 1, rfl, by omega, by omega, by unfold Hid; congr 1; omega, Grows.refl _⟩
  case round =>
    obtain ⟨m, rfl, hm1, hm2, HM, hg⟩ := hrel
    have HG := Lib.hid hg
    have hb0 : wr.cell? ⟨w.heap.size, 0, none⟩ = some (.slice A n c) := (HG.out.cell (p := ⟨w.heap.size, 0, none⟩) (by simp)).trans (by simp [fbox])
    clear hg
    by_cases hm : 0 ≤ m
    · obtain ⟨j, rfl⟩ := Int.eq_ofNat_of_zero_le hm
      have hj : j < n := by omega
      obtain ⟨b, o, rfl, hb, hc⟩ := HA.out (by rw [HN.out]; omega)
      have hk2 : j < ls.length := by rw [HN.out]; exact hj
      have hbs : b < w.heap.size + 1 := by omega
      have HSU := Lib.hid (get_bang hk2)
      obtain ⟨l, hl⟩ : ∃ l, ls[j] = l := ⟨_, rfl⟩
      have hat := (((hc j hk2).keep hb ((Grows.refl _).alloc (fbox (some ⟨b, o, none⟩) n c))).keep (by simpa using hbs) HG.out)
      rw [hl] at hat HSU
      obtain ⟨c0, c1, c2, c3, c4, c5⟩ := hat
      have HK : Hid (isPair ls s key j = ((l.k == 3) && ((l.na.toList == key.toList) && ((nowAt ls (j + 1)).toList == s.toList)))) := by
        unfold Hid isPair isKey inSec
        rw [HSU.out, Bool.and_assoc]
      clear hl hc
      have HC := Lib.hid (HSA.out j hj)
      obtain ⟨x, hx⟩ : ∃ x, nowAt ls (j + 1) = x := ⟨_, rfl⟩
      rw [hx] at HC HK
      clear hx
      go_wp2_with (go_at_call 51; refine (HC.out _ (((Grows.refl _).alloc _).trans HG.out)).mono ?_; rintro e w2 ⟨rfl, hg2⟩)
      · have a1 : l.k = 3 := by assumption
        have a2 : l.na.toList = key.toList := by assumption
        have a3 : (x.toList == s.toList) = true := by assumption
        have HL : Hid (lastP ls s key n = j) := by
          have h1 := HM.out
          rw [show ((j : Int) + 1).toNat = j + 1 from by omega, lastP_yes (by rw [HK.out, a3]; simp [a1, a2])] at h1
          exact h1
        go_ret
        exact ⟨ret_int HL.out.symm, (((Grows.refl _).alloc _).trans HG.out).trans hg2⟩
      · have a3 : (x.toList == s.toList) = false := by assumption
        have HL : Hid (lastP ls s key n = lastP ls s key ((j : Int) - 1 + 1).toNat) := by
          have h1 := HM.out
          rw [show ((j : Int) + 1).toNat = j + 1 from by omega, lastP_no (by rw [HK.out]; rw [a3]; simp)] at h1
          unfold Hid
          rw [h1]; congr 1; omega
        go_roundw
        case rel => exact ⟨(j : Int) - 1, rfl, by omega, by omega, HL.out, HG.out.trans hg2⟩
        case measure => simp [intOf] <;> omega
      · have a2 : ¬ l.na.toList = key.toList := by assumption
        have HL : Hid (lastP ls s key n = lastP ls s key ((j : Int) - 1 + 1).toNat) := by
          have h1 := HM.out
          rw [show ((j : Int) + 1).toNat = j + 1 from by omega, lastP_no (by rw [HK.out]; simp [a2])] at h1
          unfold Hid
          rw [h1]; congr 1; omega
        go_roundw
        case rel => exact ⟨(j : Int) - 1, rfl, by omega, by omega, HL.out, HG.out⟩
        case measure => simp [intOf] <;> omega
      · have a1 : ¬ l.k = 3 := by assumption
        have HL : Hid (lastP ls s key n = lastP ls s key ((j : Int) - 1 + 1).toNat) := by
          have h1 := HM.out
          rw [show ((j : Int) + 1).toNat = j + 1 from by omega, lastP_no (by rw [HK.out]; simp [a1])] at h1
          unfold Hid
          rw [h1]; congr 1; omega
        go_roundw
        case rel => exact ⟨(j : Int) - 1, rfl, by omega, by omega, HL.out, HG.out⟩
        case measure => simp [intOf] <;> omega
    · obtain rfl : m = -1 := by omega
      go_wp2
      go_ret
      exact ⟨ret_int HM.out.symm, ((Grows.refl _).alloc _).trans HG.out⟩

/-- the line of a key in a file, -1 if there is none or the file is not valid -/
def whereOf (ls : List Ln) (s key : ByteArray) : Int := if vfile ls = true then lastP ls s key ls.length else -1
theorem whereOf_yes {ls : List Ln} (s key : ByteArray) (h : vfile ls = true) : whereOf ls s key = lastP ls s key ls.length := by rw [whereOf, if_pos h]
theorem whereOf_no {ls : List Ln} (s key : ByteArray) (h : vfile ls = false) : whereOf ls s key = -1 := by rw [whereOf, if_neg (by rw [h]; simp)]

set_option maxRecDepth 100000 in
set_option maxHeartbeats 2000000 in
theorem specWhere_any (A : Option Addr) (c : Nat) (ls : List Ln) (s key : ByteArray) (w : World) (hf : AllFit ls) (hA : LnsAt w A ls) :
    Calls Try.prog 34 #[.agg #[.slice A ls.length c], .string s, .string key] w fun e w' => e = .returned (.int .i64 (whereOf ls s key)) ∧ Grows w w' := by
  have HF := Lib.hid (fun w1 (g : Grows w w1) => specFile_any A c ls w1 hf (hA.keep g))
  have HT := Lib.hid (fun w1 (g : Grows w w1) => lastPair_any A c ls s key w1 hf.1 (hA.keep g))
  clear hf hA
  by_cases hv : vfile ls = true
  · rw [hv] at HF
    rw [← whereOf_yes s key hv] at HT
    clear hv
    go_enter Try.func34, Try.ntmps34
    go_wp2_with fail
    refine (HF.out _ ((Grows.refl _).alloc _)).mono ?_
    rintro e w1 ⟨rfl, g1⟩
    have hx1 : w1.cell? ⟨w.heap.size, 0, none⟩ = some (.slice A ls.length c) := (g1.cell (p := ⟨w.heap.size, 0, none⟩) (by simp)).trans (by simp)
    go_wp2_with fail
    refine (HT.out _ (((Grows.refl _).alloc _).trans g1)).mono ?_
    rintro e w2 ⟨rfl, g2⟩
    go_wp2
    go_ret
    exact ⟨rfl, (((Grows.refl _).alloc _).trans g1).trans g2⟩
  · have hv' : vfile ls = false := by simpa using hv
    rw [hv'] at HF
    have HV := Lib.hid (whereOf_no s key hv')
    clear hv hv'
    go_enter Try.func34, Try.ntmps34
    go_wp2_with fail
    refine (HF.out _ ((Grows.refl _).alloc _)).mono ?_
    rintro e w1 ⟨rfl, g1⟩
    go_wp2
    go_ret
    exact ⟨ret_int HV.out.symm, ((Grows.refl _).alloc _).trans g1⟩
end Go.Proofs.Ytdedidcjbocicaa
