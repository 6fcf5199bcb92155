/-
  The sections of a file: SectionsOf of the program and of the specification. Conditions: at most 1048576 bytes in all.
-/
import Derived.Test.YtdedidcjbocicaaKeys
import Derived.Test.YtdedidcjbocicaaTa
namespace Go.Proofs.Ytdedidcjbocicaa
open Go.RowKit

/-- line k is of those that begin or fill a section -/
def secLine (ls : List Ln) (k : Nat) : Bool := ls[k]!.k == 2 || ls[k]!.k == 3
/-- the sections among the first k lines -/
def secsTo (ls : List Ln) : Nat → List ByteArray
  | 0 => []
  | k + 1 => if secLine ls k = true then addT (secsTo ls k) (nowAt ls (k + 1)) else secsTo ls k
theorem secsTo_yes {ls : List Ln} {k : Nat} (h : secLine ls k = true) : secsTo ls (k + 1) = addT (secsTo ls k) (nowAt ls (k + 1)) := by
  show (if _ then _ else _) = _
  rw [if_pos h]
theorem secsTo_no {ls : List Ln} {k : Nat} (h : secLine ls k = false) : secsTo ls (k + 1) = secsTo ls k := by
  show (if _ then _ else _) = _
  rw [if_neg (by rw [h]; simp)]
theorem secsTo_le (ls : List Ln) (k : Nat) : (secsTo ls k).length ≤ k := by
  induction k with
  | zero => exact Nat.le_refl _
  | succ k ih =>
    by_cases h : secLine ls k = true
    · rw [secsTo_yes h]
      have := addT_le (secsTo ls k) (nowAt ls (k + 1))
      omega
    · rw [secsTo_no (by simpa using h)]; omega
/-- the sections of a file, none if it is not valid -/
def secsOf' (ls : List Ln) : List ByteArray := if vfile ls = true then secsTo ls ls.length else []
theorem secsOf_le (ls : List Ln) : (secsOf' ls).length ≤ ls.length := by
  unfold secsOf'
  split
  · exact secsTo_le _ _
  · exact Nat.zero_le _
theorem vfile_line {ls : List Ln} (hv : vfile ls = true) : ∀ i (h : i < ls.length), vline ls[i] = true := by
  have h1 : vlines ls = true := by
    unfold vfile at hv
    rw [Bool.and_eq_true] at hv
    exact hv.1
  unfold vlines at h1
  rw [List.all_eq_true] at h1
  exact fun i hi => h1 _ (List.getElem_mem hi)

set_option maxRecDepth 100000 in
set_option maxHeartbeats 4000000 in
theorem specSecs_any (A : Option Addr) (c : Nat) (ls : List Ln) (w : World) (hf : AllFit ls) (hA : LnsAt w A ls) :
    Calls Try.prog 38 #[.agg #[.slice A ls.length c]] w (StrsRet (secsOf' ls) w) := by
  have HF := Lib.hid (fun w1 (g : Grows w w1) => specFile_any A c ls w1 hf (hA.keep g))
  have HA := Lib.hid hA
  have hn : ls.length ≤ 1048576 := hf.1
  have HSA := Lib.hid (fun (i : Nat) (h : i < ls.length) w1 (g : Grows w w1) => sectionAt_any A c ls i w1 hf.1 h (hA.keep g))
  clear hA hf
  by_cases hv : vfile ls = true
  · rw [hv] at HF
    have HV : Hid (secsOf' ls = secsTo ls ls.length) := by unfold Hid secsOf'; rw [if_pos hv]
    clear hv
    obtain ⟨n, hnn⟩ : ∃ n, ls.length = n := ⟨_, rfl⟩
    rw [hnn] at hn HF HV HSA
    rw [hnn]
    have HN := Lib.hid hnn
    clear hnn
    go_enter Try.func38, Try.ntmps38
    go_wp2_with fail
    refine (HF.out _ ((Grows.refl _).alloc _)).mono ?_
    rintro e w1 ⟨rfl, g1⟩
    have HG0 : Hid (Grows (w.alloc (fbox A n c)) w1) := g1
    have HG1 : Hid (Grows w w1) := ((Grows.refl _).alloc _).trans g1
    clear g1
    go_wp2_with fail
    go_loopw [3, 4] (fun v i wr => ∃ (j : Nat) (K : List ByteArray), j ≤ n ∧ i = .int .i64 j ∧ Hid (K = secsTo ls j) ∧ K.length ≤ j ∧ Hid (OwnS wr w1.heap.size v K) ∧ Hid (Grows w1 wr)) (fun _ i _ => n - (intOf i).toNat)
    case atStart => exact ⟨0, [], Nat.zero_le _, rfl, rfl, Nat.zero_le _, OwnS.empty _ _ (Nat.le_refl _), (Grows.refl _).alloc _⟩
    case round =>
      obtain ⟨j, K, hj, rfl, HK, hKj, HO, HG⟩ := hrel
      have hb0 : wr.cell? ⟨w.heap.size, 0, none⟩ = some (.slice A n c) := ((HG0.out.trans HG.out).cell (p := ⟨w.heap.size, 0, none⟩) (by simp)).trans (by simp [fbox])
      by_cases hlt : j < n
      · obtain ⟨b, o, rfl, hb, hc⟩ := HA.out (by rw [HN.out]; omega)
        have hk2 : j < ls.length := by rw [HN.out]; exact hlt
        have hsu := get_bang hk2
        obtain ⟨l, hl⟩ : ∃ l, ls[j] = l := ⟨_, rfl⟩
        have hat := (hc j hk2).keep hb (HG1.out.trans HG.out)
        rw [hl] at hat hsu
        obtain ⟨c0, c1, c2, c3, c4, c5⟩ := hat
        have HC := Lib.hid (HSA.out j hlt wr (HG1.out.trans HG.out))
        have HST : Hid (secsTo ls (j + 1) = if (l.k == 2 || l.k == 3) = true then addT K (nowAt ls (j + 1)) else K) := by
          unfold Hid
          rw [← hsu, HK.out]; rfl
        obtain ⟨x, hx⟩ : ∃ x, nowAt ls (j + 1) = x := ⟨_, rfl⟩
        rw [hx] at HC HST
        clear hl hc hx hsu
        have HD := Lib.hid (fun v w2 (hg : Grows wr w2) (h : OwnS wr w1.heap.size v K) => addText_any v w1.heap.size K x w2 (by omega) (Nat.le_trans HG.out.size hg.size) (h.keep hg))
        have hle := addT_le K x
        by_cases h2 : (l.k == 2) = true
        · have HS2 : Hid (secsTo ls (j + 1) = addT K x) := by unfold Hid; rw [HST.out, if_pos (by rw [h2]; rfl)]
          go_wp2_with fail
          refine (HC.out).mono ?_
          rintro e w2 ⟨rfl, g2⟩
          have HG2 := Lib.hid g2
          clear g2
          go_wp2_with fail
          refine (HD.out _ _ HG2.out HO.out).mono ?_
          rintro e w3 ⟨v', rfl, ho2, hb3⟩
          have HO2 := Lib.hid ho2
          have HG3 : Hid (Grows w1 w3) := Below.trans (HG.out.trans HG2.out) hb3
          clear ho2 hb3
          go_wp2
          go_roundw
          case rel => exact ⟨j + 1, addT K x, by omega, by go_num, HS2.out.symm, by omega, HO2.out, HG3.out⟩
          case measure => simp [intOf]; omega
        · have h2' : (l.k == 2) = false := by simpa using h2
          clear h2
          by_cases h3 : (l.k == 3) = true
          · have HS2 : Hid (secsTo ls (j + 1) = addT K x) := by unfold Hid; rw [HST.out, if_pos (by rw [h2', h3]; rfl)]
            go_wp2_with fail
            refine (HC.out).mono ?_
            rintro e w2 ⟨rfl, g2⟩
            have HG2 := Lib.hid g2
            clear g2
            go_wp2_with fail
            refine (HD.out _ _ HG2.out HO.out).mono ?_
            rintro e w3 ⟨v', rfl, ho2, hb3⟩
            have HO2 := Lib.hid ho2
            have HG3 : Hid (Grows w1 w3) := Below.trans (HG.out.trans HG2.out) hb3
            clear ho2 hb3
            go_wp2
            go_roundw
            case rel => exact ⟨j + 1, addT K x, by omega, by go_num, HS2.out.symm, by omega, HO2.out, HG3.out⟩
            case measure => simp [intOf]; omega
          · have h3' : (l.k == 3) = false := by simpa using h3
            have HS2 : Hid (secsTo ls (j + 1) = K) := by unfold Hid; rw [HST.out, if_neg (by rw [h2', h3']; simp)]
            clear h3
            go_wp2
            go_roundw
            case rel => exact ⟨j + 1, K, by omega, by go_num, HS2.out.symm, by omega, HO.out, HG.out⟩
            case measure => simp [intOf]; omega
      · obtain rfl : j = n := by omega
        go_wp2
        go_ret
        rw [HV.out, ← HK.out]
        exact ⟨_, rfl, HO.out.less HG1.out.size, HG1.out.trans HG.out⟩
  · have hv' : vfile ls = false := by simpa using hv
    rw [hv'] at HF
    have HV : Hid (secsOf' ls = []) := by unfold Hid secsOf'; rw [if_neg hv]
    clear hv hv'
    go_enter Try.func38, Try.ntmps38
    go_wp2_with fail
    refine (HF.out _ ((Grows.refl _).alloc _)).mono ?_
    rintro e w1 ⟨rfl, g1⟩
    go_wp2
    go_ret
    rw [HV.out]
    exact ⟨_, rfl, OwnS.nil _ _, ((Grows.refl _).alloc _).trans g1⟩

set_option maxRecDepth 100000 in
set_option maxHeartbeats 4000000 in
theorem implSecs_any (A : Option Addr) (c : Nat) (ls : List Ln) (w : World) (hf : AllFit ls) (hA : LnsAt w A ls) :
    Calls Try.prog 19 #[.agg #[.slice A ls.length c]] w (StrsRet (secsOf' ls) w) := by
  have HF := Lib.hid (fun w1 (g : Grows w w1) => implFile_any A c ls w1 hf (hA.keep g))
  have HA := Lib.hid hA
  have hn : ls.length ≤ 1048576 := hf.1
  clear hA hf
  by_cases hv : vfile ls = true
  · rw [hv] at HF
    have HV : Hid (secsOf' ls = secsTo ls ls.length) := by unfold Hid secsOf'; rw [if_pos hv]
    have HVL := Lib.hid (vfile_line hv)
    clear hv
    obtain ⟨n, hnn⟩ : ∃ n, ls.length = n := ⟨_, rfl⟩
    rw [hnn] at hn HF HV
    rw [hnn]
    have HN := Lib.hid hnn
    clear hnn
    go_enter Try.func19, Try.ntmps19
    go_wp2_with fail
    refine (HF.out _ ((Grows.refl _).alloc _)).mono ?_
    rintro e w1 ⟨rfl, g1⟩
    have hx1 : w1.cell? ⟨w.heap.size, 0, none⟩ = some (.slice A n c) := (g1.cell (p := ⟨w.heap.size, 0, none⟩) (by simp)).trans (by simp)
    have HG1 : Hid (Grows w w1) := ((Grows.refl _).alloc _).trans g1
    clear g1
    go_wp2_with fail
    go_loopw [3, 4, 15] (fun v nw i wr => ∃ (j : Nat) (t : ByteArray) (K : List ByteArray), j ≤ n ∧ i = .int .i64 j ∧ nw = .string t ∧ Hid (t = nowAt ls j) ∧ Hid (K = secsTo ls j) ∧ K.length ≤ j ∧ Hid (OwnS wr w1.heap.size v K) ∧ Hid (Grows w1 wr)) (fun _ _ i _ => n - (intOf i).toNat)
    case atStart => exact ⟨0, ⟨#[]⟩, [], Nat.zero_le _, rfl, rfl, rfl, rfl, Nat.zero_le _, OwnS.nil _ _, Grows.refl _⟩
    case round =>
      obtain ⟨j, t, K, hj, rfl, rfl, HT, HK, hKj, HO, HG⟩ := hrel
      clear hx1
      by_cases hlt : j < n
      · obtain ⟨b, o, rfl, hb, hc⟩ := HA.out (by rw [HN.out]; omega)
        have hk2 : j < ls.length := by rw [HN.out]; exact hlt
        have hsu := get_bang hk2
        have hnw := nowAt_succ hk2
        have hvl := HVL.out j hk2
        obtain ⟨l, hl⟩ : ∃ l, ls[j] = l := ⟨_, rfl⟩
        have hat := (hc j hk2).keep hb (HG1.out.trans HG.out)
        rw [hl] at hat hsu hnw hvl
        obtain ⟨c0, c1, c2, c3, c4, c5⟩ := hat
        have HST : Hid (secsTo ls (j + 1) = if (l.k == 2 || l.k == 3) = true then addT K (nowAt ls (j + 1)) else K) := by
          unfold Hid
          rw [← hsu, HK.out]; rfl
        have HSU := Lib.hid hnw
        clear hl hc hsu hnw
        have hkk := vline_k hvl
        obtain ⟨lk, le, na, se, va, ta⟩ := l
        rcases hkk with rfl | rfl | rfl | rfl
        · obtain ⟨rfl, rfl, rfl, rfl⟩ := vline_0 hvl
          have HFO := Lib.hid (fun w => formOf_0 le ⟨#[]⟩ ⟨#[]⟩ ⟨#[]⟩ ⟨#[]⟩ w)
          unfold Ln.agg Ln.box at HFO
          have t2 := ta_0_2 (.agg #[.string le])
          have t3 := ta_0_3 (.agg #[.string le])
          have HNW : Hid (nowAt ls (j + 1) = t) := (HSU.out.trans (if_neg (by simp))).trans HT.out.symm
          have HS2 : Hid (secsTo ls (j + 1) = K) := HST.out
          clear hvl
          go_wp2_with (go_at_call 42; refine (HFO.out _).mono ?_; rintro e w' ⟨rfl, rfl⟩)
          go_roundw
          case rel => exact ⟨j + 1, t, K, by omega, by go_num, rfl, HNW.out.symm, HS2.out.symm, by omega, by repeat (first | exact HO.out | exact HO.out.keep (by repeat (first | exact Grows.refl _ | refine Grows.alloc ?_ _))), by repeat (first | exact HG.out | refine Grows.alloc ?_ _)⟩
          case measure => simp [intOf]; omega
        · obtain ⟨rfl, rfl, rfl⟩ := vline_1 hvl
          have HFO := Lib.hid (fun w => formOf_1 le ⟨#[]⟩ ⟨#[]⟩ va ⟨#[]⟩ w)
          unfold Ln.agg Ln.box at HFO
          have t2 := ta_1_2 (.agg #[.string le, .string va])
          have t3 := ta_1_3 (.agg #[.string le, .string va])
          have HNW : Hid (nowAt ls (j + 1) = t) := (HSU.out.trans (if_neg (by simp))).trans HT.out.symm
          have HS2 : Hid (secsTo ls (j + 1) = K) := HST.out
          clear hvl
          go_wp2_with (go_at_call 42; refine (HFO.out _).mono ?_; rintro e w' ⟨rfl, rfl⟩)
          go_roundw
          case rel => exact ⟨j + 1, t, K, by omega, by go_num, rfl, HNW.out.symm, HS2.out.symm, by omega, by repeat (first | exact HO.out | exact HO.out.keep (by repeat (first | exact Grows.refl _ | refine Grows.alloc ?_ _))), by repeat (first | exact HG.out | refine Grows.alloc ?_ _)⟩
          case measure => simp [intOf]; omega
        · obtain ⟨rfl, rfl⟩ := vline_2 hvl
          have HFO := Lib.hid (fun w => formOf_2 le na ⟨#[]⟩ ⟨#[]⟩ ta w)
          unfold Ln.agg Ln.box at HFO
          have t2 := ta_2_2 (.agg #[.string le, .string na, .string ta])
          have HNW : Hid (nowAt ls (j + 1) = na) := HSU.out.trans (if_pos rfl)
          have HS2 : Hid (secsTo ls (j + 1) = addT K na) := by unfold Hid; rw [HST.out, HNW.out]; rfl
          have HD := Lib.hid (fun v w2 (hg : Grows wr w2) (h : OwnS wr w1.heap.size v K) => addOnce_any v w1.heap.size K na w2 (by omega) (Nat.le_trans HG.out.size hg.size) (h.keep hg))
          have hle := addT_le K na
          clear hvl
          go_wp2_with (first | (go_at_call 42; refine (HFO.out _).mono ?_; rintro e w' ⟨rfl, rfl⟩) | (go_at_call 43; refine (HD.out _ _ (by repeat (first | exact Grows.refl _ | refine Grows.alloc ?_ _)) HO.out).mono ?_; rintro e w3 ⟨v', rfl, ho2, hb3⟩))
          have HG3 : Hid (Grows w1 w3) := Below.trans (show Grows w1 _ from by repeat (first | exact HG.out | refine Grows.alloc ?_ _)) hb3
          go_roundw
          case rel => exact ⟨j + 1, na, addT K na, by omega, by go_num, rfl, HNW.out.symm, HS2.out.symm, by omega, ho2, HG3.out⟩
          case measure => simp [intOf]; omega
        · have HFO := Lib.hid (fun w => formOf_3 le na se va ta w)
          unfold Ln.agg Ln.box at HFO
          have t2 := ta_3_2 (.agg #[.string le, .string na, .string se, .string va, .string ta])
          have t3 := ta_3_3 (.agg #[.string le, .string na, .string se, .string va, .string ta])
          have HNW : Hid (nowAt ls (j + 1) = t) := (HSU.out.trans (if_neg (by simp))).trans HT.out.symm
          have HS2 : Hid (secsTo ls (j + 1) = addT K t) := by unfold Hid; rw [HST.out, HNW.out]; rfl
          have HD := Lib.hid (fun v w2 (hg : Grows wr w2) (h : OwnS wr w1.heap.size v K) => addOnce_any v w1.heap.size K t w2 (by omega) (Nat.le_trans HG.out.size hg.size) (h.keep hg))
          have hle := addT_le K t
          clear hvl
          go_wp2_with (first | (go_at_call 42; refine (HFO.out _).mono ?_; rintro e w' ⟨rfl, rfl⟩) | (go_at_call 43; refine (HD.out _ _ (by repeat (first | exact Grows.refl _ | refine Grows.alloc ?_ _)) HO.out).mono ?_; rintro e w3 ⟨v', rfl, ho2, hb3⟩))
          have HG3 : Hid (Grows w1 w3) := Below.trans (show Grows w1 _ from by repeat (first | exact HG.out | refine Grows.alloc ?_ _)) hb3
          go_roundw
          case rel => exact ⟨j + 1, t, addT K t, by omega, by go_num, rfl, HNW.out.symm, HS2.out.symm, by omega, ho2, HG3.out⟩
          case measure => simp [intOf]; omega
      · obtain rfl : j = n := by omega
        go_wp2
        go_ret
        rw [HV.out, ← HK.out]
        exact ⟨_, rfl, HO.out.less HG1.out.size, HG1.out.trans HG.out⟩
  · have hv' : vfile ls = false := by simpa using hv
    rw [hv'] at HF
    have HV : Hid (secsOf' ls = []) := by unfold Hid secsOf'; rw [if_neg hv]
    clear hv hv'
    go_enter Try.func19, Try.ntmps19
    go_wp2_with fail
    refine (HF.out _ ((Grows.refl _).alloc _)).mono ?_
    rintro e w1 ⟨rfl, g1⟩
    go_wp2
    go_ret
    rw [HV.out]
    exact ⟨_, rfl, OwnS.nil _ _, ((Grows.refl _).alloc _).trans g1⟩
end Go.Proofs.Ytdedidcjbocicaa
