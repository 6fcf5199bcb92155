/-
  The texts of files, of the specification and of the program; the law of FileText. Conditions: at most 1048576 bytes in all.
-/
import Derived.Test.YtpffgpjiggdioaaText
import Derived.Test.YtpffgpjiggdioaaLawF
namespace Go.Proofs.Ytpffgpjiggdioaa
open Go.RowKit

set_option maxRecDepth 100000 in
set_option maxHeartbeats 1000000 in
theorem specFileText_any (A : Option Addr) (c : Nat) (ls : List Ln) (w : World) (hw : wlines ls ≤ 1048576) (hA : LnsAt w A ls) :
    Calls Try.prog 47 #[.agg #[.slice A ls.length c]] w fun e w' => e = .returned (.string (ftext ls ls.length)) ∧ Grows w w' := by
  have HW : Hid (wlines ls = ls.length + wsum ls ls.length) := rfl
  have HW2 := Lib.hid hw
  have HA := Lib.hid hA
  have hn : ls.length ≤ 1048576 := by have := HW.out; omega
  clear hA hw
  obtain ⟨n, hnn⟩ : ∃ n, ls.length = n := ⟨_, rfl⟩
  rw [hnn] at hn
  rw [hnn]
  have HN := Lib.hid hnn
  clear hnn
  go_enter Try.func47, Try.ntmps47
  go_wp2
  go_loopw [3, 4] (fun v i wr => ∃ (k : Nat) (t : ByteArray), k ≤ n ∧ i = .int .i64 k ∧ v = .string t ∧ t.size ≤ 4194304 ∧ Hid (t = ftext ls k) ∧ Grows (w.alloc (fbox A n c)) wr) (fun _ i _ => n - (intOf i).toNat)
  case atStart => exact ⟨0, ⟨#[]⟩, Nat.zero_le _, rfl, rfl, Nat.zero_le _, rfl, Grows.refl _⟩
  case round =>
    obtain ⟨k, t, hk, rfl, rfl, hts, HT, hg⟩ := hrel
    have HG := Lib.hid hg
    have hb0 : wr.cell? ⟨w.heap.size, 0, none⟩ = some (.slice A n c) := (HG.out.cell (p := ⟨w.heap.size, 0, none⟩) (by simp)).trans (by simp [fbox])
    clear hg
    by_cases hlt : k < n
    · obtain ⟨b, o, rfl, hb, hc⟩ := HA.out (by rw [HN.out]; omega)
      have hk2 : k < ls.length := by rw [HN.out]; exact hlt
      have hbs : b < w.heap.size + 1 := by omega
      have HSZ := Lib.hid (part_le hk2)
      have HSU := Lib.hid (ftext_succ hk2)
      obtain ⟨l, hl⟩ : ∃ l, ls[k] = l := ⟨_, rfl⟩
      have hat := (((hc k hk2).keep hb ((Grows.refl _).alloc (fbox (some ⟨b, o, none⟩) n c))).keep (by simpa using hbs) HG.out)
      rw [hl] at hat HSZ HSU
      obtain ⟨c0, c1, c2, c3, c4, c5⟩ := hat
      have HS := Lib.hid (fun w => specLineText_any l w (by have := HSZ.out; have := HW.out; have := HW2.out; omega))
      obtain ⟨x, hx⟩ : ∃ x, ltext l = x := ⟨_, rfl⟩
      have hxs : x.size ≤ 1048580 := by have := ltext_size l; have := HSZ.out; have := HW.out; have := HW2.out; rw [hx] at *; omega
      rw [hx] at HS HSU
      have HK := Lib.hid hl
      have HQ : Hid ((ftext ls (k + 1)).size ≤ 4194304) := by
        have h1 := ftext_size (ls := ls) (k := k + 1) hk2
        have h2 := wsum_le ls (k + 1)
        have := HW.out; have := HW2.out
        unfold Hid
        omega
      clear hl hc hx
      unfold Ln.agg at HS
      go_wp2_with fail
      refine (HS.out _).mono ?_
      rintro e w1 ⟨rfl, hg1⟩
      go_wp2
      go_roundw
      case rel => exact ⟨k + 1, _, by omega, by go_num, rfl, by have := HQ.out; rw [HSU.out, ← HT.out, ← ap_assoc] at this; exact this, by unfold Hid; rw [HSU.out, HT.out, ap_assoc], HG.out.trans hg1⟩
      case measure => simp [intOf]; omega
    · obtain rfl : k = n := by omega
      go_wp2
      go_ret
      exact ⟨ret_str HT.out, ((Grows.refl _).alloc _).trans HG.out⟩

/-- the text of a file, nothing for a file that is not valid -/
def fileTextOf (ls : List Ln) : ByteArray := if vfile ls = true then ftext ls ls.length else ⟨#[]⟩
theorem fileTextOf_yes {ls : List Ln} (h : vfile ls = true) : fileTextOf ls = ftext ls ls.length := by rw [fileTextOf, if_pos h]
theorem fileTextOf_no {ls : List Ln} (h : vfile ls = false) : fileTextOf ls = ⟨#[]⟩ := by rw [fileTextOf, if_neg (by rw [h]; simp)]

set_option maxRecDepth 100000 in
set_option maxHeartbeats 1000000 in
theorem specFText_any (A : Option Addr) (c : Nat) (ls : List Ln) (w : World) (hf : AllFit ls) (hw : wlines ls ≤ 1048576) (hA : LnsAt w A ls) :
    Calls Try.prog 20 #[.agg #[.slice A ls.length c]] w fun e w' => e = .returned (.string (fileTextOf ls)) ∧ Grows w w' := by
  have HF := Lib.hid (fun w1 (g : Grows w w1) => specFile_any A c ls w1 hf (hA.keep g))
  have HT := Lib.hid (fun w1 (g : Grows w w1) => specFileText_any A c ls w1 hw (hA.keep g))
  clear hf hw hA
  by_cases hv : vfile ls = true
  · rw [hv] at HF
    rw [← fileTextOf_yes hv] at HT
    clear hv
    go_enter Try.func20, Try.ntmps20
    go_wp2_with fail
    refine (HF.out _ ((Grows.refl _).alloc _)).mono ?_
    rintro e w1 ⟨rfl, g1⟩
    have hx1 : w1.cell? ⟨w.heap.size, 0, none⟩ = some (.slice A ls.length c) := (g1.cell (p := ⟨w.heap.size, 0, none⟩) (by simp)).trans (by simp)
    go_wp2_with fail
    refine (HT.out _ (((Grows.refl _).alloc _).trans g1)).mono ?_
    rintro e w2 ⟨rfl, g2⟩
    go_wp2
    go_ret
    exact ⟨rfl, (((Grows.refl _).alloc _).trans g1).trans g2⟩
  · have hv' : vfile ls = false := by simpa using hv
    rw [hv'] at HF
    have HV := Lib.hid (fileTextOf_no hv')
    clear hv hv'
    go_enter Try.func20, Try.ntmps20
    go_wp2_with fail
    refine (HF.out _ ((Grows.refl _).alloc _)).mono ?_
    rintro e w1 ⟨rfl, g1⟩
    go_wp2
    go_ret
    exact ⟨ret_str HV.out.symm, ((Grows.refl _).alloc _).trans g1⟩

set_option maxRecDepth 100000 in
set_option maxHeartbeats 1000000 in
theorem implFText_any (A : Option Addr) (c : Nat) (ls : List Ln) (w : World) (hf : AllFit ls) (hw : wlines ls ≤ 1048576) (hA : LnsAt w A ls) :
    Calls Try.prog 21 #[.agg #[.slice A ls.length c]] w fun e w' => e = .returned (.string (fileTextOf ls)) ∧ Grows w w' := by
  have HF := Lib.hid (fun w1 (g : Grows w w1) => implFile_any A c ls w1 hf (hA.keep g))
  have HW : Hid (wlines ls = ls.length + wsum ls ls.length) := rfl
  have HW2 := Lib.hid hw
  have HA := Lib.hid hA
  have hn : ls.length ≤ 1048576 := by have := HW.out; omega
  clear hA hw hf
  by_cases hv : vfile ls = true
  · rw [hv] at HF
    have HV := Lib.hid (fileTextOf_yes hv)
    have HVL : Hid (∀ i (h : i < ls.length), vline ls[i] = true) := by
      unfold Hid
      have h1 : vlines ls = true := by
        unfold vfile at hv
        rw [Bool.and_eq_true] at hv
        exact hv.1
      unfold vlines at h1
      rw [List.all_eq_true] at h1
      exact fun i hi => h1 _ (List.getElem_mem hi)
    clear hv
    obtain ⟨n, hnn⟩ : ∃ n, ls.length = n := ⟨_, rfl⟩
    rw [hnn] at hn HF
    rw [hnn]
    have HN := Lib.hid hnn
    clear hnn
    go_enter Try.func21, Try.ntmps21
    go_wp2_with fail
    refine (HF.out _ ((Grows.refl _).alloc _)).mono ?_
    rintro e w1 ⟨rfl, g1⟩
    have hx1 : w1.cell? ⟨w.heap.size, 0, none⟩ = some (.slice A n c) := (g1.cell (p := ⟨w.heap.size, 0, none⟩) (by simp)).trans (by simp)
    have HG1 : Hid (Grows w w1) := ((Grows.refl _).alloc _).trans g1
    clear g1
    go_wp2_with fail
    go_loopw [3, 12] (fun v i wr => ∃ (k : Nat) (t : ByteArray), k ≤ n ∧ i = .int .i64 k ∧ v = .string t ∧ t.size ≤ 4194304 ∧ Hid (t = ftext ls k) ∧ Grows w1 wr) (fun _ i _ => n - (intOf i).toNat)
    case atStart => exact ⟨0, ⟨#[]⟩, Nat.zero_le _, rfl, rfl, Nat.zero_le _, rfl, Grows.refl _⟩
    case round =>
      obtain ⟨k, t, hk, rfl, rfl, hts, HT, hg⟩ := hrel
      have HG := Lib.hid hg
      clear hg hx1
      by_cases hlt : k < n
      · obtain ⟨b, o, rfl, hb, hc⟩ := HA.out (by rw [HN.out]; omega)
        have hk2 : k < ls.length := by rw [HN.out]; exact hlt
        have HSZ := Lib.hid (part_le hk2)
        have HSU := Lib.hid (ftext_succ hk2)
        obtain ⟨l, hl⟩ : ∃ l, ls[k] = l := ⟨_, rfl⟩
        have hat := (hc k hk2).keep hb (HG1.out.trans HG.out)
        rw [hl] at hat HSZ HSU
        obtain ⟨c0, c1, c2, c3, c4, c5⟩ := hat
        have HS := Lib.hid (fun w => implLineText_any l w (hl ▸ HVL.out k hk2) (by have := HSZ.out; have := HW.out; have := HW2.out; omega))
        obtain ⟨x, hx⟩ : ∃ x, ltext l = x := ⟨_, rfl⟩
        have hxs : x.size ≤ 1048580 := by have := ltext_size l; have := HSZ.out; have := HW.out; have := HW2.out; rw [hx] at *; omega
        rw [hx] at HS HSU
        have HQ : Hid ((ftext ls (k + 1)).size ≤ 4194304) := by
          have h1 := ftext_size (ls := ls) (k := k + 1) hk2
          have h2 := wsum_le ls (k + 1)
          have := HW.out; have := HW2.out
          unfold Hid
          omega
        clear hl hc hx
        unfold Ln.agg at HS
        go_wp2_with fail
        refine (HS.out _).mono ?_
        rintro e w2 ⟨rfl, hg1⟩
        go_wp2
        go_roundw
        case rel => exact ⟨k + 1, _, by omega, by go_num, rfl, by have := HQ.out; rw [HSU.out, ← HT.out] at this; exact this, by unfold Hid; rw [HSU.out, HT.out], (HG.out.alloc _).trans hg1⟩
        case measure => simp [intOf]; omega
      · obtain rfl : k = n := by omega
        go_wp2
        go_ret
        exact ⟨ret_str (by rw [HT.out, HV.out, HN.out]), HG1.out.trans HG.out⟩
  · have hv' : vfile ls = false := by simpa using hv
    rw [hv'] at HF
    have HV := Lib.hid (fileTextOf_no hv')
    clear hv hv'
    go_enter Try.func21, Try.ntmps21
    go_wp2_with fail
    refine (HF.out _ ((Grows.refl _).alloc _)).mono ?_
    rintro e w1 ⟨rfl, g1⟩
    go_wp2
    go_ret
    exact ⟨ret_str HV.out.symm, ((Grows.refl _).alloc _).trans g1⟩
end Go.Proofs.Ytpffgpjiggdioaa
