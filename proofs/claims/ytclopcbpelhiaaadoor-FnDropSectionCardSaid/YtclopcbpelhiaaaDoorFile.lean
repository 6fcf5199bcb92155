/-
  What the program's test of a file returns, and the law's own helpers: sizes, copies and comparison of files. Conditions: at most 1048576 lines, each part at most 1048576 bytes.
  The law of ValidFile: whatever the file, it returns true. Conditions: parts no longer than a text may be.
-/
import Derived.Test.YtclopcbpelhiaaaDoorMem
import Derived.Test.YtclopcbpelhiaaaDoorVLine
namespace Go.Proofs.YtclopcbpelhiaaaDoor
open Go.RowKit

set_option maxHeartbeats 1000000 in
theorem implFile_any (A : Option Addr) (c : Nat) (ls : List Ln) (w : World) (hf : AllFit ls) (hA : LnsAt w A ls) :
    Calls Tryd.prog 43 #[.agg #[.slice A ls.length c]] w fun e w' => e = .returned (.bool (vfile ls)) ∧ Grows w w' := by
  have hn := hf.1
  have HF := Lib.hid hf.2
  have HA := Lib.hid hA
  clear hA hf
  obtain ⟨n, hnn⟩ : ∃ n, ls.length = n := ⟨_, rfl⟩
  rw [hnn] at hn
  rw [hnn]
  have HN := Lib.hid hnn
  clear hnn
  by_cases h20 : n ≤ 20
  · go_enter Tryd.func43, Tryd.ntmps43
    go_wp2
    go_loopw [12] (fun i wr => ∃ k : Nat, k ≤ n ∧ i = .int .i64 k ∧ VUpto ls k ∧ Grows (w.alloc (fbox A n c)) wr) (fun i _ => n - (intOf i).toNat)
    case atStart => exact ⟨0, Nat.zero_le _, rfl, VUpto.zero _, Grows.refl _⟩
    case round =>
      obtain ⟨k, hk, rfl, hL, hg⟩ := hrel
      have HL := Lib.hid hL
      clear hL
      have HG := Lib.hid hg
      clear hg
      by_cases hlt : k < n
      · obtain ⟨b, o, rfl, hb, hc⟩ := HA.out (by rw [HN.out]; omega)
        have hk2 : k < ls.length := by rw [HN.out]; exact hlt
        have hbs : b < w.heap.size + 1 := by omega
        obtain ⟨l, hl⟩ : ∃ l, ls[k] = l := ⟨_, rfl⟩
        have hat := (((hc k hk2).keep hb ((Grows.refl _).alloc (fbox (some ⟨b, o, none⟩) n c))).keep (by simpa using hbs) HG.out)
        rw [hl] at hat
        obtain ⟨c0, c1, c2, c3, c4, c5⟩ := hat
        have HS := Lib.hid (fun w => validLine_any l w (hl ▸ HF.out k hk2))
        have HK := Lib.hid hl
        clear hl hc
        unfold Ln.agg at HS
        by_cases hv : vline l = true
        · have HV := Lib.hid hv
          rw [hv] at HS
          clear hv
          go_wp2_with fail
          refine (HS.out _).mono ?_
          rintro e w1 ⟨rfl, hg1⟩
          go_wp2
          go_roundw
          case rel => exact ⟨k + 1, by omega, by go_num, HL.out.succ hk2 (by rw [HK.out]; exact HV.out), (HG.out.alloc _).trans hg1⟩
          case measure => simp [intOf]; omega
        · have hv' : vline l = false := by simpa using hv
          have HV : Hid (vfile ls = false) := by
            unfold Hid vfile
            rw [vlines_not hk2 (by rw [HK.out]; exact hv')]; rfl
          rw [hv'] at HS
          clear hv hv'
          go_wp2_with fail
          refine (HS.out _).mono ?_
          rintro e w1 ⟨rfl, hg1⟩
          go_wp2
          go_ret
          exact ⟨ret_bool HV.out.symm, ((((Grows.refl _).alloc _).trans HG.out).alloc _).trans hg1⟩
      · obtain rfl : k = n := by omega
        have HV : Hid (vfile ls = true) := by
          unfold Hid vfile
          rw [VUpto.all (by rw [HN.out]; exact HL.out), HN.out]; simp [h20]
        go_wp2
        go_ret
        exact ⟨ret_bool HV.out.symm, ((Grows.refl _).alloc _).trans HG.out⟩
  · have HV : Hid (vfile ls = false) := by
      unfold Hid vfile
      rw [HN.out]; simp [h20]
    go_enter Tryd.func43, Tryd.ntmps43
    go_wp2
    go_ret
    exact ⟨ret_bool HV.out.symm, (Grows.refl _).alloc _⟩
end Go.Proofs.YtclopcbpelhiaaaDoor
namespace Go.Proofs.YtclopcbpelhiaaaDoor
open Go.RowKit

theorem part_le {ls : List Ln} {i : Nat} (h : i < ls.length) : ls[i].size ≤ wsum ls ls.length := by
  have h1 := wsum_succ h
  have h2 := wsum_le ls (i + 1)
  omega
theorem fits_of {ls : List Ln} (h : (wlines ls : Int) ≤ 1048576) : AllFit ls := by
  have hw : wlines ls = ls.length + wsum ls ls.length := rfl
  refine ⟨by omega, fun i hi => ?_⟩
  have h1 := part_le hi
  have h2 : ls[i].size = ls[i].le.size + ls[i].na.size + ls[i].se.size + ls[i].va.size + ls[i].ta.size := rfl
  unfold Ln.fits maxLen
  omega

end Go.Proofs.YtclopcbpelhiaaaDoor
