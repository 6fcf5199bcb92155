/-
  The drawn law of LayerSections: whatever its bytes, it returns true. Condition: no more bytes than a slice may have.
-/
import Derived.Test.YtgjineoiebokhaaDoorDrwL
import Derived.Test.YtgjineoiebokhaaDoorLawH
import Derived.Test.YtgjineoiebokhaaDoorLayT
import Derived.Test.YtgjineoiebokhaaDoorKeep
import Derived.Test.YtgjineoiebokhaaDoorLaySec
import Derived.Test.YtgjineoiebokhaaDoorDWhere
namespace Go.Proofs.YtgjineoiebokhaaDoor
open Go.RowKit

set_option maxRecDepth 100000 in
set_option maxHeartbeats 4000000 in
theorem dLSec_any (A : Option Addr) (n c : Nat) (w : World) (hn : n ≤ maxLen) (hc : n ≤ c) (h : BytesAt w A n) :
    Calls Tryd.prog 4 #[.slice A n c] w fun e w' => e = .returned (.bool true) ∧ Below w.heap.size w w' := by
  by_cases hbig : 1048576 < n
  · clear h
    unfold maxLen at hn
    go_enter Tryd.func4, Tryd.ntmps4
    go_wp2
    go_ret
    exact ⟨rfl, (Grows.refl _).below⟩
  · have HD := Lib.hid (DrawLayerSections_any A n c w hn hc h)
    clear h
    unfold maxLen at hn
    go_enter Tryd.func4, Tryd.ntmps4
    go_wp2_with fail
    refine (HD.out).mono ?_
    rintro e w1 ⟨v, K, rfl, ⟨hS, hK⟩, hO, g1⟩
    obtain ⟨A0, c0, rfl, hcap, hA⟩ := OwnE.formC hO
    have hf := hS.fit hK
    have HA := Lib.hid hA
    have HSI := Lib.hid (fun w2 (g : Grows w1 w2) => implLSec_any A0 c0 K w2 hf (hA.keep g))
    have HSS := Lib.hid (fun w2 (g : Grows w1 w2) => specLSec_any A0 c0 K w2 hcap hf (hA.keep g))
    have HVI := Lib.hid (fun w2 (g : Grows w1 w2) => implLayer_any A0 c0 K w2 hf (hA.keep g))
    have HG1 := Lib.hid g1
    have hO' := Lib.hid hO
    have HFK := Lib.hid hf
    have hsl : (secL K).length ≤ 101 := Nat.le_trans (secL_le K) hK
    have HSO := Lib.hid (fun x (hx : x ∈ secL K) => secL_some hx)
    have HND := Lib.hid (secL_nodup K)
    have HPK := Lib.hid (fun (x : ByteArray) w2 (g : Grows w1 w2) => implSecOf_any A0 c0 K x w2 hf (hA.keep g))
    unfold StrsRet at HSI HSS
    unfold ResE at HPK
    clear hS hO g1 hA hf HD hcap
    obtain ⟨m, hm⟩ : ∃ m, K.length = m := ⟨_, rfl⟩
    rw [hm] at HSI HSS HVI hK hO' HPK ⊢
    have HM := Lib.hid hm
    clear hm
    obtain ⟨ss, hss⟩ : ∃ ss, secL K = ss := ⟨_, rfl⟩
    rw [hss] at HSI HSS hsl HSO HND
    clear hss
    obtain ⟨vb, hvb⟩ : ∃ vb, vlayer K = vb := ⟨_, rfl⟩
    rw [hvb] at HVI
    clear hvb
    have GW : Hid (Grows w1 w1) := Grows.refl _
    have X0 : Hid (Box (w1.alloc (.cells #[.slice A0 m c0] 25)) w1.heap.size (.slice A0 m c0) 25) := heap_alloc_new w1 _
    have hO'' := Lib.hid (hO'.out.keep ((Grows.refl w1).alloc (.cells #[.slice A0 m c0] 25)))
    clear hO'
    have hO' := hO''
    clear hO''
    have GA : Hid (Grows w1 (w1.alloc (.cells #[.slice A0 m c0] 25))) := GW.out.alloc _
    clear GW
    have GW := GA
    clear GA
    have cX0 := X0.out.cell
    go_wp2_with fail
    refine (HSI.out _ GW.out).mono ?_
    rintro e w2 ⟨nv, rfl, hnv, g2⟩
    clear cX0
    have X0' := Lib.hid (X0.out.keep g2)
    clear X0
    have X0 := X0'
    clear X0'
    have hO'' := Lib.hid (hO'.out.keep g2)
    clear hO'
    have hO' := hO''
    clear hO''
    have GA : Hid (Grows w1 w2) := GW.out.trans g2
    clear GW
    have GW := GA
    clear GA
    clear g2
    have NV := Lib.hid hnv
    clear hnv
    have cX0 := X0.out.cell
    go_wp2_with fail
    refine (HSS.out _ GW.out).mono ?_
    rintro e w3 ⟨nu, rfl, hnu, g3⟩
    clear cX0
    have X0' := Lib.hid (X0.out.keep g3)
    clear X0
    have X0 := X0'
    clear X0'
    have hO'' := Lib.hid (hO'.out.keep g3)
    clear hO'
    have hO' := hO''
    clear hO''
    have NV' := Lib.hid (NV.out.keep g3)
    clear NV
    have NV := NV'
    clear NV'
    have GA : Hid (Grows w1 w3) := GW.out.trans g3
    clear GW
    have GW := GA
    clear GA
    clear g3
    have NU := Lib.hid hnu
    clear hnu
    have cX0 := X0.out.cell
    go_wp2_with fail
    refine (equalTexts_any _ _ _ _ ss _ (by omega) NV.out NU.out).mono ?_
    rintro e w4 ⟨rfl, g4⟩
    clear cX0
    have X0' := Lib.hid (X0.out.keep g4)
    clear X0
    have X0 := X0'
    clear X0'
    have hO'' := Lib.hid (hO'.out.keep g4)
    clear hO'
    have hO' := hO''
    clear hO''
    have NV' := Lib.hid (NV.out.keep g4)
    clear NV
    have NV := NV'
    clear NV'
    have NU' := Lib.hid (NU.out.keep g4)
    clear NU
    have NU := NU'
    clear NU'
    have GA : Hid (Grows w1 w4) := GW.out.trans g4
    clear GW
    have GW := GA
    clear GA
    clear g4
    have cX0 := X0.out.cell
    go_wp2_with fail
    refine (HVI.out _ GW.out).mono ?_
    rintro e w5 ⟨rfl, g5⟩
    clear cX0
    have X0' := Lib.hid (X0.out.keep g5)
    clear X0
    have X0 := X0'
    clear X0'
    have hO'' := Lib.hid (hO'.out.keep g5)
    clear hO'
    have hO' := hO''
    clear hO''
    have NV' := Lib.hid (NV.out.keep g5)
    clear NV
    have NV := NV'
    clear NV'
    have NU' := Lib.hid (NU.out.keep g5)
    clear NU
    have NU := NU'
    clear NU'
    have GA : Hid (Grows w1 w5) := GW.out.trans g5
    clear GW
    have GW := GA
    clear GA
    clear g5
    rcases vb with _ | _
    · have cX0 := X0.out.cell
      go_wp2_with fail
      refine (HSS.out _ GW.out).mono ?_
      rintro e w6 ⟨nu2, rfl, hnu, g6⟩
      clear cX0
      have X0' := Lib.hid (X0.out.keep g6)
      clear X0
      have X0 := X0'
      clear X0'
      have hO'' := Lib.hid (hO'.out.keep g6)
      clear hO'
      have hO' := hO''
      clear hO''
      have NV' := Lib.hid (NV.out.keep g6)
      clear NV
      have NV := NV'
      clear NV'
      have NU' := Lib.hid (NU.out.keep g6)
      clear NU
      have NU := NU'
      clear NU'
      have GA : Hid (Grows w1 w6) := GW.out.trans g6
      clear GW
      have GW := GA
      clear GA
      clear g6
      have NU2 := Lib.hid hnu
      clear hnu
      have cX0 := X0.out.cell
      go_wp2_with fail
      refine (equalTexts_any _ _ _ _ ss _ (by omega) NV.out NU2.out).mono ?_
      rintro e w7 ⟨rfl, g7⟩
      clear cX0
      have X0' := Lib.hid (X0.out.keep g7)
      clear X0
      have X0 := X0'
      clear X0'
      have hO'' := Lib.hid (hO'.out.keep g7)
      clear hO'
      have hO' := hO''
      clear hO''
      have NV' := Lib.hid (NV.out.keep g7)
      clear NV
      have NV := NV'
      clear NV'
      have NU' := Lib.hid (NU.out.keep g7)
      clear NU
      have NU := NU'
      clear NU'
      have GA : Hid (Grows w1 w7) := GW.out.trans g7
      clear GW
      have GW := GA
      clear GA
      clear g7
      have cX0 := X0.out.cell
      go_wp2
      go_ret
      exact ⟨rfl, (HG1.out.trans GW.out).below⟩
    · obtain ⟨A5, c5, hv5, hV5⟩ := NV.out.vals
      subst hv5
      have HV5 := Lib.hid hV5
      clear hV5
      obtain ⟨q, hq⟩ : ∃ q, ss.length = q := ⟨_, rfl⟩
      have HQ := Lib.hid hq
      rw [hq] at NV hsl ⊢
      clear hq
      have GJ := Lib.hid GW.out
      go_wp2_with fail
      go_loopw [5] (fun i wr => ∃ k : Nat, k ≤ q ∧ i = .int .i64 k ∧ Hid (Grows w5 wr)) (fun i _ => q - (intOf i).toNat)
      case atStart => exact ⟨0, Nat.zero_le _, rfl, Grows.refl _⟩
      case round =>
        obtain ⟨k, hk, rfl, HG⟩ := hrel
        have GR : Hid (Grows w1 wr) := GJ.out.trans HG.out
        have x0 := (X0.out.keep HG.out).cell
        by_cases hlt : k < q
        · have hk2 : k < ss.length := by rw [HQ.out]; exact hlt
          obtain ⟨bb, oo, rfl, hbb, hcc⟩ := HV5.out (by rw [strs_length]; omega)
          have hat := hcc k (by rw [strs_length]; omega)
          have hix : (strs' ss)[k]'(by rw [strs_length]; omega) = Value.string ss[k] := by simp [strs']
          rw [hix] at hat
          have hso := HSO.out ss[k] (List.getElem_mem hk2)
          obtain ⟨x, hx⟩ : ∃ x, ss[k] = x := ⟨_, rfl⟩
          rw [hx] at hat hso
          have hat2 := (HG.out.cell (p := ⟨bb, oo + k, none⟩) hbb).trans hat
          have HSX := Lib.hid hso
          clear hx hix hcc hat hso
          have y0 : wr.cell? ⟨w1.heap.size, 0, none⟩ = some (.slice A0 m c0) ∧ wr.cell? ⟨bb, oo + k, none⟩ = some (.string x) := ⟨x0, hat2⟩
          clear x0 hat2
          have hfd : ∀ (W : World) (A : Option Addr) (l c : Nat), (Instr.field 25 (.agg #[.slice A l c]) 0).run Tryd.prog W = .ok (.slice A l c) W := fun _ _ _ _ => by kernel_rfl
          obtain ⟨nl, hnl⟩ : ∃ nl, (keepE K (ofSec x)).length = nl := ⟨_, rfl⟩
          have HNL := Lib.hid hnl
          have hn0 : 0 < nl := by rw [← hnl]; exact HSX.out
          have hn1 : ((nl : Int) == 0) = false := by rw [beq_eq_false_iff_ne]; omega
          clear hnl
          go_wp2_with fail
          go_region_held3 (fun w' => w'.cell? ⟨w1.heap.size, 0, none⟩ = some (.slice A0 m c0) ∧ w'.cell? ⟨bb, oo + k, none⟩ = some (.string x)) (first | exact y0 | exact y9) (first | (go_at_call 18; have HA1 := HPK.out x wr.drew (GR.out.trans (Grows.refl wr).drew); refine HA1.mono ?_; rintro e w9 ⟨u9, rfl, hu9, g9⟩; clear HA1; have J9 : Hid (Grows wr w9) := (Grows.refl wr).drew.trans g9; have r9 := (g9.cell (p := ⟨bb, oo + k, none⟩) (Nat.lt_of_lt_of_le hbb HG.out.size)).trans y0.2; clear g9; obtain ⟨A8, c8, hv8, _⟩ := OwnE.form hu9; rw [HNL.out] at hv8; subst hv8; have y9 : w9.cell? ⟨w1.heap.size, 0, none⟩ = some (.slice A0 m c0) ∧ w9.cell? ⟨bb, oo + k, none⟩ = some (.string x) := ⟨(X0.out.keep (HG.out.trans J9.out)).cell, r9⟩; clear hu9 r9))
          clear hfd
          go_wp2
          go_roundw
          case rel => exact ⟨k + 1, by omega, by go_num, HG.out.trans J9.out⟩
          case measure => simp [intOf]; omega
        · obtain rfl : k = q := by omega
          have NVX := NV.out.keep HG.out
          go_wp2_with fail
          refine (textsApart_any _ _ ss _ (by rw [HQ.out]; omega) HND.out NVX).mono ?_
          rintro e wz ⟨rfl, gz⟩
          go_wp2
          go_ret
          exact ⟨rfl, (HG1.out.trans (GR.out.trans gz)).below⟩
end Go.Proofs.YtgjineoiebokhaaDoor
