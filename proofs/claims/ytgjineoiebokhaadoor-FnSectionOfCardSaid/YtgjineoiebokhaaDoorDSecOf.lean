/-
  The drawn law of SectionOf: whatever its bytes, it returns true. Condition: no more bytes than a slice may have.
-/
import Derived.Test.YtgjineoiebokhaaDoorDrwL
import Derived.Test.YtgjineoiebokhaaDoorLawH
import Derived.Test.YtgjineoiebokhaaDoorLayH
import Derived.Test.YtgjineoiebokhaaDoorLayU
import Derived.Test.YtgjineoiebokhaaDoorKeep
import Derived.Test.YtgjineoiebokhaaDoorSecOf
import Derived.Test.YtgjineoiebokhaaDoorLaySec
import Derived.Test.YtgjineoiebokhaaDoorLawVL
import Derived.Test.YtgjineoiebokhaaDoorDWhere
namespace Go.Proofs.YtgjineoiebokhaaDoor
open Go.RowKit

set_option maxRecDepth 100000 in
set_option maxHeartbeats 4000000 in
theorem dSecOf_any (A : Option Addr) (n c : Nat) (w : World) (hn : n ≤ maxLen) (hc : n ≤ c) (h : BytesAt w A n) :
    Calls Tryd.prog 5 #[.slice A n c] w fun e w' => e = .returned (.bool true) ∧ Below w.heap.size w w' := by
  by_cases hbig : 1048576 < n
  · clear h
    unfold maxLen at hn
    go_enter Tryd.func5, Tryd.ntmps5
    go_wp2
    go_ret
    exact ⟨rfl, (Grows.refl _).below⟩
  · have HD := Lib.hid (DrawSectionOf_any A n c w hn hc h)
    clear h
    unfold maxLen at hn
    go_enter Tryd.func5, Tryd.ntmps5
    go_wp2_with fail
    refine (HD.out).mono ?_
    rintro e w1 ⟨v, K, s, rfl, ⟨hS, hK⟩, hO, hs, g1⟩
    obtain ⟨A0, c0, rfl, hcap, hA⟩ := OwnE.formC hO
    have hf := hS.fit hK
    have HA := Lib.hid hA
    have HOI := Lib.hid (fun w2 (g : Grows w1 w2) => implSecOf_any A0 c0 K s w2 hf (hA.keep g))
    have HOS := Lib.hid (fun w2 (g : Grows w1 w2) => specSecOf_any A0 c0 K s w2 hcap hf (hA.keep g))
    have HVI := Lib.hid (fun w2 (g : Grows w1 w2) => implLayer_any A0 c0 K w2 hf (hA.keep g))
    have HSI := Lib.hid (fun w2 (g : Grows w1 w2) => implLSec_any A0 c0 K w2 hf (hA.keep g))
    have HG1 := Lib.hid g1
    have hO' := Lib.hid hO
    have HFK := Lib.hid hf
    have hsl : (secL K).length ≤ 101 := Nat.le_trans (secL_le K) hK
    have hpl : (keepE K (ofSec s)).length ≤ 101 := Nat.le_trans (keepE_le K _) hK
    have HPK := Lib.hid (fun (x : ByteArray) w2 (g : Grows w1 w2) => implSecOf_any A0 c0 K x w2 hf (hA.keep g))
    have HPL := Lib.hid (fun (x : ByteArray) => Nat.le_trans (keepE_le K (ofSec x)) hK)
    have HPF : Hid (EFit (keepE K (ofSec s))) := sec_fit hf s
    have HALL := Lib.hid (fun h : vlayer K = true => secN_all h)
    have HPV := Lib.hid (fun h : vlayer K = true => sec_valid h s)
    have HIN := Lib.hid (fun e (he : e ∈ keepE K (ofSec s)) => sec_in he)
    unfold StrsRet at HSI
    unfold ResE at HOI HOS HPK
    clear hs
    clear hS hO g1 hA hf HD hcap
    obtain ⟨m, hm⟩ : ∃ m, K.length = m := ⟨_, rfl⟩
    rw [hm] at HOI HOS HVI HSI hK hO' HPK HALL ⊢
    have HM := Lib.hid hm
    clear hm
    obtain ⟨ss, hss⟩ : ∃ ss, secL K = ss := ⟨_, rfl⟩
    rw [hss] at HSI hsl HALL
    clear hss
    obtain ⟨P, hP⟩ : ∃ P, keepE K (ofSec s) = P := ⟨_, rfl⟩
    rw [hP] at HOI HOS hpl HPF HPV HIN
    clear hP
    obtain ⟨vb, hvb⟩ : ∃ vb, vlayer K = vb := ⟨_, rfl⟩
    rw [hvb] at HVI HALL HPV
    clear hvb
    have GW : Hid (Grows w1 w1) := Grows.refl _
    have X0 : Hid (Box (w1.alloc (.cells #[.slice A0 m c0] 25)) w1.heap.size (.slice A0 m c0) 25) := heap_alloc_new w1 _
    have hO'' := Lib.hid (hO'.out.keep ((Grows.refl w1).alloc (.cells #[.slice A0 m c0] 25)))
    clear hO'
    have hO' := hO''
    clear hO''
    have GA : Hid (Grows w1 (w1.alloc (.cells #[.slice A0 m c0] 25))) := GW.out.alloc _
    clear GW
    have GW := GA
    clear GA
    have cX0 := X0.out.cell
    go_wp2_with fail
    refine (HOI.out _ GW.out).mono ?_
    rintro e w2 ⟨u2, rfl, hu2, g2⟩
    clear cX0
    have X0' := Lib.hid (X0.out.keep g2)
    clear X0
    have X0 := X0'
    clear X0'
    have hO'' := Lib.hid (hO'.out.keep g2)
    clear hO'
    have hO' := hO''
    clear hO''
    have GA : Hid (Grows w1 w2) := GW.out.trans g2
    clear GW
    have GW := GA
    clear GA
    clear g2
    have U2 := Lib.hid hu2
    clear hu2
    obtain ⟨A2, c2, hu2, _⟩ := OwnE.form U2.out
    subst hu2
    have X2 : Hid (Box (w2.alloc (.cells #[.slice A2 P.length c2] 25)) w2.heap.size (.slice A2 P.length c2) 25) := heap_alloc_new w2 _
    have X0' := Lib.hid (X0.out.keep ((Grows.refl w2).alloc (.cells #[.slice A2 P.length c2] 25)))
    clear X0
    have X0 := X0'
    clear X0'
    have hO'' := Lib.hid (hO'.out.keep ((Grows.refl w2).alloc (.cells #[.slice A2 P.length c2] 25)))
    clear hO'
    have hO' := hO''
    clear hO''
    have U2' := Lib.hid (U2.out.keep ((Grows.refl w2).alloc (.cells #[.slice A2 P.length c2] 25)))
    clear U2
    have U2 := U2'
    clear U2'
    have GA : Hid (Grows w1 (w2.alloc (.cells #[.slice A2 P.length c2] 25))) := GW.out.alloc _
    clear GW
    have GW := GA
    clear GA
    obtain ⟨w3, hw3⟩ : ∃ w3, (w2.alloc (.cells #[.slice A2 P.length c2] 25)) = w3 := ⟨_, rfl⟩
    have HW3 := Lib.hid hw3
    rw [hw3] at X0 X2 hO' U2 GW
    clear hw3
    go_upto_region 5 with (fail)
    rw [HW3.out]
    clear HW3
    rcases vb with _ | _
    · have y3 : w3.cell? ⟨w1.heap.size, 0, none⟩ = some (.slice A0 m c0) ∧ w3.cell? ⟨w2.heap.size, 0, none⟩ = some (.slice A2 P.length c2) := ⟨(X0.out.keep (Grows.refl w3)).cell, (X2.out.keep (Grows.refl w3)).cell⟩
      go_region_held3 (fun w' => w'.cell? ⟨w1.heap.size, 0, none⟩ = some (.slice A0 m c0) ∧ w'.cell? ⟨w2.heap.size, 0, none⟩ = some (.slice A2 P.length c2)) (first | exact y3 | exact y4 | exact y5 | exact y6) (first | (go_at_call 22; have HA1 := HOS.out w3.drew (GW.out.trans (Grows.refl w3).drew); refine HA1.mono ?_; rintro e w4 ⟨u4, rfl, hu4, g4⟩; clear HA1; have J4 : Hid (Grows w3 w4) := (Grows.refl w3).drew.trans g4; clear g4; have U4 := Lib.hid hu4; clear hu4; have y4 : w4.cell? ⟨w1.heap.size, 0, none⟩ = some (.slice A0 m c0) ∧ w4.cell? ⟨w2.heap.size, 0, none⟩ = some (.slice A2 P.length c2) := ⟨(X0.out.keep J4.out).cell, (X2.out.keep J4.out).cell⟩) | (go_at_call 21; have HA1 := equalLayer_own _ _ _ _ P w4 (by omega) (U2.out.keep J4.out) U4.out; refine HA1.mono ?_; rintro e w5 ⟨rfl, g5⟩; clear HA1; have J5 : Hid (Grows w3 w5) := J4.out.trans g5; clear g5; have y5 : w5.cell? ⟨w1.heap.size, 0, none⟩ = some (.slice A0 m c0) ∧ w5.cell? ⟨w2.heap.size, 0, none⟩ = some (.slice A2 P.length c2) := ⟨(X0.out.keep J5.out).cell, (X2.out.keep J5.out).cell⟩) | (go_at_call 11; have HA1 := HVI.out w5 (GW.out.trans J5.out); refine HA1.mono ?_; rintro e w6 ⟨rfl, g6⟩; clear HA1; have J6 : Hid (Grows w3 w6) := J5.out.trans g6; clear g6; have y6 : w6.cell? ⟨w1.heap.size, 0, none⟩ = some (.slice A0 m c0) ∧ w6.cell? ⟨w2.heap.size, 0, none⟩ = some (.slice A2 P.length c2) := ⟨(X0.out.keep J6.out).cell, (X2.out.keep J6.out).cell⟩))
      clear y3 y4 y5 y6 U4 J4 J5
      have X0' := Lib.hid (X0.out.keep J6.out)
      clear X0
      have X0 := X0'
      clear X0'
      have X2' := Lib.hid (X2.out.keep J6.out)
      clear X2
      have X2 := X2'
      clear X2'
      have hO'' := Lib.hid (hO'.out.keep J6.out)
      clear hO'
      have hO' := hO''
      clear hO''
      have U2' := Lib.hid (U2.out.keep J6.out)
      clear U2
      have U2 := U2'
      clear U2'
      have GA : Hid (Grows w1 w6) := GW.out.trans J6.out
      clear GW
      have GW := GA
      clear GA J6
      have y6 : w6.cell? ⟨w1.heap.size, 0, none⟩ = some (.slice A0 m c0) ∧ w6.cell? ⟨w2.heap.size, 0, none⟩ = some (.slice A2 P.length c2) := ⟨(X0.out.keep (Grows.refl w6)).cell, (X2.out.keep (Grows.refl w6)).cell⟩
      go_wp2_with fail
      go_region_held3 (fun w' => w'.cell? ⟨w1.heap.size, 0, none⟩ = some (.slice A0 m c0) ∧ w'.cell? ⟨w2.heap.size, 0, none⟩ = some (.slice A2 P.length c2)) (first | exact y6 | exact y7 | exact y8) (first | (go_at_call 22; have HA1 := HOS.out w6.drew (GW.out.trans (Grows.refl w6).drew); refine HA1.mono ?_; rintro e w7 ⟨u7, rfl, hu7, g7⟩; clear HA1; have J7 : Hid (Grows w6 w7) := (Grows.refl w6).drew.trans g7; clear g7; have U7 := Lib.hid hu7; clear hu7; have y7 : w7.cell? ⟨w1.heap.size, 0, none⟩ = some (.slice A0 m c0) ∧ w7.cell? ⟨w2.heap.size, 0, none⟩ = some (.slice A2 P.length c2) := ⟨(X0.out.keep J7.out).cell, (X2.out.keep J7.out).cell⟩) | (go_at_call 21; have HA1 := equalLayer_own _ _ _ _ P w7 (by omega) (U2.out.keep J7.out) U7.out; refine HA1.mono ?_; rintro e w8 ⟨rfl, g8⟩; clear HA1; have J8 : Hid (Grows w6 w8) := J7.out.trans g8; clear g8; have y8 : w8.cell? ⟨w1.heap.size, 0, none⟩ = some (.slice A0 m c0) ∧ w8.cell? ⟨w2.heap.size, 0, none⟩ = some (.slice A2 P.length c2) := ⟨(X0.out.keep J8.out).cell, (X2.out.keep J8.out).cell⟩))
      go_wp2
      go_ret
      exact ⟨rfl, (HG1.out.trans (GW.out.trans J8.out)).below⟩
    · have y3 : w3.cell? ⟨w1.heap.size, 0, none⟩ = some (.slice A0 m c0) ∧ w3.cell? ⟨w2.heap.size, 0, none⟩ = some (.slice A2 P.length c2) := ⟨(X0.out.keep (Grows.refl w3)).cell, (X2.out.keep (Grows.refl w3)).cell⟩
      go_region_held3 (fun w' => w'.cell? ⟨w1.heap.size, 0, none⟩ = some (.slice A0 m c0) ∧ w'.cell? ⟨w2.heap.size, 0, none⟩ = some (.slice A2 P.length c2)) (first | exact y3 | exact y4 | exact y5 | exact y6) (first | (go_at_call 22; have HA1 := HOS.out w3.drew (GW.out.trans (Grows.refl w3).drew); refine HA1.mono ?_; rintro e w4 ⟨u4, rfl, hu4, g4⟩; clear HA1; have J4 : Hid (Grows w3 w4) := (Grows.refl w3).drew.trans g4; clear g4; have U4 := Lib.hid hu4; clear hu4; have y4 : w4.cell? ⟨w1.heap.size, 0, none⟩ = some (.slice A0 m c0) ∧ w4.cell? ⟨w2.heap.size, 0, none⟩ = some (.slice A2 P.length c2) := ⟨(X0.out.keep J4.out).cell, (X2.out.keep J4.out).cell⟩) | (go_at_call 21; have HA1 := equalLayer_own _ _ _ _ P w4 (by omega) (U2.out.keep J4.out) U4.out; refine HA1.mono ?_; rintro e w5 ⟨rfl, g5⟩; clear HA1; have J5 : Hid (Grows w3 w5) := J4.out.trans g5; clear g5; have y5 : w5.cell? ⟨w1.heap.size, 0, none⟩ = some (.slice A0 m c0) ∧ w5.cell? ⟨w2.heap.size, 0, none⟩ = some (.slice A2 P.length c2) := ⟨(X0.out.keep J5.out).cell, (X2.out.keep J5.out).cell⟩) | (go_at_call 11; have HA1 := HVI.out w5 (GW.out.trans J5.out); refine HA1.mono ?_; rintro e w6 ⟨rfl, g6⟩; clear HA1; have J6 : Hid (Grows w3 w6) := J5.out.trans g6; clear g6; have y6 : w6.cell? ⟨w1.heap.size, 0, none⟩ = some (.slice A0 m c0) ∧ w6.cell? ⟨w2.heap.size, 0, none⟩ = some (.slice A2 P.length c2) := ⟨(X0.out.keep J6.out).cell, (X2.out.keep J6.out).cell⟩))
      clear y3 y4 y5 y6 U4 J4 J5
      have X0' := Lib.hid (X0.out.keep J6.out)
      clear X0
      have X0 := X0'
      clear X0'
      have X2' := Lib.hid (X2.out.keep J6.out)
      clear X2
      have X2 := X2'
      clear X2'
      have hO'' := Lib.hid (hO'.out.keep J6.out)
      clear hO'
      have hO' := hO''
      clear hO''
      have U2' := Lib.hid (U2.out.keep J6.out)
      clear U2
      have U2 := U2'
      clear U2'
      have GA : Hid (Grows w1 w6) := GW.out.trans J6.out
      clear GW
      have GW := GA
      clear GA J6
      have cX0 := X0.out.cell
      have cX2 := X2.out.cell
      go_wp2_with fail
      refine (HSI.out _ GW.out).mono ?_
      rintro e w7 ⟨nv, rfl, hnv, g7⟩
      clear cX0 cX2
      have X0' := Lib.hid (X0.out.keep g7)
      clear X0
      have X0 := X0'
      clear X0'
      have X2' := Lib.hid (X2.out.keep g7)
      clear X2
      have X2 := X2'
      clear X2'
      have hO'' := Lib.hid (hO'.out.keep g7)
      clear hO'
      have hO' := hO''
      clear hO''
      have U2' := Lib.hid (U2.out.keep g7)
      clear U2
      have U2 := U2'
      clear U2'
      have GA : Hid (Grows w1 w7) := GW.out.trans g7
      clear GW
      have GW := GA
      clear GA
      clear g7
      have NV := Lib.hid hnv
      clear hnv
      obtain ⟨A5, c5, hv5, hV5⟩ := NV.out.vals
      subst hv5
      have HV5 := Lib.hid hV5
      clear hV5
      have hall := HALL.out (by first | rfl | trivial)
      have HPV2 := Lib.hid (HPV.out (by first | rfl | trivial))
      clear HALL HPV
      obtain ⟨q, hq⟩ : ∃ q, ss.length = q := ⟨_, rfl⟩
      have HQ := Lib.hid hq
      rw [hq] at NV hsl hall ⊢
      clear hq
      have HAL := Lib.hid hall
      clear hall
      have GJ := Lib.hid GW.out
      go_wp2_with fail
      go_loopw [6, 8] (fun z i wr => ∃ k : Nat, k ≤ q ∧ i = .int .i64 k ∧ z = .int .i64 (secN K ss k) ∧ secN K ss k ≤ 101 * k ∧ Hid (Grows w7 wr)) (fun _ i _ => q - (intOf i).toNat)
      case atStart => exact ⟨0, Nat.zero_le _, rfl, rfl, Nat.zero_le _, Grows.refl _⟩
      case round =>
        obtain ⟨k, hk, rfl, rfl, hsn, HG⟩ := hrel
        have GR : Hid (Grows w1 wr) := GJ.out.trans HG.out
        have x0 := (X0.out.keep HG.out).cell
        by_cases hlt : k < q
        · have hk2 : k < ss.length := by rw [HQ.out]; exact hlt
          obtain ⟨bb, oo, rfl, hbb, hcc⟩ := HV5.out (by rw [strs_length]; omega)
          have hat := hcc k (by rw [strs_length]; omega)
          have hix : (strs' ss)[k]'(by rw [strs_length]; omega) = Value.string ss[k] := by simp [strs']
          rw [hix] at hat
          have hsu := secN_succ K hk2
          obtain ⟨x, hx⟩ : ∃ x, ss[k] = x := ⟨_, rfl⟩
          rw [hx] at hat hsu
          have hat2 := (HG.out.cell (p := ⟨bb, oo + k, none⟩) hbb).trans hat
          have hple := HPL.out x
          have y0 : wr.cell? ⟨w1.heap.size, 0, none⟩ = some (.slice A0 m c0) ∧ wr.cell? ⟨bb, oo + k, none⟩ = some (.string x) := ⟨x0, hat2⟩
          clear x0 hat2 hx hix hcc hat
          have hfd : ∀ (W : World) (A : Option Addr) (l c : Nat), (Instr.field 25 (.agg #[.slice A l c]) 0).run Tryd.prog W = .ok (.slice A l c) W := fun _ _ _ _ => by kernel_rfl
          obtain ⟨nl, hnl⟩ : ∃ nl, (keepE K (ofSec x)).length = nl := ⟨_, rfl⟩
          have HNL := Lib.hid hnl
          rw [hnl] at hsu hple
          clear hnl
          have HSU := Lib.hid hsu
          clear hsu
          obtain ⟨sk, hsk⟩ : ∃ sk, secN K ss k = sk := ⟨_, rfl⟩
          rw [hsk] at HSU hsn ⊢
          clear hsk
          have hwr : IntKind.i64.wrap ((sk : Int) + (nl : Int)) = (sk : Int) + (nl : Int) := IntWalk.i64_in _ (by omega)
          go_wp2_with fail
          go_region_held3 (fun w' => w'.cell? ⟨w1.heap.size, 0, none⟩ = some (.slice A0 m c0) ∧ w'.cell? ⟨bb, oo + k, none⟩ = some (.string x)) (first | exact y0 | exact y9) (first | (go_at_call 18; have HA1 := HPK.out x wr.drew (GR.out.trans (Grows.refl wr).drew); refine HA1.mono ?_; rintro e w9 ⟨u9, rfl, hu9, g9⟩; clear HA1; have J9 : Hid (Grows wr w9) := (Grows.refl wr).drew.trans g9; have r9 := (g9.cell (p := ⟨bb, oo + k, none⟩) (Nat.lt_of_lt_of_le hbb HG.out.size)).trans y0.2; clear g9; obtain ⟨A8, c8, hv8, _⟩ := OwnE.form hu9; rw [HNL.out] at hv8; subst hv8; have y9 : w9.cell? ⟨w1.heap.size, 0, none⟩ = some (.slice A0 m c0) ∧ w9.cell? ⟨bb, oo + k, none⟩ = some (.string x) := ⟨(X0.out.keep (HG.out.trans J9.out)).cell, r9⟩; clear hu9 r9))
          clear hfd
          have hcast : ((secN K ss (k + 1) : Nat) : Int) = (sk : Int) + (nl : Int) := by rw [HSU.out]; omega
          go_wp2
          go_roundw
          case rel => exact ⟨k + 1, by omega, by go_num, by rw [hcast], by rw [HSU.out]; omega, HG.out.trans J9.out⟩
          case measure => simp [intOf]; omega
        · obtain rfl : k = q := by omega
          rw [HAL.out]
          obtain ⟨wo, rfl⟩ : ∃ wo : World, wo = wr := ⟨_, rfl⟩
          have X2R := Lib.hid (X2.out.keep HG.out)
          have U2R := Lib.hid (U2.out.keep HG.out)
          have X0R := Lib.hid (X0.out.keep HG.out)
          obtain ⟨A2', c2', he2, hE2⟩ := OwnE.form U2R.out
          injection he2 with he21 he22 he23
          subst he21
          have HE2 := Lib.hid hE2
          clear hE2 he22 he23 x0
          obtain ⟨pl, hpl9⟩ : ∃ pl, P.length = pl := ⟨_, rfl⟩
          have HPL9 := Lib.hid hpl9
          rw [hpl9] at X2R hpl
          clear hpl9
          have cX2 := X2R.out.cell
          go_wp2_with fail
          clear cX2
          go_loopw [9] (fun i wr => ∃ z : Nat, z ≤ pl ∧ i = .int .i64 z ∧ Hid (Grows wo wr)) (fun i _ => pl - (intOf i).toNat)
          case atStart => exact ⟨0, Nat.zero_le _, rfl, Grows.refl _⟩
          case round =>
            obtain ⟨z, hz, rfl, HGV⟩ := hrel
            have cX2 := (X2R.out.keep HGV.out).cell
            by_cases hzl : z < pl
            · have hz2 : z < P.length := by rw [HPL9.out]; exact hzl
              obtain ⟨b2, o2, rfl, hb2, hc2⟩ := HE2.out (by omega)
              have hat := (hc2 z hz2).keep hb2 HGV.out
              have hin := HIN.out P[z] (List.getElem_mem hz2)
              obtain ⟨⟨es, ek, eo, ev⟩, hee⟩ : ∃ e, P[z] = e := ⟨_, rfl⟩
              rw [hee] at hat hin
              obtain ⟨z0, _, _, _⟩ := hat
              simp only at z0 hin
              rw [hin] at z0
              clear hin hee hc2
              go_wp2
              go_roundw
              case rel => exact ⟨z + 1, by omega, by go_num, HGV.out⟩
              case measure => simp [intOf]; omega
            · obtain rfl : z = pl := by omega
              have HVP := Lib.hid (implLayer_any A2 c2 P wr HPF.out (HE2.out.keep HGV.out))
              rw [HPV2.out, HPL9.out] at HVP
              have cX0 := (X0R.out.keep HGV.out).cell
              go_wp2_with fail
              refine (HVP.out).mono ?_
              rintro e wz ⟨rfl, gz⟩
              go_wp2
              go_ret
              exact ⟨rfl, (HG1.out.trans (GR.out.trans (HGV.out.trans gz))).below⟩
end Go.Proofs.YtgjineoiebokhaaDoor
