/-
  The drawn law of TidyFile: whatever its bytes, it returns true. Condition: no more bytes than a slice may have.
-/
import Derived.Test.YtdedidcjbocicaaDWhere
import Derived.Test.YtdedidcjbocicaaTidyQ
import Derived.Test.YtdedidcjbocicaaTidyS
import Derived.Test.YtdedidcjbocicaaMean
import Derived.Deep.RegionHeld3
namespace Go.Proofs.Ytdedidcjbocicaa
open Go.RowKit

set_option maxRecDepth 100000 in
set_option maxHeartbeats 4000000 in
theorem dTidy_any (A : Option Addr) (n c : Nat) (w : World) (hn : n ≤ maxLen) (hc : n ≤ c) (h : BytesAt w A n) :
    Calls Try.prog 5 #[.slice A n c] w fun e w' => e = .returned (.bool true) ∧ Below w.heap.size w w' := by
  by_cases hbig : 1048576 < n
  · clear h
    unfold maxLen at hn
    go_enter Try.func5, Try.ntmps5
    go_wp2
    go_ret
    exact ⟨rfl, (Grows.refl _).below⟩
  · have HD := Lib.hid (DrawTidyFile_any A n c w hn hc h)
    clear h
    unfold maxLen at hn
    go_enter Try.func5, Try.ntmps5
    go_wp2_with fail
    refine (HD.out).mono ?_
    rintro e w1 ⟨v, K, rfl, ⟨hS, hK⟩, hO, g1⟩
    obtain ⟨A0, c0, rfl, hA⟩ := hO.form
    have hf := hS.fit hK
    have HA := Lib.hid hA
    have HTI := Lib.hid (fun w2 (g : Grows w1 w2) => implTidy_any A0 c0 K w2 hf (hA.keep g))
    have HTS := Lib.hid (fun w2 (g : Grows w1 w2) => specTidy_any A0 c0 K w2 hf (hA.keep g))
    have HVI := Lib.hid (fun w2 (g : Grows w1 w2) => implFile_any A0 c0 K w2 hf (hA.keep g))
    have HSF := Lib.hid (fun w2 (g : Grows w1 w2) => implSecs_any A0 c0 K w2 hf (hA.keep g))
    have HG1 := Lib.hid g1
    have hfk := Lib.hid hf
    have hO' := Lib.hid hO
    have htl : (tidyOf K).length ≤ 420 := tidy_le K
    have hsl : (secsOf' K).length ≤ 20 := secs_20 K
    unfold ResL at HTI HTS
    unfold StrsRet at HSF
    clear hS hO g1 hA hf HD
    obtain ⟨m, hm⟩ : ∃ m, K.length = m := ⟨_, rfl⟩
    rw [hm] at HTI HTS HVI HSF hK hO' ⊢
    have HM := Lib.hid hm
    clear hm
    obtain ⟨T, hT⟩ : ∃ T, tidyOf K = T := ⟨_, rfl⟩
    rw [hT] at HTI HTS htl
    have HT := Lib.hid hT
    clear hT
    have GW : Hid (Grows w1 w1) := Grows.refl _
    have X0 : Hid (Box (w1.alloc (.cells #[.slice A0 m c0] 25)) w1.heap.size (.slice A0 m c0) 25) := heap_alloc_new w1 _
    have hO'' := Lib.hid (hO'.out.keep ((Grows.refl w1).alloc (.cells #[.slice A0 m c0] 25)))
    clear hO'
    have hO' := hO''
    clear hO''
    have GA : Hid (Grows w1 (w1.alloc (.cells #[.slice A0 m c0] 25))) := GW.out.alloc _
    clear GW
    have GW := GA
    clear GA
    have cX0 := X0.out.cell
    go_wp2_with fail
    refine (HTI.out _ GW.out).mono ?_
    rintro e w2 ⟨u2, rfl, hu2, g2⟩
    clear cX0
    have X0' := Lib.hid (X0.out.keep g2)
    clear X0
    have X0 := X0'
    clear X0'
    have hO'' := Lib.hid (hO'.out.keep g2)
    clear hO'
    have hO' := hO''
    clear hO''
    have GA : Hid (Grows w1 w2) := GW.out.trans g2
    clear GW
    have GW := GA
    clear GA
    clear g2
    have U2 := Lib.hid hu2
    clear hu2
    obtain ⟨A2, c2, hu2, _⟩ := U2.out.form
    subst hu2
    have X2 : Hid (Box (w2.alloc (.cells #[.slice A2 T.length c2] 25)) w2.heap.size (.slice A2 T.length c2) 25) := heap_alloc_new w2 _
    have X0' := Lib.hid (X0.out.keep ((Grows.refl w2).alloc (.cells #[.slice A2 T.length c2] 25)))
    clear X0
    have X0 := X0'
    clear X0'
    have hO'' := Lib.hid (hO'.out.keep ((Grows.refl w2).alloc (.cells #[.slice A2 T.length c2] 25)))
    clear hO'
    have hO' := hO''
    clear hO''
    have U2' := Lib.hid (U2.out.keep ((Grows.refl w2).alloc (.cells #[.slice A2 T.length c2] 25)))
    clear U2
    have U2 := U2'
    clear U2'
    have GA : Hid (Grows w1 (w2.alloc (.cells #[.slice A2 T.length c2] 25))) := GW.out.alloc _
    clear GW
    have GW := GA
    clear GA
    obtain ⟨w3, hw3⟩ : ∃ w3, (w2.alloc (.cells #[.slice A2 T.length c2] 25)) = w3 := ⟨_, rfl⟩
    have HW3 := Lib.hid hw3
    rw [hw3] at X0 X2 hO' U2 GW
    clear hw3
    go_upto_region 5 with (fail)
    rw [HW3.out]
    clear HW3
    by_cases hv : vfile K = true
    · have HV := Lib.hid hv
      rw [hv] at HVI
      clear hv
      have y3 : w3.cell? ⟨w1.heap.size, 0, none⟩ = some (.slice A0 m c0) ∧ w3.cell? ⟨w2.heap.size, 0, none⟩ = some (.slice A2 T.length c2) := ⟨(X0.out.keep (Grows.refl w3)).cell, (X2.out.keep (Grows.refl w3)).cell⟩
      go_region_held3 (fun w' => w'.cell? ⟨w1.heap.size, 0, none⟩ = some (.slice A0 m c0) ∧ w'.cell? ⟨w2.heap.size, 0, none⟩ = some (.slice A2 T.length c2)) (first | exact y3 | exact y4 | exact y5 | exact y6) (first | (go_at_call 18; refine (HTS.out _ (GW.out.trans (Grows.refl w3).drew)).mono ?_; rintro e w4 ⟨u4, rfl, hu4, g4⟩; have J4 : Hid (Grows w3 w4) := (Grows.refl w3).drew.trans g4; clear g4; have U4 := Lib.hid hu4; clear hu4; have y4 : w4.cell? ⟨w1.heap.size, 0, none⟩ = some (.slice A0 m c0) ∧ w4.cell? ⟨w2.heap.size, 0, none⟩ = some (.slice A2 T.length c2) := ⟨(X0.out.keep J4.out).cell, (X2.out.keep J4.out).cell⟩) | (go_at_call 13; refine (equalFile_own _ _ _ _ T _ (by omega) (U2.out.keep J4.out) U4.out).mono ?_; rintro e w5 ⟨rfl, g5⟩; have J5 : Hid (Grows w3 w5) := J4.out.trans g5; clear g5; have y5 : w5.cell? ⟨w1.heap.size, 0, none⟩ = some (.slice A0 m c0) ∧ w5.cell? ⟨w2.heap.size, 0, none⟩ = some (.slice A2 T.length c2) := ⟨(X0.out.keep J5.out).cell, (X2.out.keep J5.out).cell⟩) | (go_at_call 7; refine (HVI.out _ (GW.out.trans J5.out)).mono ?_; rintro e w6 ⟨rfl, g6⟩; have J6 : Hid (Grows w3 w6) := J5.out.trans g6; clear g6; have y6 : w6.cell? ⟨w1.heap.size, 0, none⟩ = some (.slice A0 m c0) ∧ w6.cell? ⟨w2.heap.size, 0, none⟩ = some (.slice A2 T.length c2) := ⟨(X0.out.keep J6.out).cell, (X2.out.keep J6.out).cell⟩))
      clear y3 y4 y5 y6 U4 J4 J5
      have X0' := Lib.hid (X0.out.keep J6.out)
      clear X0
      have X0 := X0'
      clear X0'
      have X2' := Lib.hid (X2.out.keep J6.out)
      clear X2
      have X2 := X2'
      clear X2'
      have hO'' := Lib.hid (hO'.out.keep J6.out)
      clear hO'
      have hO' := hO''
      clear hO''
      have U2' := Lib.hid (U2.out.keep J6.out)
      clear U2
      have U2 := U2'
      clear U2'
      have GA : Hid (Grows w1 w6) := GW.out.trans J6.out
      clear GW
      have GW := GA
      clear GA J6
      have HTV := Lib.hid (tidy_valid HV.out)
      have hTF0 := tidy_fits HV.out
      have hLN0 := fun l (hl : l ∈ tidyOf K) => (tidy_line HV.out hl).1
      have hSM0 := same_mean (tidy_same HV.out) (tidy_valid HV.out) HV.out
      have hTT0 := tidy_tidy HV.out
      have hSC0 := tidy_secs HV.out
      have hLE0 := tidy_short HV.out
      rw [HT.out] at hTF0 hLN0 hSM0 hTT0 hSC0 hLE0 HTV
      have HTF := Lib.hid hTF0
      have HLN := Lib.hid hLN0
      have HSM := Lib.hid hSM0
      rw [HM.out] at hLE0
      clear hTF0 hLN0 hSM0
      have HMN := Lib.hid (fun w2' (h : LnsAt w2' A2 T) (g : LnsAt w2' A0 K) => implMean_any A2 c2 T A0 c0 K w2' HTF.out hfk.out h g)
      rw [HSM.out, HM.out] at HMN
      have HT2 := Lib.hid (fun w2' (h : LnsAt w2' A2 T) => implTidy_any A2 c2 T w2' HTF.out h)
      unfold ResL at HT2
      rw [hTT0] at HT2
      have HS2 := Lib.hid (fun w2' (h : LnsAt w2' A2 T) => implSecs_any A2 c2 T w2' HTF.out h)
      unfold StrsRet at HS2
      rw [hSC0] at HS2
      obtain ⟨ss, hss⟩ : ∃ ss, secsOf' K = ss := ⟨_, rfl⟩
      rw [hss] at HS2 HSF hsl
      clear hss hTT0 hSC0
      obtain ⟨q, hq⟩ : ∃ q, T.length = q := ⟨_, rfl⟩
      have HQ := Lib.hid hq
      have hLE := hLE0
      rw [hq] at hLE htl X2 U2 HMN HT2 HS2 ⊢
      clear hq hLE0
      go_wp2_with fail
      go_loopw [5] (fun i wr => ∃ k : Nat, k ≤ q ∧ i = .int .i64 k ∧ Hid (Grows w6 wr)) (fun i _ => q - (intOf i).toNat)
      case atStart => exact ⟨0, Nat.zero_le _, rfl, Grows.refl _⟩
      case round =>
        obtain ⟨k, hk, rfl, HG⟩ := hrel
        have hx2 := (X2.out.keep HG.out).cell
        have hx0 := (X0.out.keep HG.out).cell
        by_cases hlt : k < q
        · have hkT : k < T.length := by rw [HQ.out]; exact hlt
          have U9 := U2.out.keep HG.out
          rw [← HQ.out] at U9
          obtain ⟨bb, oo, hA2, hbb, hcc⟩ := U9.at (by omega)
          subst hA2
          have hat := hcc k hkT
          have hkd := HLN.out T[k] (List.getElem_mem hkT)
          obtain ⟨l, hl⟩ : ∃ l, T[k] = l := ⟨_, rfl⟩
          rw [hl] at hat hkd
          obtain ⟨d0, d1, d2, d3, d4, d5⟩ := hat
          have k1 : (l.k == 1) = false := by rw [beq_eq_false_iff_ne]; omega
          have k0 : (l.k == 0) = false := by rw [beq_eq_false_iff_ne]; omega
          clear hl hcc hkd d1 d2 d3 d4 d5 U9
          go_wp2_with fail
          first | go_quiet (fail) | skip
          go_wp2
          go_roundw
          case rel => first | exact ⟨k + 1, by omega, by go_num, HG.out.drewN _⟩ | exact ⟨k + 1, by omega, by go_num, HG.out⟩
          case measure => simp [intOf]; omega
        · obtain rfl : k = q := by omega
          have HUT : Hid (∀ w', Grows w6 w' → LnsAt w' A2 T) := fun w' g => by have h9 := U2.out.keep g; rw [← HQ.out] at h9; exact h9.at
          have y7 : wr.cell? ⟨w1.heap.size, 0, none⟩ = some (.slice A0 m c0) ∧ wr.cell? ⟨w2.heap.size, 0, none⟩ = some (.slice A2 k c2) := ⟨hx0, hx2⟩
          clear hx0 hx2
          have hle2 : decide ((k : Int) ≤ (m : Int)) = true := by simp; omega
          go_wp2_with fail
          go_region_held3 (fun w' => w'.cell? ⟨w1.heap.size, 0, none⟩ = some (.slice A0 m c0) ∧ w'.cell? ⟨w2.heap.size, 0, none⟩ = some (.slice A2 k c2)) (first | exact y7 | exact y8 | exact y9 | exact y10 | exact y11 | exact y12 | exact y13) (first | (go_at_call 16; refine (HMN.out wr.drew (HUT.out _ HG.out.drew) (HA.out.keep (GW.out.trans HG.out.drew))).mono ?_; rintro e w8 ⟨rfl, g8⟩; have J8 : Hid (Grows w6 w8) := HG.out.drew.trans g8; clear g8; have y8 : w8.cell? ⟨w1.heap.size, 0, none⟩ = some (.slice A0 m c0) ∧ w8.cell? ⟨w2.heap.size, 0, none⟩ = some (.slice A2 k c2) := ⟨(X0.out.keep J8.out).cell, (X2.out.keep J8.out).cell⟩) | (go_at_call 9; refine (HT2.out _ (HUT.out _ J8.out)).mono ?_; rintro e w9 ⟨u9, rfl, hu9, g9⟩; have J9 : Hid (Grows w6 w9) := J8.out.trans g9; clear g9; have U9 := Lib.hid hu9; clear hu9; have y9 : w9.cell? ⟨w1.heap.size, 0, none⟩ = some (.slice A0 m c0) ∧ w9.cell? ⟨w2.heap.size, 0, none⟩ = some (.slice A2 k c2) := ⟨(X0.out.keep J9.out).cell, (X2.out.keep J9.out).cell⟩) | (go_at_call 13; refine (equalFile_own _ _ _ _ T _ (by rw [HQ.out]; omega) U9.out (U2.out.keep J9.out)).mono ?_; rintro e w10 ⟨rfl, g10⟩; have J10 : Hid (Grows w6 w10) := J9.out.trans g10; clear g10; have y10 : w10.cell? ⟨w1.heap.size, 0, none⟩ = some (.slice A0 m c0) ∧ w10.cell? ⟨w2.heap.size, 0, none⟩ = some (.slice A2 k c2) := ⟨(X0.out.keep J10.out).cell, (X2.out.keep J10.out).cell⟩) | (go_at_call 19; first | ((with_reducible refine (HS2.out w10 (HUT.out _ J10.out)).mono ?_); rintro e w11 ⟨sv, rfl, hsv, g11⟩; have J11 : Hid (Grows w6 w11) := J10.out.trans g11; clear g11; have SV := Lib.hid hsv; clear hsv; have y11 : w11.cell? ⟨w1.heap.size, 0, none⟩ = some (.slice A0 m c0) ∧ w11.cell? ⟨w2.heap.size, 0, none⟩ = some (.slice A2 k c2) := ⟨(X0.out.keep J11.out).cell, (X2.out.keep J11.out).cell⟩) | ((with_reducible refine (HSF.out w11 (GW.out.trans J11.out)).mono ?_); rintro e w12 ⟨su, rfl, hsu, g12⟩; have SV12 := Lib.hid (SV.out.keep g12); have J12 : Hid (Grows w6 w12) := J11.out.trans g12; clear g12; have SU := Lib.hid hsu; clear hsu; have y12 : w12.cell? ⟨w1.heap.size, 0, none⟩ = some (.slice A0 m c0) ∧ w12.cell? ⟨w2.heap.size, 0, none⟩ = some (.slice A2 k c2) := ⟨(X0.out.keep J12.out).cell, (X2.out.keep J12.out).cell⟩)) | (go_at_call 15; refine (equalTexts_any _ _ _ _ ss _ (by omega) SV12.out SU.out).mono ?_; rintro e w13 ⟨rfl, g13⟩; have J13 : Hid (Grows w6 w13) := J12.out.trans g13; clear g13; have y13 : w13.cell? ⟨w1.heap.size, 0, none⟩ = some (.slice A0 m c0) ∧ w13.cell? ⟨w2.heap.size, 0, none⟩ = some (.slice A2 k c2) := ⟨(X0.out.keep J13.out).cell, (X2.out.keep J13.out).cell⟩))
          go_wp2
          go_ret
          exact ⟨rfl, (HG1.out.trans (GW.out.trans J13.out)).below⟩
    · have hv' : vfile K = false := by simpa using hv
      rw [hv'] at HVI
      clear hv hv'
      have y3 : w3.cell? ⟨w1.heap.size, 0, none⟩ = some (.slice A0 m c0) ∧ w3.cell? ⟨w2.heap.size, 0, none⟩ = some (.slice A2 T.length c2) := ⟨(X0.out.keep (Grows.refl w3)).cell, (X2.out.keep (Grows.refl w3)).cell⟩
      go_region_held3 (fun w' => w'.cell? ⟨w1.heap.size, 0, none⟩ = some (.slice A0 m c0) ∧ w'.cell? ⟨w2.heap.size, 0, none⟩ = some (.slice A2 T.length c2)) (first | exact y3 | exact y4 | exact y5 | exact y6) (first | (go_at_call 18; refine (HTS.out _ (GW.out.trans (Grows.refl w3).drew)).mono ?_; rintro e w4 ⟨u4, rfl, hu4, g4⟩; have J4 : Hid (Grows w3 w4) := (Grows.refl w3).drew.trans g4; clear g4; have U4 := Lib.hid hu4; clear hu4; have y4 : w4.cell? ⟨w1.heap.size, 0, none⟩ = some (.slice A0 m c0) ∧ w4.cell? ⟨w2.heap.size, 0, none⟩ = some (.slice A2 T.length c2) := ⟨(X0.out.keep J4.out).cell, (X2.out.keep J4.out).cell⟩) | (go_at_call 13; refine (equalFile_own _ _ _ _ T _ (by omega) (U2.out.keep J4.out) U4.out).mono ?_; rintro e w5 ⟨rfl, g5⟩; have J5 : Hid (Grows w3 w5) := J4.out.trans g5; clear g5; have y5 : w5.cell? ⟨w1.heap.size, 0, none⟩ = some (.slice A0 m c0) ∧ w5.cell? ⟨w2.heap.size, 0, none⟩ = some (.slice A2 T.length c2) := ⟨(X0.out.keep J5.out).cell, (X2.out.keep J5.out).cell⟩) | (go_at_call 7; refine (HVI.out _ (GW.out.trans J5.out)).mono ?_; rintro e w6 ⟨rfl, g6⟩; have J6 : Hid (Grows w3 w6) := J5.out.trans g6; clear g6; have y6 : w6.cell? ⟨w1.heap.size, 0, none⟩ = some (.slice A0 m c0) ∧ w6.cell? ⟨w2.heap.size, 0, none⟩ = some (.slice A2 T.length c2) := ⟨(X0.out.keep J6.out).cell, (X2.out.keep J6.out).cell⟩))
      clear y3 y4 y5 y6 U4 J4 J5
      have X0' := Lib.hid (X0.out.keep J6.out)
      clear X0
      have X0 := X0'
      clear X0'
      have X2' := Lib.hid (X2.out.keep J6.out)
      clear X2
      have X2 := X2'
      clear X2'
      have hO'' := Lib.hid (hO'.out.keep J6.out)
      clear hO'
      have hO' := hO''
      clear hO''
      have U2' := Lib.hid (U2.out.keep J6.out)
      clear U2
      have U2 := U2'
      clear U2'
      have GA : Hid (Grows w1 w6) := GW.out.trans J6.out
      clear GW
      have GW := GA
      clear GA J6
      have y6 : w6.cell? ⟨w1.heap.size, 0, none⟩ = some (.slice A0 m c0) ∧ w6.cell? ⟨w2.heap.size, 0, none⟩ = some (.slice A2 T.length c2) := ⟨X0.out.cell, X2.out.cell⟩
      go_wp2_with fail
      go_region_held3 (fun w' => w'.cell? ⟨w1.heap.size, 0, none⟩ = some (.slice A0 m c0) ∧ w'.cell? ⟨w2.heap.size, 0, none⟩ = some (.slice A2 T.length c2)) (first | exact y6 | exact y7 | exact y8) (first | (go_at_call 18; refine (HTS.out _ (GW.out.trans (Grows.refl w6).drew)).mono ?_; rintro e w7 ⟨u7, rfl, hu7, g7⟩; have J7 : Hid (Grows w6 w7) := (Grows.refl w6).drew.trans g7; clear g7; have U7 := Lib.hid hu7; clear hu7; have y7 : w7.cell? ⟨w1.heap.size, 0, none⟩ = some (.slice A0 m c0) ∧ w7.cell? ⟨w2.heap.size, 0, none⟩ = some (.slice A2 T.length c2) := ⟨(X0.out.keep J7.out).cell, (X2.out.keep J7.out).cell⟩) | (go_at_call 13; refine (equalFile_own _ _ _ _ T _ (by omega) (U2.out.keep J7.out) U7.out).mono ?_; rintro e w8 ⟨rfl, g8⟩; have J8 : Hid (Grows w6 w8) := J7.out.trans g8; clear g8; have y8 : w8.cell? ⟨w1.heap.size, 0, none⟩ = some (.slice A0 m c0) ∧ w8.cell? ⟨w2.heap.size, 0, none⟩ = some (.slice A2 T.length c2) := ⟨(X0.out.keep J8.out).cell, (X2.out.keep J8.out).cell⟩))
      go_wp2
      go_ret
      exact ⟨rfl, (HG1.out.trans (GW.out.trans J8.out)).below⟩
end Go.Proofs.Ytdedidcjbocicaa
