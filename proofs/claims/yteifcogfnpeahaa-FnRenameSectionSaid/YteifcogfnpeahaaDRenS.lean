/-
  The drawn law of RenameSection: whatever its bytes, it returns true. Condition: no more bytes than a slice may have.
-/
import Derived.Test.YteifcogfnpeahaaDWhere
import Derived.Test.YteifcogfnpeahaaQR
import Derived.Test.YteifcogfnpeahaaRenN
import Derived.Deep.RegionHeld3
namespace Go.Proofs.Yteifcogfnpeahaa
open Go.RowKit

set_option maxRecDepth 100000 in
set_option maxHeartbeats 4000000 in
theorem dRenS_any (A : Option Addr) (n c : Nat) (w : World) (hn : n ≤ maxLen) (hc : n ≤ c) (h : BytesAt w A n) :
    Calls Try.prog 7 #[.slice A n c] w fun e w' => e = .returned (.bool true) ∧ Below w.heap.size w w' := by
  by_cases hbig : 1048576 < n
  · clear h
    unfold maxLen at hn
    go_enter Try.func7, Try.ntmps7
    go_wp2
    go_ret
    exact ⟨rfl, (Grows.refl _).below⟩
  · have HD := Lib.hid (DrawRenameSection_any A n c w hn hc h)
    clear h
    unfold maxLen at hn
    go_enter Try.func7, Try.ntmps7
    go_wp2_with fail
    refine (HD.out).mono ?_
    rintro e w1 ⟨v, K, s, tt, rfl, ⟨hS, hK⟩, hO, ⟨hs, ht⟩, g1⟩
    obtain ⟨A0, c0, rfl, hA⟩ := hO.form
    have hf := hS.fit hK
    have HA := Lib.hid hA
    have HRI := Lib.hid (fun w2 (g : Grows w1 w2) => implRenameSection_any A0 c0 K s tt w2 hf (by omega) (hA.keep g))
    have HRS := Lib.hid (fun w2 (g : Grows w1 w2) => specRenameSection_all A0 c0 K s tt w2 hf (by omega) (hA.keep g))
    have HKF := Lib.hid (fun w2 (g : Grows w1 w2) => implKeys_any A0 c0 K s w2 hf (hA.keep g))
    have HG1 := Lib.hid g1
    have HFR := Lib.hid (fun hb : renSB K s tt = true => renS_fits (S := headP K s) hf (show tt.size ≤ 1048576 by omega))
    have hrl : (renSL K s tt).length ≤ 1048576 := by have := @renR_le K (headsOf' K s) (headsOf' K tt) (headP K s) tt; unfold renSL; omega
    have hO' := Lib.hid hO
    have hsz := hs
    have hkl : (keysOf' K s).length ≤ 20 := keys_20 K s
    unfold ResLB at HRI HRS
    unfold StrsRet at HKF
    clear hS hO g1 hA hf HD
    obtain ⟨m, hm⟩ : ∃ m, K.length = m := ⟨_, rfl⟩
    rw [hm] at HRI HRS HKF hK hO' ⊢
    have HM := Lib.hid hm
    clear hm
    obtain ⟨R, hR⟩ : ∃ R, renSL K s tt = R := ⟨_, rfl⟩
    obtain ⟨rb, hrb⟩ : ∃ rb, renSB K s tt = rb := ⟨_, rfl⟩
    have HKR : Hid (rb = true → SecRen K s tt R) := fun h => by rw [← hR]; exact renS_ok (hrb.trans h)
    have HFR2 : Hid (rb = true → AllFit R) := fun h => by have := HKR.out h; rw [this.eq]; exact HFR.out (hrb.trans h)
    rw [hR, hrb] at HRI HRS
    rw [hR] at hrl
    clear hR hrb HFR hs ht
    have GW : Hid (Grows w1 w1) := Grows.refl _
    have X0 : Hid (Box (w1.alloc (.cells #[.slice A0 m c0] 25)) w1.heap.size (.slice A0 m c0) 25) := heap_alloc_new w1 _
    have hO'' := Lib.hid (hO'.out.keep ((Grows.refl w1).alloc (.cells #[.slice A0 m c0] 25)))
    clear hO'
    have hO' := hO''
    clear hO''
    have GA : Hid (Grows w1 (w1.alloc (.cells #[.slice A0 m c0] 25))) := GW.out.alloc _
    clear GW
    have GW := GA
    clear GA
    have cX0 := X0.out.cell
    go_wp2_with fail
    refine (HRI.out _ GW.out).mono ?_
    rintro e w2 ⟨u2, rfl, hu2, g2⟩
    clear cX0
    have X0' := Lib.hid (X0.out.keep g2)
    clear X0
    have X0 := X0'
    clear X0'
    have hO'' := Lib.hid (hO'.out.keep g2)
    clear hO'
    have hO' := hO''
    clear hO''
    have GA : Hid (Grows w1 w2) := GW.out.trans g2
    clear GW
    have GW := GA
    clear GA
    clear g2
    have U2 := Lib.hid hu2
    clear hu2
    obtain ⟨A2, c2, hu2, _⟩ := U2.out.form
    subst hu2
    have X2 : Hid (Box (w2.alloc (.cells #[.slice A2 R.length c2] 25)) w2.heap.size (.slice A2 R.length c2) 25) := heap_alloc_new w2 _
    have X0' := Lib.hid (X0.out.keep ((Grows.refl w2).alloc (.cells #[.slice A2 R.length c2] 25)))
    clear X0
    have X0 := X0'
    clear X0'
    have hO'' := Lib.hid (hO'.out.keep ((Grows.refl w2).alloc (.cells #[.slice A2 R.length c2] 25)))
    clear hO'
    have hO' := hO''
    clear hO''
    have U2' := Lib.hid (U2.out.keep ((Grows.refl w2).alloc (.cells #[.slice A2 R.length c2] 25)))
    clear U2
    have U2 := U2'
    clear U2'
    have GA : Hid (Grows w1 (w2.alloc (.cells #[.slice A2 R.length c2] 25))) := GW.out.alloc _
    clear GW
    have GW := GA
    clear GA
    have cX0 := X0.out.cell
    have cX2 := X2.out.cell
    go_wp2_with fail
    refine (HRS.out _ GW.out).mono ?_
    rintro e w3 ⟨u3, rfl, hu3, g3⟩
    clear cX0 cX2
    have X0' := Lib.hid (X0.out.keep g3)
    clear X0
    have X0 := X0'
    clear X0'
    have X2' := Lib.hid (X2.out.keep g3)
    clear X2
    have X2 := X2'
    clear X2'
    have hO'' := Lib.hid (hO'.out.keep g3)
    clear hO'
    have hO' := hO''
    clear hO''
    have U2' := Lib.hid (U2.out.keep g3)
    clear U2
    have U2 := U2'
    clear U2'
    have GA : Hid (Grows w1 w3) := GW.out.trans g3
    clear GW
    have GW := GA
    clear GA
    clear g3
    have U3 := Lib.hid hu3
    clear hu3
    obtain ⟨A3, c3, hu3, _⟩ := U3.out.form
    subst hu3
    have X3 : Hid (Box (w3.alloc (.cells #[.slice A3 R.length c3] 25)) w3.heap.size (.slice A3 R.length c3) 25) := heap_alloc_new w3 _
    have X0' := Lib.hid (X0.out.keep ((Grows.refl w3).alloc (.cells #[.slice A3 R.length c3] 25)))
    clear X0
    have X0 := X0'
    clear X0'
    have X2' := Lib.hid (X2.out.keep ((Grows.refl w3).alloc (.cells #[.slice A3 R.length c3] 25)))
    clear X2
    have X2 := X2'
    clear X2'
    have hO'' := Lib.hid (hO'.out.keep ((Grows.refl w3).alloc (.cells #[.slice A3 R.length c3] 25)))
    clear hO'
    have hO' := hO''
    clear hO''
    have U2' := Lib.hid (U2.out.keep ((Grows.refl w3).alloc (.cells #[.slice A3 R.length c3] 25)))
    clear U2
    have U2 := U2'
    clear U2'
    have U3' := Lib.hid (U3.out.keep ((Grows.refl w3).alloc (.cells #[.slice A3 R.length c3] 25)))
    clear U3
    have U3 := U3'
    clear U3'
    have GA : Hid (Grows w1 (w3.alloc (.cells #[.slice A3 R.length c3] 25))) := GW.out.alloc _
    clear GW
    have GW := GA
    clear GA
    have cX0 := X0.out.cell
    have cX2 := X2.out.cell
    have cX3 := X3.out.cell
    go_wp2_with fail
    refine (equalFile_own _ _ _ _ R _ hrl U2.out U3.out).mono ?_
    rintro e w4 ⟨rfl, g4⟩
    clear cX0 cX2 cX3
    have X0' := Lib.hid (X0.out.keep g4)
    clear X0
    have X0 := X0'
    clear X0'
    have X2' := Lib.hid (X2.out.keep g4)
    clear X2
    have X2 := X2'
    clear X2'
    have X3' := Lib.hid (X3.out.keep g4)
    clear X3
    have X3 := X3'
    clear X3'
    have hO'' := Lib.hid (hO'.out.keep g4)
    clear hO'
    have hO' := hO''
    clear hO''
    have U2' := Lib.hid (U2.out.keep g4)
    clear U2
    have U2 := U2'
    clear U2'
    have U3' := Lib.hid (U3.out.keep g4)
    clear U3
    have U3 := U3'
    clear U3'
    have GA : Hid (Grows w1 w4) := GW.out.trans g4
    clear GW
    have GW := GA
    clear GA
    clear g4
    rcases rb with _ | _
    · have cX0 := X0.out.cell
      have cX2 := X2.out.cell
      have cX3 := X3.out.cell
      go_wp2_with fail
      refine (equalFile_own _ _ _ _ R _ hrl U2.out U3.out).mono ?_
      rintro e w5 ⟨rfl, g5⟩
      clear cX0 cX2 cX3
      have X0' := Lib.hid (X0.out.keep g5)
      clear X0
      have X0 := X0'
      clear X0'
      have X2' := Lib.hid (X2.out.keep g5)
      clear X2
      have X2 := X2'
      clear X2'
      have X3' := Lib.hid (X3.out.keep g5)
      clear X3
      have X3 := X3'
      clear X3'
      have hO'' := Lib.hid (hO'.out.keep g5)
      clear hO'
      have hO' := hO''
      clear hO''
      have U2' := Lib.hid (U2.out.keep g5)
      clear U2
      have U2 := U2'
      clear U2'
      have U3' := Lib.hid (U3.out.keep g5)
      clear U3
      have U3 := U3'
      clear U3'
      have GA : Hid (Grows w1 w5) := GW.out.trans g5
      clear GW
      have GW := GA
      clear GA
      clear g5
      have cX0 := X0.out.cell
      have cX2 := X2.out.cell
      have cX3 := X3.out.cell
      go_wp2
      go_ret
      exact ⟨rfl, (HG1.out.trans GW.out).below⟩
    · have HK := Lib.hid (HKR.out rfl)
      have hfR := HFR2.out rfl
      have HBK := Lib.hid (fun w2 (h : LnsAt w2 A2 R) => implRenameSection_any A2 c2 R tt s w2 hfR (by omega) h)
      have HKO := Lib.hid (fun w2 (h : LnsAt w2 A2 R) => implKeys_any A2 c2 R tt w2 hfR h)
      have HSO := Lib.hid (fun w2 (h : LnsAt w2 A2 R) => implSecs_any A2 c2 R w2 hfR h)
      obtain ⟨e1, e2⟩ := HK.out.again
      have e3 := HK.out.keys
      have HSF := Lib.hid HK.out.secs
      have hsl : (secsOf' R).length ≤ 20 := secs_20 R
      unfold ResLB at HBK
      unfold StrsRet at HKO HSO
      rw [e1, e2] at HBK
      rw [e3] at HKO
      clear e1 e2 e3 hfR HKR HFR2
      obtain ⟨ks, hks⟩ : ∃ ks, keysOf' K s = ks := ⟨_, rfl⟩
      rw [hks] at HKO HKF hkl
      clear hks
      obtain ⟨ss, hss⟩ : ∃ ss, secsOf' R = ss := ⟨_, rfl⟩
      rw [hss] at HSO HSF hsl
      clear hss
      have cX0 := X0.out.cell
      have cX2 := X2.out.cell
      have cX3 := X3.out.cell
      go_wp2_with fail
      refine (HBK.out _ U2.out.at).mono ?_
      rintro e w5 ⟨u5, rfl, hu5, g5⟩
      clear cX0 cX2 cX3
      have X0' := Lib.hid (X0.out.keep g5)
      clear X0
      have X0 := X0'
      clear X0'
      have X2' := Lib.hid (X2.out.keep g5)
      clear X2
      have X2 := X2'
      clear X2'
      have X3' := Lib.hid (X3.out.keep g5)
      clear X3
      have X3 := X3'
      clear X3'
      have hO'' := Lib.hid (hO'.out.keep g5)
      clear hO'
      have hO' := hO''
      clear hO''
      have U2' := Lib.hid (U2.out.keep g5)
      clear U2
      have U2 := U2'
      clear U2'
      have U3' := Lib.hid (U3.out.keep g5)
      clear U3
      have U3 := U3'
      clear U3'
      have GA : Hid (Grows w1 w5) := GW.out.trans g5
      clear GW
      have GW := GA
      clear GA
      clear g5
      have U5 := Lib.hid hu5
      clear hu5
      obtain ⟨A5, c5, hu5, _⟩ := U5.out.form
      subst hu5
      have X5 : Hid (Box (w5.alloc (.cells #[.slice A5 K.length c5] 25)) w5.heap.size (.slice A5 K.length c5) 25) := heap_alloc_new w5 _
      have X0' := Lib.hid (X0.out.keep ((Grows.refl w5).alloc (.cells #[.slice A5 K.length c5] 25)))
      clear X0
      have X0 := X0'
      clear X0'
      have X2' := Lib.hid (X2.out.keep ((Grows.refl w5).alloc (.cells #[.slice A5 K.length c5] 25)))
      clear X2
      have X2 := X2'
      clear X2'
      have X3' := Lib.hid (X3.out.keep ((Grows.refl w5).alloc (.cells #[.slice A5 K.length c5] 25)))
      clear X3
      have X3 := X3'
      clear X3'
      have hO'' := Lib.hid (hO'.out.keep ((Grows.refl w5).alloc (.cells #[.slice A5 K.length c5] 25)))
      clear hO'
      have hO' := hO''
      clear hO''
      have U2' := Lib.hid (U2.out.keep ((Grows.refl w5).alloc (.cells #[.slice A5 K.length c5] 25)))
      clear U2
      have U2 := U2'
      clear U2'
      have U3' := Lib.hid (U3.out.keep ((Grows.refl w5).alloc (.cells #[.slice A5 K.length c5] 25)))
      clear U3
      have U3 := U3'
      clear U3'
      have U5' := Lib.hid (U5.out.keep ((Grows.refl w5).alloc (.cells #[.slice A5 K.length c5] 25)))
      clear U5
      have U5 := U5'
      clear U5'
      have GA : Hid (Grows w1 (w5.alloc (.cells #[.slice A5 K.length c5] 25))) := GW.out.alloc _
      clear GW
      have GW := GA
      clear GA
      obtain ⟨w7, hw7⟩ : ∃ w7, (w5.alloc (.cells #[.slice A5 K.length c5] 25)) = w7 := ⟨_, rfl⟩
      have HW7 := Lib.hid hw7
      rw [hw7] at X0 X2 X3 X5 hO' U2 U3 U5 GW
      clear hw7
      go_upto_region 9 with (fail)
      rw [HW7.out]
      clear HW7
      have y0 : w7.cell? ⟨w1.heap.size, 0, none⟩ = some (.slice A0 m c0) ∧ w7.cell? ⟨w2.heap.size, 0, none⟩ = some (.slice A2 R.length c2) ∧ w7.cell? ⟨w5.heap.size, 0, none⟩ = some (.slice A5 K.length c5) := ⟨X0.out.cell, X2.out.cell, X5.out.cell⟩
      go_region_held3 (fun w' => w'.cell? ⟨w1.heap.size, 0, none⟩ = some (.slice A0 m c0) ∧ w'.cell? ⟨w2.heap.size, 0, none⟩ = some (.slice A2 R.length c2) ∧ w'.cell? ⟨w5.heap.size, 0, none⟩ = some (.slice A5 K.length c5)) (first | exact y0 | exact y8 | exact y9 | exact y10 | exact y11 | exact y12) (first | (go_at_call 33; refine (equalFile_own _ _ _ _ K _ (by rw [HM.out]; omega) (U5.out.keep (Grows.refl w7).drew) (hO'.out.keep (Grows.refl w7).drew)).mono ?_; rintro e w8 ⟨rfl, g8⟩; have J8 : Hid (Grows w7 w8) := (Grows.refl w7).drew.trans g8; clear g8; have y8 : w8.cell? ⟨w1.heap.size, 0, none⟩ = some (.slice A0 m c0) ∧ w8.cell? ⟨w2.heap.size, 0, none⟩ = some (.slice A2 R.length c2) ∧ w8.cell? ⟨w5.heap.size, 0, none⟩ = some (.slice A5 K.length c5) := ⟨(X0.out.keep J8.out).cell, (X2.out.keep J8.out).cell, (X5.out.keep J8.out).cell⟩) | (go_at_call 23; first | ((with_reducible refine (HKO.out w8 (U2.out.keep J8.out).at).mono ?_); rintro e w9 ⟨kv, rfl, hkv, g9⟩; have J9 : Hid (Grows w7 w9) := J8.out.trans g9; clear g9; have KV := Lib.hid hkv; clear hkv; have y9 : w9.cell? ⟨w1.heap.size, 0, none⟩ = some (.slice A0 m c0) ∧ w9.cell? ⟨w2.heap.size, 0, none⟩ = some (.slice A2 R.length c2) ∧ w9.cell? ⟨w5.heap.size, 0, none⟩ = some (.slice A5 K.length c5) := ⟨(X0.out.keep J9.out).cell, (X2.out.keep J9.out).cell, (X5.out.keep J9.out).cell⟩) | ((with_reducible refine (HKF.out w9 (GW.out.trans J9.out)).mono ?_); rintro e w10 ⟨ku, rfl, hku, g10⟩; have KV10 := Lib.hid (KV.out.keep g10); have J10 : Hid (Grows w7 w10) := J9.out.trans g10; clear g10; have KU := Lib.hid hku; clear hku; have y10 : w10.cell? ⟨w1.heap.size, 0, none⟩ = some (.slice A0 m c0) ∧ w10.cell? ⟨w2.heap.size, 0, none⟩ = some (.slice A2 R.length c2) ∧ w10.cell? ⟨w5.heap.size, 0, none⟩ = some (.slice A5 K.length c5) := ⟨(X0.out.keep J10.out).cell, (X2.out.keep J10.out).cell, (X5.out.keep J10.out).cell⟩)) | (go_at_call 17; refine (equalTexts_any _ _ _ _ ks _ (by omega) KV10.out KU.out).mono ?_; rintro e w11 ⟨rfl, g11⟩; have J11 : Hid (Grows w7 w11) := J10.out.trans g11; clear g11; have y11 : w11.cell? ⟨w1.heap.size, 0, none⟩ = some (.slice A0 m c0) ∧ w11.cell? ⟨w2.heap.size, 0, none⟩ = some (.slice A2 R.length c2) ∧ w11.cell? ⟨w5.heap.size, 0, none⟩ = some (.slice A5 K.length c5) := ⟨(X0.out.keep J11.out).cell, (X2.out.keep J11.out).cell, (X5.out.keep J11.out).cell⟩) | (go_at_call 16; refine (HSO.out w11 (U2.out.keep J11.out).at).mono ?_; rintro e w12 ⟨sv, rfl, hsv, g12⟩; have J12 : Hid (Grows w7 w12) := J11.out.trans g12; clear g12; have HHT := Lib.hid (hasTextL_any sv _ _ s w12 (by omega) hsv); rw [HSF.out] at HHT; clear hsv; have y12 : w12.cell? ⟨w1.heap.size, 0, none⟩ = some (.slice A0 m c0) ∧ w12.cell? ⟨w2.heap.size, 0, none⟩ = some (.slice A2 R.length c2) ∧ w12.cell? ⟨w5.heap.size, 0, none⟩ = some (.slice A5 K.length c5) := ⟨(X0.out.keep J12.out).cell, (X2.out.keep J12.out).cell, (X5.out.keep J12.out).cell⟩) | (go_at_call 26; refine (HHT.out).mono ?_; rintro e w13 ⟨rfl, rfl⟩))
      go_wp2
      go_ret
      exact ⟨rfl, (HG1.out.trans (GW.out.trans J12.out)).below⟩
end Go.Proofs.Yteifcogfnpeahaa
