/-
  The drawn law of DropKey: whatever its bytes, it returns true. Condition: no more bytes than a slice may have.
-/
import Derived.Test.YtclopcbpelhiaaaDoorDWhere
import Derived.Test.YtclopcbpelhiaaaDoorDropX
import Derived.Test.YtclopcbpelhiaaaDoorCopyF
import Derived.Test.YtclopcbpelhiaaaDoorLay
import Derived.Test.YtclopcbpelhiaaaDoorCutE
namespace Go.Proofs.YtclopcbpelhiaaaDoor
open Go.RowKit

set_option maxRecDepth 100000 in
set_option maxHeartbeats 4000000 in
theorem dDropK_any (A : Option Addr) (n c : Nat) (w : World) (hn : n ≤ maxLen) (hc : n ≤ c) (h : BytesAt w A n) :
    Calls Tryd.prog 3 #[.slice A n c] w fun e w' => e = .returned (.bool true) ∧ Below w.heap.size w w' := by
  by_cases hbig : 1048576 < n
  · clear h
    unfold maxLen at hn
    go_enter Tryd.func3, Tryd.ntmps3
    go_wp2
    go_ret
    exact ⟨rfl, (Grows.refl _).below⟩
  · have HD := Lib.hid (DrawDropKey_any A n c w hn hc h)
    clear h
    unfold maxLen at hn
    go_enter Tryd.func3, Tryd.ntmps3
    go_wp2_with fail
    refine (HD.out).mono ?_
    rintro e w1 ⟨v, K, s, key, rfl, ⟨hS, hK⟩, hO, ⟨hs, hk⟩, g1⟩
    obtain ⟨A0, c0, rfl, hA⟩ := hO.form
    have hf := hS.fit hK
    have HA := Lib.hid hA
    have HDI := Lib.hid (fun w2 (g : Grows w1 w2) => implDropKey_any A0 c0 K s key w2 hf (hA.keep g))
    have HDS := Lib.hid (fun w2 (g : Grows w1 w2) => specDropKey_any A0 c0 K s key w2 hf (hA.keep g))
    have HLF := Lib.hid (fun w2 (g : Grows w1 w2) => implLay_any A0 c0 K w2 hf (hA.keep g))
    have HG1 := Lib.hid g1
    have HT0 := Lib.hid (fun hb : getB K s key = true => dropT_of hf hb)
    have hrl : (dropKL K s key).length ≤ 1048576 := dropKL_le K s key hf.1
    have hO' := Lib.hid hO
    unfold ResLB at HDI HDS
    unfold ResE at HLF
    clear hS hO g1 hA hf HD
    obtain ⟨m, hm⟩ : ∃ m, K.length = m := ⟨_, rfl⟩
    rw [hm] at HDI HDS HLF hK hO' ⊢
    have HM := Lib.hid hm
    clear hm
    obtain ⟨R, hR⟩ : ∃ R, dropKL K s key = R := ⟨_, rfl⟩
    obtain ⟨rb, hrb⟩ : ∃ rb, getB K s key = rb := ⟨_, rfl⟩
    have HT : Hid (rb = true → DropT K s key R) := fun h => by rw [← hR]; exact HT0.out (hrb.trans h)
    rw [hR, hrb] at HDI HDS
    rw [hR] at hrl
    clear hR hrb HT0 hs hk
    have GW : Hid (Grows w1 w1) := Grows.refl _
    have X0 : Hid (Box (w1.alloc (.cells #[.slice A0 m c0] 25)) w1.heap.size (.slice A0 m c0) 25) := heap_alloc_new w1 _
    have hO'' := Lib.hid (hO'.out.keep ((Grows.refl w1).alloc (.cells #[.slice A0 m c0] 25)))
    clear hO'
    have hO' := hO''
    clear hO''
    have GA : Hid (Grows w1 (w1.alloc (.cells #[.slice A0 m c0] 25))) := GW.out.alloc _
    clear GW
    have GW := GA
    clear GA
    have cX0 := X0.out.cell
    go_wp2_with fail
    refine (HDI.out _ GW.out).mono ?_
    rintro e w2 ⟨u2, rfl, hu2, g2⟩
    clear cX0
    have X0' := Lib.hid (X0.out.keep g2)
    clear X0
    have X0 := X0'
    clear X0'
    have hO'' := Lib.hid (hO'.out.keep g2)
    clear hO'
    have hO' := hO''
    clear hO''
    have GA : Hid (Grows w1 w2) := GW.out.trans g2
    clear GW
    have GW := GA
    clear GA
    clear g2
    have U2 := Lib.hid hu2
    clear hu2
    obtain ⟨A2, c2, hu2, _⟩ := U2.out.form
    subst hu2
    have X2 : Hid (Box (w2.alloc (.cells #[.slice A2 R.length c2] 25)) w2.heap.size (.slice A2 R.length c2) 25) := heap_alloc_new w2 _
    have X0' := Lib.hid (X0.out.keep ((Grows.refl w2).alloc (.cells #[.slice A2 R.length c2] 25)))
    clear X0
    have X0 := X0'
    clear X0'
    have hO'' := Lib.hid (hO'.out.keep ((Grows.refl w2).alloc (.cells #[.slice A2 R.length c2] 25)))
    clear hO'
    have hO' := hO''
    clear hO''
    have U2' := Lib.hid (U2.out.keep ((Grows.refl w2).alloc (.cells #[.slice A2 R.length c2] 25)))
    clear U2
    have U2 := U2'
    clear U2'
    have GA : Hid (Grows w1 (w2.alloc (.cells #[.slice A2 R.length c2] 25))) := GW.out.alloc _
    clear GW
    have GW := GA
    clear GA
    have cX0 := X0.out.cell
    have cX2 := X2.out.cell
    go_wp2_with fail
    refine (HDS.out _ GW.out).mono ?_
    rintro e w3 ⟨u3, rfl, hu3, g3⟩
    clear cX0 cX2
    have X0' := Lib.hid (X0.out.keep g3)
    clear X0
    have X0 := X0'
    clear X0'
    have X2' := Lib.hid (X2.out.keep g3)
    clear X2
    have X2 := X2'
    clear X2'
    have hO'' := Lib.hid (hO'.out.keep g3)
    clear hO'
    have hO' := hO''
    clear hO''
    have U2' := Lib.hid (U2.out.keep g3)
    clear U2
    have U2 := U2'
    clear U2'
    have GA : Hid (Grows w1 w3) := GW.out.trans g3
    clear GW
    have GW := GA
    clear GA
    clear g3
    have U3 := Lib.hid hu3
    clear hu3
    obtain ⟨A3, c3, hu3, _⟩ := U3.out.form
    subst hu3
    have X3 : Hid (Box (w3.alloc (.cells #[.slice A3 R.length c3] 25)) w3.heap.size (.slice A3 R.length c3) 25) := heap_alloc_new w3 _
    have X0' := Lib.hid (X0.out.keep ((Grows.refl w3).alloc (.cells #[.slice A3 R.length c3] 25)))
    clear X0
    have X0 := X0'
    clear X0'
    have X2' := Lib.hid (X2.out.keep ((Grows.refl w3).alloc (.cells #[.slice A3 R.length c3] 25)))
    clear X2
    have X2 := X2'
    clear X2'
    have hO'' := Lib.hid (hO'.out.keep ((Grows.refl w3).alloc (.cells #[.slice A3 R.length c3] 25)))
    clear hO'
    have hO' := hO''
    clear hO''
    have U2' := Lib.hid (U2.out.keep ((Grows.refl w3).alloc (.cells #[.slice A3 R.length c3] 25)))
    clear U2
    have U2 := U2'
    clear U2'
    have U3' := Lib.hid (U3.out.keep ((Grows.refl w3).alloc (.cells #[.slice A3 R.length c3] 25)))
    clear U3
    have U3 := U3'
    clear U3'
    have GA : Hid (Grows w1 (w3.alloc (.cells #[.slice A3 R.length c3] 25))) := GW.out.alloc _
    clear GW
    have GW := GA
    clear GA
    have cX0 := X0.out.cell
    have cX2 := X2.out.cell
    have cX3 := X3.out.cell
    go_wp2_with fail
    refine (equalFile_own _ _ _ _ R _ hrl U2.out U3.out).mono ?_
    rintro e w4 ⟨rfl, g4⟩
    clear cX0 cX2 cX3
    have X0' := Lib.hid (X0.out.keep g4)
    clear X0
    have X0 := X0'
    clear X0'
    have X2' := Lib.hid (X2.out.keep g4)
    clear X2
    have X2 := X2'
    clear X2'
    have X3' := Lib.hid (X3.out.keep g4)
    clear X3
    have X3 := X3'
    clear X3'
    have hO'' := Lib.hid (hO'.out.keep g4)
    clear hO'
    have hO' := hO''
    clear hO''
    have U2' := Lib.hid (U2.out.keep g4)
    clear U2
    have U2 := U2'
    clear U2'
    have U3' := Lib.hid (U3.out.keep g4)
    clear U3
    have U3 := U3'
    clear U3'
    have GA : Hid (Grows w1 w4) := GW.out.trans g4
    clear GW
    have GW := GA
    clear GA
    clear g4
    rcases rb with _ | _
    · have cX0 := X0.out.cell
      have cX2 := X2.out.cell
      have cX3 := X3.out.cell
      go_wp2_with fail
      refine (equalFile_own _ _ _ _ R _ hrl U2.out U3.out).mono ?_
      rintro e w5 ⟨rfl, g5⟩
      clear cX0 cX2 cX3
      have X0' := Lib.hid (X0.out.keep g5)
      clear X0
      have X0 := X0'
      clear X0'
      have X2' := Lib.hid (X2.out.keep g5)
      clear X2
      have X2 := X2'
      clear X2'
      have X3' := Lib.hid (X3.out.keep g5)
      clear X3
      have X3 := X3'
      clear X3'
      have hO'' := Lib.hid (hO'.out.keep g5)
      clear hO'
      have hO' := hO''
      clear hO''
      have U2' := Lib.hid (U2.out.keep g5)
      clear U2
      have U2 := U2'
      clear U2'
      have U3' := Lib.hid (U3.out.keep g5)
      clear U3
      have U3 := U3'
      clear U3'
      have GA : Hid (Grows w1 w5) := GW.out.trans g5
      clear GW
      have GW := GA
      clear GA
      clear g5
      have cX0 := X0.out.cell
      have cX2 := X2.out.cell
      have cX3 := X3.out.cell
      go_wp2
      go_ret
      exact ⟨rfl, (HG1.out.trans GW.out).below⟩
    · have HK := Lib.hid (HT.out rfl)
      have HGR := Lib.hid (fun w2 (h : LnsAt w2 A2 R) => implGet_any A2 c2 R s key w2 HK.out.fits h)
      rw [HK.out.gone] at HGR
      obtain ⟨gv, hgv⟩ : ∃ gv, getV R s key = gv := ⟨_, rfl⟩
      rw [hgv] at HGR
      clear hgv
      have HLR := Lib.hid (fun w2 (h : LnsAt w2 A2 R) => implLay_any A2 c2 R w2 HK.out.fits h)
      unfold ResE at HLR
      have HCU := Lib.hid (fun (B : Option Addr) (d : Nat) w2 (h : EntsAt w2 B (layOf K)) => implCut_any B d (layOf K) s key w2 HK.out.layK h)
      unfold ResEB at HCU
      rw [HK.out.cut] at HCU
      have HSM := Lib.hid (fun (B : Option Addr) (d : Nat) (C : Option Addr) (e : Nat) w2 (h : EntsAt w2 B (layOf R)) (h2 : EntsAt w2 C (cutL (layOf K) s key)) => implSame_any B d (layOf R) C e (cutL (layOf K) s key) w2 HK.out.layR h HK.out.cutF h2)
      rw [HK.out.same] at HSM
      have hle0 : R.length < m := by have := HK.out.len; rw [HM.out] at this; exact this
      have hle : decide ((R.length : Int) < (m : Int)) = true := by simp; omega
      clear HK HT
      obtain ⟨LK, hLK⟩ : ∃ LK, layOf K = LK := ⟨_, rfl⟩
      rw [hLK] at HLF HCU HSM
      clear hLK
      obtain ⟨LR, hLR⟩ : ∃ LR, layOf R = LR := ⟨_, rfl⟩
      rw [hLR] at HLR HSM
      clear hLR
      obtain ⟨LC, hLC⟩ : ∃ LC, cutL LK s key = LC := ⟨_, rfl⟩
      rw [hLC] at HCU HSM
      clear hLC
      have cX0 := X0.out.cell
      have cX2 := X2.out.cell
      have cX3 := X3.out.cell
      go_wp2_with fail
      refine (HGR.out _ U2.out.at).mono ?_
      rintro e w5 ⟨rfl, g5⟩
      clear cX0 cX2 cX3
      have X0' := Lib.hid (X0.out.keep g5)
      clear X0
      have X0 := X0'
      clear X0'
      have X2' := Lib.hid (X2.out.keep g5)
      clear X2
      have X2 := X2'
      clear X2'
      have X3' := Lib.hid (X3.out.keep g5)
      clear X3
      have X3 := X3'
      clear X3'
      have hO'' := Lib.hid (hO'.out.keep g5)
      clear hO'
      have hO' := hO''
      clear hO''
      have U2' := Lib.hid (U2.out.keep g5)
      clear U2
      have U2 := U2'
      clear U2'
      have U3' := Lib.hid (U3.out.keep g5)
      clear U3
      have U3 := U3'
      clear U3'
      have GA : Hid (Grows w1 w5) := GW.out.trans g5
      clear GW
      have GW := GA
      clear GA
      clear g5
      have cX0 := X0.out.cell
      have cX2 := X2.out.cell
      have cX3 := X3.out.cell
      go_wp2_with fail
      refine (HLF.out _ GW.out).mono ?_
      rintro e w6 ⟨u6, rfl, hu6, g6⟩
      clear cX0 cX2 cX3
      have X0' := Lib.hid (X0.out.keep g6)
      clear X0
      have X0 := X0'
      clear X0'
      have X2' := Lib.hid (X2.out.keep g6)
      clear X2
      have X2 := X2'
      clear X2'
      have X3' := Lib.hid (X3.out.keep g6)
      clear X3
      have X3 := X3'
      clear X3'
      have hO'' := Lib.hid (hO'.out.keep g6)
      clear hO'
      have hO' := hO''
      clear hO''
      have U2' := Lib.hid (U2.out.keep g6)
      clear U2
      have U2 := U2'
      clear U2'
      have U3' := Lib.hid (U3.out.keep g6)
      clear U3
      have U3 := U3'
      clear U3'
      have GA : Hid (Grows w1 w6) := GW.out.trans g6
      clear GW
      have GW := GA
      clear GA
      clear g6
      have U6 := Lib.hid hu6
      clear hu6
      obtain ⟨A6, c6, hu6, hE6⟩ := U6.out.form
      subst hu6
      have cX0 := X0.out.cell
      have cX2 := X2.out.cell
      have cX3 := X3.out.cell
      go_wp2_with fail
      refine (HCU.out _ _ _ hE6).mono ?_
      rintro e w7 ⟨u7, rfl, hu7, g7⟩
      clear cX0 cX2 cX3
      have X0' := Lib.hid (X0.out.keep g7)
      clear X0
      have X0 := X0'
      clear X0'
      have X2' := Lib.hid (X2.out.keep g7)
      clear X2
      have X2 := X2'
      clear X2'
      have X3' := Lib.hid (X3.out.keep g7)
      clear X3
      have X3 := X3'
      clear X3'
      have hO'' := Lib.hid (hO'.out.keep g7)
      clear hO'
      have hO' := hO''
      clear hO''
      have U2' := Lib.hid (U2.out.keep g7)
      clear U2
      have U2 := U2'
      clear U2'
      have U3' := Lib.hid (U3.out.keep g7)
      clear U3
      have U3 := U3'
      clear U3'
      have U6' := Lib.hid (U6.out.keep g7)
      clear U6
      have U6 := U6'
      clear U6'
      have GA : Hid (Grows w1 w7) := GW.out.trans g7
      clear GW
      have GW := GA
      clear GA
      clear g7
      clear hE6
      have U7 := Lib.hid hu7
      clear hu7
      obtain ⟨A7, c7, hu7, _⟩ := U7.out.form
      subst hu7
      have X7 : Hid (Box (w7.alloc (.cells #[.slice A7 LC.length c7] 35)) w7.heap.size (.slice A7 LC.length c7) 35) := heap_alloc_new w7 _
      have X0' := Lib.hid (X0.out.keep ((Grows.refl w7).alloc (.cells #[.slice A7 LC.length c7] 35)))
      clear X0
      have X0 := X0'
      clear X0'
      have X2' := Lib.hid (X2.out.keep ((Grows.refl w7).alloc (.cells #[.slice A7 LC.length c7] 35)))
      clear X2
      have X2 := X2'
      clear X2'
      have X3' := Lib.hid (X3.out.keep ((Grows.refl w7).alloc (.cells #[.slice A7 LC.length c7] 35)))
      clear X3
      have X3 := X3'
      clear X3'
      have hO'' := Lib.hid (hO'.out.keep ((Grows.refl w7).alloc (.cells #[.slice A7 LC.length c7] 35)))
      clear hO'
      have hO' := hO''
      clear hO''
      have U2' := Lib.hid (U2.out.keep ((Grows.refl w7).alloc (.cells #[.slice A7 LC.length c7] 35)))
      clear U2
      have U2 := U2'
      clear U2'
      have U3' := Lib.hid (U3.out.keep ((Grows.refl w7).alloc (.cells #[.slice A7 LC.length c7] 35)))
      clear U3
      have U3 := U3'
      clear U3'
      have U6' := Lib.hid (U6.out.keep ((Grows.refl w7).alloc (.cells #[.slice A7 LC.length c7] 35)))
      clear U6
      have U6 := U6'
      clear U6'
      have U7' := Lib.hid (U7.out.keep ((Grows.refl w7).alloc (.cells #[.slice A7 LC.length c7] 35)))
      clear U7
      have U7 := U7'
      clear U7'
      have GA : Hid (Grows w1 (w7.alloc (.cells #[.slice A7 LC.length c7] 35))) := GW.out.alloc _
      clear GW
      have GW := GA
      clear GA
      obtain ⟨w8, hw8⟩ : ∃ w8, w7.alloc (.cells #[.slice A7 LC.length c7] 35) = w8 := ⟨_, rfl⟩
      have HW8 := Lib.hid hw8
      rw [hw8] at X0 X2 X3 X7 hO' U2 U3 U6 U7 GW
      clear hw8
      go_upto_region 10 with (fail)
      rw [HW8.out]
      clear HW8
      have y8 : w8.cell? ⟨w1.heap.size, 0, none⟩ = some (.slice A0 m c0) ∧ w8.cell? ⟨w2.heap.size, 0, none⟩ = some (.slice A2 R.length c2) ∧ w8.cell? ⟨w7.heap.size, 0, none⟩ = some (.slice A7 LC.length c7) := ⟨(X0.out.keep (Grows.refl w8)).cell, (X2.out.keep (Grows.refl w8)).cell, (X7.out.keep (Grows.refl w8)).cell⟩
      obtain ⟨A7', c7', he7, hE7⟩ := U7.out.form
      injection he7 with he71 he72 he73
      subst he71
      have HE7 := Lib.hid hE7
      clear hE7 he72 he73
      go_region_held3 (fun w' => w'.cell? ⟨w1.heap.size, 0, none⟩ = some (.slice A0 m c0) ∧ w'.cell? ⟨w2.heap.size, 0, none⟩ = some (.slice A2 R.length c2) ∧ w'.cell? ⟨w7.heap.size, 0, none⟩ = some (.slice A7 LC.length c7)) (first | exact y8 | exact y9 | exact y10) (first | (go_at_call 12; have HA1 := HLR.out w8.drew (U2.out.keep (Grows.refl w8).drew).at; refine HA1.mono ?_; rintro e w9 ⟨u9, rfl, hu9, g9⟩; clear HA1; have J9 : Hid (Grows w8 w9) := (Grows.refl w8).drew.trans g9; clear g9; obtain ⟨A9, c9, hv9, hE9⟩ := OwnE.form hu9; subst hv9; have HE9 := Lib.hid hE9; clear hE9 hu9; have y9 : w9.cell? ⟨w1.heap.size, 0, none⟩ = some (.slice A0 m c0) ∧ w9.cell? ⟨w2.heap.size, 0, none⟩ = some (.slice A2 R.length c2) ∧ w9.cell? ⟨w7.heap.size, 0, none⟩ = some (.slice A7 LC.length c7) := ⟨(X0.out.keep J9.out).cell, (X2.out.keep J9.out).cell, (X7.out.keep J9.out).cell⟩) | (go_at_call 13; have HA2 := HSM.out A9 c9 A7 c7 w9 HE9.out (HE7.out.keep J9.out); refine HA2.mono ?_; rintro e w10 ⟨rfl, g10⟩; clear HA2; have J10 : Hid (Grows w8 w10) := J9.out.trans g10; clear g10; have y10 : w10.cell? ⟨w1.heap.size, 0, none⟩ = some (.slice A0 m c0) ∧ w10.cell? ⟨w2.heap.size, 0, none⟩ = some (.slice A2 R.length c2) ∧ w10.cell? ⟨w7.heap.size, 0, none⟩ = some (.slice A7 LC.length c7) := ⟨(X0.out.keep J10.out).cell, (X2.out.keep J10.out).cell, (X7.out.keep J10.out).cell⟩))
      go_wp2
      go_ret
      exact ⟨rfl, (HG1.out.trans (GW.out.trans J10.out)).below⟩
end Go.Proofs.YtclopcbpelhiaaaDoor
