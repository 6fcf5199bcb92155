/-
  The drawn law of SetValue of what is there: whatever its bytes, it returns true. Condition: no more bytes than a slice may have.
-/
import Derived.Test.YtclopcbpelhiaaaDrwV
import Derived.Test.YtclopcbpelhiaaaSetR
import Derived.Test.YtclopcbpelhiaaaSetE
import Derived.Test.YtclopcbpelhiaaaSetP
namespace Go.Proofs.Ytclopcbpelhiaaa
open Go.RowKit

set_option maxRecDepth 100000 in
set_option maxHeartbeats 4000000 in
theorem dSetSame_any (A : Option Addr) (n c : Nat) (w : World) (hn : n ≤ maxLen) (hc : n ≤ c) (h : BytesAt w A n) :
    Calls Try.prog 4 #[.slice A n c] w fun e w' => e = .returned (.bool true) ∧ Below w.heap.size w w' := by
  by_cases hbig : 1048576 < n
  · clear h
    unfold maxLen at hn
    go_enter Try.func4, Try.ntmps4
    go_wp2
    go_ret
    exact ⟨rfl, (Grows.refl _).below⟩
  · have HD := Lib.hid (DrawSetValue_any A n c w hn hc h)
    clear h
    unfold maxLen at hn
    go_enter Try.func4, Try.ntmps4
    go_wp2_with fail
    refine (HD.out).mono ?_
    rintro e w1 ⟨u, K, s, key, v, rfl, ⟨hS, hK⟩, hO, ⟨hs, hk, ht⟩, g1⟩
    obtain ⟨A0, c0, rfl, hA, hcap, _, hA00⟩ := hO.form4
    have hf := hS.fit hK
    have HA := Lib.hid hA
    have HSI := Lib.hid (fun w2 (g : Grows w1 w2) => implSetC_any A0 c0 K s key v w2 hf (by omega) (by omega) (by omega) hcap hA00 (hA.keep g))
    have HSS := Lib.hid (fun w2 (g : Grows w1 w2) => specSet_any A0 c0 K s key v w2 hf (by omega) (by omega) (by omega) (hA.keep g))
    have HGF := Lib.hid (fun w2 (g : Grows w1 w2) => implGet_any A0 c0 K s key w2 hf (hA.keep g))
    have HSO := Lib.hid (fun w2 (g : Grows w1 w2) => implSetC_any A0 c0 K s key (getV K s key) w2 hf (by omega) (by omega) (by have := getV_short hS s key; omega) hcap hA00 (hA.keep g))
    have HG1 := Lib.hid g1
    have HSZ : Hid (s.size ≤ 1048576 ∧ key.size ≤ 1048576 ∧ v.size ≤ 1048576) := ⟨by omega, by omega, by omega⟩
    have HT0 := Lib.hid (fun hb : setB K s key v = true => setT_of hf (show s.size ≤ 1048576 by omega) (show key.size ≤ 1048576 by omega) (show v.size ≤ 1048576 by omega) hb)
    have hrl : (setL K s key v).length ≤ 1048576 := setL_le K s key v
    have hO' := Lib.hid hO
    have HFK := Lib.hid hf
    unfold ResLB at HSO
    unfold ResLB at HSI HSS
    clear hS hO g1 hA hf HD hcap hA00
    obtain ⟨m, hm⟩ : ∃ m, K.length = m := ⟨_, rfl⟩
    rw [hm] at HSI HSS HGF HSO hK hO' ⊢
    have HM := Lib.hid hm
    clear hm
    obtain ⟨R, hR⟩ : ∃ R, setL K s key v = R := ⟨_, rfl⟩
    obtain ⟨rb, hrb⟩ : ∃ rb, setB K s key v = rb := ⟨_, rfl⟩
    have HT : Hid (rb = true → SetT K s key v R) := fun h => by rw [← hR]; exact HT0.out (hrb.trans h)
    rw [hR, hrb] at HSI HSS
    rw [hR] at hrl
    clear hR hrb HT0 hs hk ht
    have GW : Hid (Grows w1 w1) := Grows.refl _
    have X0 : Hid (Box (w1.alloc (.cells #[.slice A0 m c0] 25)) w1.heap.size (.slice A0 m c0) 25) := heap_alloc_new w1 _
    have hO'' := Lib.hid (hO'.out.keep ((Grows.refl w1).alloc (.cells #[.slice A0 m c0] 25)))
    clear hO'
    have hO' := hO''
    clear hO''
    have GA : Hid (Grows w1 (w1.alloc (.cells #[.slice A0 m c0] 25))) := GW.out.alloc _
    clear GW
    have GW := GA
    clear GA
    have cX0 := X0.out.cell
    go_wp2_with fail
    refine (HSI.out _ GW.out).mono ?_
    rintro e w2 ⟨u2, rfl, hu2, g2⟩
    clear cX0
    have X0' := Lib.hid (X0.out.keep g2)
    clear X0
    have X0 := X0'
    clear X0'
    have hO'' := Lib.hid (hO'.out.keep g2)
    clear hO'
    have hO' := hO''
    clear hO''
    have GA : Hid (Grows w1 w2) := GW.out.trans g2
    clear GW
    have GW := GA
    clear GA
    clear g2
    have U2 := Lib.hid hu2
    clear hu2
    obtain ⟨A2, c2, hu2, _, hc2, _, hA2⟩ := U2.out.form4
    have HC2 := Lib.hid hc2
    have HA2 := Lib.hid hA2
    clear hc2 hA2
    subst hu2
    have X2 : Hid (Box (w2.alloc (.cells #[.slice A2 R.length c2] 25)) w2.heap.size (.slice A2 R.length c2) 25) := heap_alloc_new w2 _
    have X0' := Lib.hid (X0.out.keep ((Grows.refl w2).alloc (.cells #[.slice A2 R.length c2] 25)))
    clear X0
    have X0 := X0'
    clear X0'
    have hO'' := Lib.hid (hO'.out.keep ((Grows.refl w2).alloc (.cells #[.slice A2 R.length c2] 25)))
    clear hO'
    have hO' := hO''
    clear hO''
    have U2' := Lib.hid (U2.out.keep ((Grows.refl w2).alloc (.cells #[.slice A2 R.length c2] 25)))
    clear U2
    have U2 := U2'
    clear U2'
    have GA : Hid (Grows w1 (w2.alloc (.cells #[.slice A2 R.length c2] 25))) := GW.out.alloc _
    clear GW
    have GW := GA
    clear GA
    have cX0 := X0.out.cell
    have cX2 := X2.out.cell
    go_wp2_with fail
    refine (HSS.out _ GW.out).mono ?_
    rintro e w3 ⟨u3, rfl, hu3, g3⟩
    clear cX0 cX2
    have X0' := Lib.hid (X0.out.keep g3)
    clear X0
    have X0 := X0'
    clear X0'
    have X2' := Lib.hid (X2.out.keep g3)
    clear X2
    have X2 := X2'
    clear X2'
    have hO'' := Lib.hid (hO'.out.keep g3)
    clear hO'
    have hO' := hO''
    clear hO''
    have U2' := Lib.hid (U2.out.keep g3)
    clear U2
    have U2 := U2'
    clear U2'
    have GA : Hid (Grows w1 w3) := GW.out.trans g3
    clear GW
    have GW := GA
    clear GA
    clear g3
    have U3 := Lib.hid hu3
    clear hu3
    obtain ⟨A3, c3, hu3, _⟩ := U3.out.form
    subst hu3
    have X3 : Hid (Box (w3.alloc (.cells #[.slice A3 R.length c3] 25)) w3.heap.size (.slice A3 R.length c3) 25) := heap_alloc_new w3 _
    have X0' := Lib.hid (X0.out.keep ((Grows.refl w3).alloc (.cells #[.slice A3 R.length c3] 25)))
    clear X0
    have X0 := X0'
    clear X0'
    have X2' := Lib.hid (X2.out.keep ((Grows.refl w3).alloc (.cells #[.slice A3 R.length c3] 25)))
    clear X2
    have X2 := X2'
    clear X2'
    have hO'' := Lib.hid (hO'.out.keep ((Grows.refl w3).alloc (.cells #[.slice A3 R.length c3] 25)))
    clear hO'
    have hO' := hO''
    clear hO''
    have U2' := Lib.hid (U2.out.keep ((Grows.refl w3).alloc (.cells #[.slice A3 R.length c3] 25)))
    clear U2
    have U2 := U2'
    clear U2'
    have U3' := Lib.hid (U3.out.keep ((Grows.refl w3).alloc (.cells #[.slice A3 R.length c3] 25)))
    clear U3
    have U3 := U3'
    clear U3'
    have GA : Hid (Grows w1 (w3.alloc (.cells #[.slice A3 R.length c3] 25))) := GW.out.alloc _
    clear GW
    have GW := GA
    clear GA
    have cX0 := X0.out.cell
    have cX2 := X2.out.cell
    have cX3 := X3.out.cell
    go_wp2_with fail
    refine (equalFile_own _ _ _ _ R _ hrl U2.out U3.out).mono ?_
    rintro e w4 ⟨rfl, g4⟩
    clear cX0 cX2 cX3
    have X0' := Lib.hid (X0.out.keep g4)
    clear X0
    have X0 := X0'
    clear X0'
    have X2' := Lib.hid (X2.out.keep g4)
    clear X2
    have X2 := X2'
    clear X2'
    have X3' := Lib.hid (X3.out.keep g4)
    clear X3
    have X3 := X3'
    clear X3'
    have hO'' := Lib.hid (hO'.out.keep g4)
    clear hO'
    have hO' := hO''
    clear hO''
    have U2' := Lib.hid (U2.out.keep g4)
    clear U2
    have U2 := U2'
    clear U2'
    have U3' := Lib.hid (U3.out.keep g4)
    clear U3
    have U3 := U3'
    clear U3'
    have GA : Hid (Grows w1 w4) := GW.out.trans g4
    clear GW
    have GW := GA
    clear GA
    clear g4
    rcases rb with _ | _
    · have cX0 := X0.out.cell
      have cX2 := X2.out.cell
      have cX3 := X3.out.cell
      go_wp2_with fail
      refine (equalFile_own _ _ _ _ R _ hrl U2.out U3.out).mono ?_
      rintro e w5 ⟨rfl, g5⟩
      clear cX0 cX2 cX3
      have X0' := Lib.hid (X0.out.keep g5)
      clear X0
      have X0 := X0'
      clear X0'
      have X2' := Lib.hid (X2.out.keep g5)
      clear X2
      have X2 := X2'
      clear X2'
      have X3' := Lib.hid (X3.out.keep g5)
      clear X3
      have X3 := X3'
      clear X3'
      have hO'' := Lib.hid (hO'.out.keep g5)
      clear hO'
      have hO' := hO''
      clear hO''
      have U2' := Lib.hid (U2.out.keep g5)
      clear U2
      have U2 := U2'
      clear U2'
      have U3' := Lib.hid (U3.out.keep g5)
      clear U3
      have U3 := U3'
      clear U3'
      have GA : Hid (Grows w1 w5) := GW.out.trans g5
      clear GW
      have GW := GA
      clear GA
      clear g5
      have cX0 := X0.out.cell
      have cX2 := X2.out.cell
      have cX3 := X3.out.cell
      go_wp2
      go_ret
      exact ⟨rfl, (HG1.out.trans GW.out).below⟩
    · have HK := Lib.hid (HT.out rfl)
      have HBK := Lib.hid (fun w2 (h : LnsAt w2 A2 R) => implSetC_any A2 c2 R s key v w2 HK.out.fits HSZ.out.1 HSZ.out.2.1 HSZ.out.2.2 HC2.out HA2.out h)
      obtain ⟨e1, e2⟩ := HK.out.again
      unfold ResLB at HBK
      rw [e1, e2] at HBK
      clear e1 e2 HT
      have HON := Lib.hid HK.out.new
      have HOO := Lib.hid HK.out.old
      obtain ⟨gb, hgb⟩ : ∃ gb, getB K s key = gb := ⟨_, rfl⟩
      rw [hgb] at HGF HON HOO
      obtain ⟨gv, hgv⟩ : ∃ gv, getV K s key = gv := ⟨_, rfl⟩
      rw [hgv] at HGF HSO HOO
      clear hgv hgb
      rw [HM.out] at HON HOO
      have cX0 := X0.out.cell
      have cX2 := X2.out.cell
      have cX3 := X3.out.cell
      go_wp2_with fail
      refine (HBK.out _ U2.out.at).mono ?_
      rintro e w5 ⟨u5, rfl, hu5, g5⟩
      clear cX0 cX2 cX3
      have X0' := Lib.hid (X0.out.keep g5)
      clear X0
      have X0 := X0'
      clear X0'
      have X2' := Lib.hid (X2.out.keep g5)
      clear X2
      have X2 := X2'
      clear X2'
      have X3' := Lib.hid (X3.out.keep g5)
      clear X3
      have X3 := X3'
      clear X3'
      have hO'' := Lib.hid (hO'.out.keep g5)
      clear hO'
      have hO' := hO''
      clear hO''
      have U2' := Lib.hid (U2.out.keep g5)
      clear U2
      have U2 := U2'
      clear U2'
      have U3' := Lib.hid (U3.out.keep g5)
      clear U3
      have U3 := U3'
      clear U3'
      have GA : Hid (Grows w1 w5) := GW.out.trans g5
      clear GW
      have GW := GA
      clear GA
      clear g5
      have U5 := Lib.hid hu5
      clear hu5
      obtain ⟨A5, c5, hu5, _⟩ := U5.out.form
      subst hu5
      have X5 : Hid (Box (w5.alloc (.cells #[.slice A5 R.length c5] 25)) w5.heap.size (.slice A5 R.length c5) 25) := heap_alloc_new w5 _
      have X0' := Lib.hid (X0.out.keep ((Grows.refl w5).alloc (.cells #[.slice A5 R.length c5] 25)))
      clear X0
      have X0 := X0'
      clear X0'
      have X2' := Lib.hid (X2.out.keep ((Grows.refl w5).alloc (.cells #[.slice A5 R.length c5] 25)))
      clear X2
      have X2 := X2'
      clear X2'
      have X3' := Lib.hid (X3.out.keep ((Grows.refl w5).alloc (.cells #[.slice A5 R.length c5] 25)))
      clear X3
      have X3 := X3'
      clear X3'
      have hO'' := Lib.hid (hO'.out.keep ((Grows.refl w5).alloc (.cells #[.slice A5 R.length c5] 25)))
      clear hO'
      have hO' := hO''
      clear hO''
      have U2' := Lib.hid (U2.out.keep ((Grows.refl w5).alloc (.cells #[.slice A5 R.length c5] 25)))
      clear U2
      have U2 := U2'
      clear U2'
      have U3' := Lib.hid (U3.out.keep ((Grows.refl w5).alloc (.cells #[.slice A5 R.length c5] 25)))
      clear U3
      have U3 := U3'
      clear U3'
      have U5' := Lib.hid (U5.out.keep ((Grows.refl w5).alloc (.cells #[.slice A5 R.length c5] 25)))
      clear U5
      have U5 := U5'
      clear U5'
      have GA : Hid (Grows w1 (w5.alloc (.cells #[.slice A5 R.length c5] 25))) := GW.out.alloc _
      clear GW
      have GW := GA
      clear GA
      have cX0 := X0.out.cell
      have cX2 := X2.out.cell
      have cX3 := X3.out.cell
      have cX5 := X5.out.cell
      go_wp2_with fail
      refine (equalFile_own _ _ _ _ R _ hrl U5.out U2.out).mono ?_
      rintro e w6 ⟨rfl, g6⟩
      clear cX0 cX2 cX3 cX5
      have X0' := Lib.hid (X0.out.keep g6)
      clear X0
      have X0 := X0'
      clear X0'
      have X2' := Lib.hid (X2.out.keep g6)
      clear X2
      have X2 := X2'
      clear X2'
      have X3' := Lib.hid (X3.out.keep g6)
      clear X3
      have X3 := X3'
      clear X3'
      have X5' := Lib.hid (X5.out.keep g6)
      clear X5
      have X5 := X5'
      clear X5'
      have hO'' := Lib.hid (hO'.out.keep g6)
      clear hO'
      have hO' := hO''
      clear hO''
      have U2' := Lib.hid (U2.out.keep g6)
      clear U2
      have U2 := U2'
      clear U2'
      have U3' := Lib.hid (U3.out.keep g6)
      clear U3
      have U3 := U3'
      clear U3'
      have U5' := Lib.hid (U5.out.keep g6)
      clear U5
      have U5 := U5'
      clear U5'
      have GA : Hid (Grows w1 w6) := GW.out.trans g6
      clear GW
      have GW := GA
      clear GA
      clear g6
      have cX0 := X0.out.cell
      have cX2 := X2.out.cell
      have cX3 := X3.out.cell
      have cX5 := X5.out.cell
      go_wp2_with fail
      refine (HGF.out _ GW.out).mono ?_
      rintro e w7 ⟨rfl, g7⟩
      clear cX0 cX2 cX3 cX5
      have X0' := Lib.hid (X0.out.keep g7)
      clear X0
      have X0 := X0'
      clear X0'
      have X2' := Lib.hid (X2.out.keep g7)
      clear X2
      have X2 := X2'
      clear X2'
      have X3' := Lib.hid (X3.out.keep g7)
      clear X3
      have X3 := X3'
      clear X3'
      have X5' := Lib.hid (X5.out.keep g7)
      clear X5
      have X5 := X5'
      clear X5'
      have hO'' := Lib.hid (hO'.out.keep g7)
      clear hO'
      have hO' := hO''
      clear hO''
      have U2' := Lib.hid (U2.out.keep g7)
      clear U2
      have U2 := U2'
      clear U2'
      have U3' := Lib.hid (U3.out.keep g7)
      clear U3
      have U3 := U3'
      clear U3'
      have U5' := Lib.hid (U5.out.keep g7)
      clear U5
      have U5 := U5'
      clear U5'
      have GA : Hid (Grows w1 w7) := GW.out.trans g7
      clear GW
      have GW := GA
      clear GA
      clear g7
      rcases gb with _ | _
      · have hlt := HON.out rfl
        have hd : decide ((m : Int) < (R.length : Int)) = true := by simp; omega
        have hd2 : (m : Int) < (R.length : Int) := by omega
        have cX0 := X0.out.cell
        have cX2 := X2.out.cell
        have cX3 := X3.out.cell
        have cX5 := X5.out.cell
        go_wp2
        go_ret
        exact ⟨rfl, (HG1.out.trans GW.out).below⟩
      · obtain ⟨hl, e1, e2⟩ := HOO.out rfl
        rw [e1, e2] at HSO
        clear e1 e2
        have HRL := Lib.hid hl
        clear hl
        have cX0 := X0.out.cell
        have cX2 := X2.out.cell
        have cX3 := X3.out.cell
        have cX5 := X5.out.cell
        go_wp2_with fail
        refine (HSO.out _ GW.out).mono ?_
        rintro e w8 ⟨u8, rfl, hu8, g8⟩
        clear cX0 cX2 cX3 cX5
        have X0' := Lib.hid (X0.out.keep g8)
        clear X0
        have X0 := X0'
        clear X0'
        have X2' := Lib.hid (X2.out.keep g8)
        clear X2
        have X2 := X2'
        clear X2'
        have X3' := Lib.hid (X3.out.keep g8)
        clear X3
        have X3 := X3'
        clear X3'
        have X5' := Lib.hid (X5.out.keep g8)
        clear X5
        have X5 := X5'
        clear X5'
        have hO'' := Lib.hid (hO'.out.keep g8)
        clear hO'
        have hO' := hO''
        clear hO''
        have U2' := Lib.hid (U2.out.keep g8)
        clear U2
        have U2 := U2'
        clear U2'
        have U3' := Lib.hid (U3.out.keep g8)
        clear U3
        have U3 := U3'
        clear U3'
        have U5' := Lib.hid (U5.out.keep g8)
        clear U5
        have U5 := U5'
        clear U5'
        have GA : Hid (Grows w1 w8) := GW.out.trans g8
        clear GW
        have GW := GA
        clear GA
        clear g8
        have U8 := Lib.hid hu8
        clear hu8
        obtain ⟨A8, c8, hu8, _⟩ := U8.out.form
        rw [HM.out] at hu8
        subst hu8
        have X8 : Hid (Box (w8.alloc (.cells #[.slice A8 m c8] 25)) w8.heap.size (.slice A8 m c8) 25) := heap_alloc_new w8 _
        have X0' := Lib.hid (X0.out.keep ((Grows.refl w8).alloc (.cells #[.slice A8 m c8] 25)))
        clear X0
        have X0 := X0'
        clear X0'
        have X2' := Lib.hid (X2.out.keep ((Grows.refl w8).alloc (.cells #[.slice A8 m c8] 25)))
        clear X2
        have X2 := X2'
        clear X2'
        have X3' := Lib.hid (X3.out.keep ((Grows.refl w8).alloc (.cells #[.slice A8 m c8] 25)))
        clear X3
        have X3 := X3'
        clear X3'
        have X5' := Lib.hid (X5.out.keep ((Grows.refl w8).alloc (.cells #[.slice A8 m c8] 25)))
        clear X5
        have X5 := X5'
        clear X5'
        have hO'' := Lib.hid (hO'.out.keep ((Grows.refl w8).alloc (.cells #[.slice A8 m c8] 25)))
        clear hO'
        have hO' := hO''
        clear hO''
        have U2' := Lib.hid (U2.out.keep ((Grows.refl w8).alloc (.cells #[.slice A8 m c8] 25)))
        clear U2
        have U2 := U2'
        clear U2'
        have U3' := Lib.hid (U3.out.keep ((Grows.refl w8).alloc (.cells #[.slice A8 m c8] 25)))
        clear U3
        have U3 := U3'
        clear U3'
        have U5' := Lib.hid (U5.out.keep ((Grows.refl w8).alloc (.cells #[.slice A8 m c8] 25)))
        clear U5
        have U5 := U5'
        clear U5'
        have U8' := Lib.hid (U8.out.keep ((Grows.refl w8).alloc (.cells #[.slice A8 m c8] 25)))
        clear U8
        have U8 := U8'
        clear U8'
        have GA : Hid (Grows w1 (w8.alloc (.cells #[.slice A8 m c8] 25))) := GW.out.alloc _
        clear GW
        have GW := GA
        clear GA
        have cX0 := X0.out.cell
        have cX2 := X2.out.cell
        have cX3 := X3.out.cell
        have cX5 := X5.out.cell
        have cX8 := X8.out.cell
        go_wp2_with fail
        refine (equalFile_own _ _ _ _ K _ (by rw [HM.out]; omega) U8.out hO'.out).mono ?_
        rintro e w9 ⟨rfl, g9⟩
        clear cX0 cX2 cX3 cX5 cX8
        have X0' := Lib.hid (X0.out.keep g9)
        clear X0
        have X0 := X0'
        clear X0'
        have X2' := Lib.hid (X2.out.keep g9)
        clear X2
        have X2 := X2'
        clear X2'
        have X3' := Lib.hid (X3.out.keep g9)
        clear X3
        have X3 := X3'
        clear X3'
        have X5' := Lib.hid (X5.out.keep g9)
        clear X5
        have X5 := X5'
        clear X5'
        have X8' := Lib.hid (X8.out.keep g9)
        clear X8
        have X8 := X8'
        clear X8'
        have hO'' := Lib.hid (hO'.out.keep g9)
        clear hO'
        have hO' := hO''
        clear hO''
        have U2' := Lib.hid (U2.out.keep g9)
        clear U2
        have U2 := U2'
        clear U2'
        have U3' := Lib.hid (U3.out.keep g9)
        clear U3
        have U3 := U3'
        clear U3'
        have U5' := Lib.hid (U5.out.keep g9)
        clear U5
        have U5 := U5'
        clear U5'
        have U8' := Lib.hid (U8.out.keep g9)
        clear U8
        have U8 := U8'
        clear U8'
        have GA : Hid (Grows w1 w9) := GW.out.trans g9
        clear GW
        have GW := GA
        clear GA
        clear g9
        rw [HRL.out] at X2
        have cX0 := X0.out.cell
        have cX2 := X2.out.cell
        have cX3 := X3.out.cell
        have cX5 := X5.out.cell
        have cX8 := X8.out.cell
        go_wp2
        go_ret
        exact ⟨rfl, (HG1.out.trans GW.out).below⟩
end Go.Proofs.Ytclopcbpelhiaaa
