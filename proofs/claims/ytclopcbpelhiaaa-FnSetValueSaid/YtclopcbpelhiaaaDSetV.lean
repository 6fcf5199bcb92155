/-
  The drawn law of SetValue: whatever its bytes, it returns true. Condition: no more bytes than a slice may have.
-/
import Derived.Test.YtclopcbpelhiaaaDrwV
import Derived.Test.YtclopcbpelhiaaaSetR
import Derived.Test.YtclopcbpelhiaaaSetE
import Derived.Test.YtclopcbpelhiaaaLay
import Derived.Test.YtclopcbpelhiaaaFile
import Derived.Test.YtclopcbpelhiaaaApartB
namespace Go.Proofs.Ytclopcbpelhiaaa
open Go.RowKit

set_option maxRecDepth 100000 in
set_option maxHeartbeats 4000000 in
theorem dSet_any (A : Option Addr) (n c : Nat) (w : World) (hn : n ≤ maxLen) (hc : n ≤ c) (h : BytesAt w A n) :
    Calls Try.prog 3 #[.slice A n c] w fun e w' => e = .returned (.bool true) ∧ Below w.heap.size w w' := by
  by_cases hbig : 1048576 < n
  · clear h
    unfold maxLen at hn
    go_enter Try.func3, Try.ntmps3
    go_wp2
    go_ret
    exact ⟨rfl, (Grows.refl _).below⟩
  · have HD := Lib.hid (DrawSetValue_any A n c w hn hc h)
    clear h
    unfold maxLen at hn
    go_enter Try.func3, Try.ntmps3
    go_wp2_with fail
    refine (HD.out).mono ?_
    rintro e w1 ⟨u, K, s, key, v, rfl, ⟨hS, hK⟩, hO, ⟨hs, hk, ht⟩, g1⟩
    obtain ⟨A0, c0, rfl, hA, hcap, _, hA00⟩ := hO.form4
    have hf := hS.fit hK
    have HA := Lib.hid hA
    have HSI := Lib.hid (fun w2 (g : Grows w1 w2) => implSetC_any A0 c0 K s key v w2 hf (by omega) (by omega) (by omega) hcap hA00 (hA.keep g))
    have HSS := Lib.hid (fun w2 (g : Grows w1 w2) => specSet_any A0 c0 K s key v w2 hf (by omega) (by omega) (by omega) (hA.keep g))
    have HLF := Lib.hid (fun w2 (g : Grows w1 w2) => implLay_any A0 c0 K w2 hf (hA.keep g))
    have HG1 := Lib.hid g1
    have HSZ : Hid (s.size ≤ 1048576 ∧ key.size ≤ 1048576 ∧ v.size ≤ 1048576) := ⟨by omega, by omega, by omega⟩
    have HT0 := Lib.hid (fun hb : setB K s key v = true => setT_of hf (show s.size ≤ 1048576 by omega) (show key.size ≤ 1048576 by omega) (show v.size ≤ 1048576 by omega) hb)
    have hrl : (setL K s key v).length ≤ 1048576 := setL_le K s key v
    have hO' := Lib.hid hO
    have HFK := Lib.hid hf
    unfold ResE at HLF
    unfold ResLB at HSI HSS
    clear hS hO g1 hA hf HD hcap hA00
    obtain ⟨m, hm⟩ : ∃ m, K.length = m := ⟨_, rfl⟩
    rw [hm] at HSI HSS HLF hK hO' ⊢
    have HM := Lib.hid hm
    clear hm
    obtain ⟨R, hR⟩ : ∃ R, setL K s key v = R := ⟨_, rfl⟩
    obtain ⟨rb, hrb⟩ : ∃ rb, setB K s key v = rb := ⟨_, rfl⟩
    have HT : Hid (rb = true → SetT K s key v R) := fun h => by rw [← hR]; exact HT0.out (hrb.trans h)
    rw [hR, hrb] at HSI HSS
    rw [hR] at hrl
    clear hR hrb HT0 hs hk ht
    have GW : Hid (Grows w1 w1) := Grows.refl _
    have X0 : Hid (Box (w1.alloc (.cells #[.slice A0 m c0] 25)) w1.heap.size (.slice A0 m c0) 25) := heap_alloc_new w1 _
    have hO'' := Lib.hid (hO'.out.keep ((Grows.refl w1).alloc (.cells #[.slice A0 m c0] 25)))
    clear hO'
    have hO' := hO''
    clear hO''
    have GA : Hid (Grows w1 (w1.alloc (.cells #[.slice A0 m c0] 25))) := GW.out.alloc _
    clear GW
    have GW := GA
    clear GA
    have cX0 := X0.out.cell
    go_wp2_with fail
    refine (HSI.out _ GW.out).mono ?_
    rintro e w2 ⟨u2, rfl, hu2, g2⟩
    clear cX0
    have X0' := Lib.hid (X0.out.keep g2)
    clear X0
    have X0 := X0'
    clear X0'
    have hO'' := Lib.hid (hO'.out.keep g2)
    clear hO'
    have hO' := hO''
    clear hO''
    have GA : Hid (Grows w1 w2) := GW.out.trans g2
    clear GW
    have GW := GA
    clear GA
    clear g2
    have U2 := Lib.hid hu2
    clear hu2
    obtain ⟨A2, c2, hu2, _, hc2, _, hA2⟩ := U2.out.form4
    have HC2 := Lib.hid hc2
    have HA2 := Lib.hid hA2
    clear hc2 hA2
    subst hu2
    have X2 : Hid (Box (w2.alloc (.cells #[.slice A2 R.length c2] 25)) w2.heap.size (.slice A2 R.length c2) 25) := heap_alloc_new w2 _
    have X0' := Lib.hid (X0.out.keep ((Grows.refl w2).alloc (.cells #[.slice A2 R.length c2] 25)))
    clear X0
    have X0 := X0'
    clear X0'
    have hO'' := Lib.hid (hO'.out.keep ((Grows.refl w2).alloc (.cells #[.slice A2 R.length c2] 25)))
    clear hO'
    have hO' := hO''
    clear hO''
    have U2' := Lib.hid (U2.out.keep ((Grows.refl w2).alloc (.cells #[.slice A2 R.length c2] 25)))
    clear U2
    have U2 := U2'
    clear U2'
    have GA : Hid (Grows w1 (w2.alloc (.cells #[.slice A2 R.length c2] 25))) := GW.out.alloc _
    clear GW
    have GW := GA
    clear GA
    have cX0 := X0.out.cell
    have cX2 := X2.out.cell
    go_wp2_with fail
    refine (HSS.out _ GW.out).mono ?_
    rintro e w3 ⟨u3, rfl, hu3, g3⟩
    clear cX0 cX2
    have X0' := Lib.hid (X0.out.keep g3)
    clear X0
    have X0 := X0'
    clear X0'
    have X2' := Lib.hid (X2.out.keep g3)
    clear X2
    have X2 := X2'
    clear X2'
    have hO'' := Lib.hid (hO'.out.keep g3)
    clear hO'
    have hO' := hO''
    clear hO''
    have U2' := Lib.hid (U2.out.keep g3)
    clear U2
    have U2 := U2'
    clear U2'
    have GA : Hid (Grows w1 w3) := GW.out.trans g3
    clear GW
    have GW := GA
    clear GA
    clear g3
    have U3 := Lib.hid hu3
    clear hu3
    obtain ⟨A3, c3, hu3, _⟩ := U3.out.form
    subst hu3
    have X3 : Hid (Box (w3.alloc (.cells #[.slice A3 R.length c3] 25)) w3.heap.size (.slice A3 R.length c3) 25) := heap_alloc_new w3 _
    have X0' := Lib.hid (X0.out.keep ((Grows.refl w3).alloc (.cells #[.slice A3 R.length c3] 25)))
    clear X0
    have X0 := X0'
    clear X0'
    have X2' := Lib.hid (X2.out.keep ((Grows.refl w3).alloc (.cells #[.slice A3 R.length c3] 25)))
    clear X2
    have X2 := X2'
    clear X2'
    have hO'' := Lib.hid (hO'.out.keep ((Grows.refl w3).alloc (.cells #[.slice A3 R.length c3] 25)))
    clear hO'
    have hO' := hO''
    clear hO''
    have U2' := Lib.hid (U2.out.keep ((Grows.refl w3).alloc (.cells #[.slice A3 R.length c3] 25)))
    clear U2
    have U2 := U2'
    clear U2'
    have U3' := Lib.hid (U3.out.keep ((Grows.refl w3).alloc (.cells #[.slice A3 R.length c3] 25)))
    clear U3
    have U3 := U3'
    clear U3'
    have GA : Hid (Grows w1 (w3.alloc (.cells #[.slice A3 R.length c3] 25))) := GW.out.alloc _
    clear GW
    have GW := GA
    clear GA
    have cX0 := X0.out.cell
    have cX2 := X2.out.cell
    have cX3 := X3.out.cell
    go_wp2_with fail
    refine (equalFile_own _ _ _ _ R _ hrl U2.out U3.out).mono ?_
    rintro e w4 ⟨rfl, g4⟩
    clear cX0 cX2 cX3
    have X0' := Lib.hid (X0.out.keep g4)
    clear X0
    have X0 := X0'
    clear X0'
    have X2' := Lib.hid (X2.out.keep g4)
    clear X2
    have X2 := X2'
    clear X2'
    have X3' := Lib.hid (X3.out.keep g4)
    clear X3
    have X3 := X3'
    clear X3'
    have hO'' := Lib.hid (hO'.out.keep g4)
    clear hO'
    have hO' := hO''
    clear hO''
    have U2' := Lib.hid (U2.out.keep g4)
    clear U2
    have U2 := U2'
    clear U2'
    have U3' := Lib.hid (U3.out.keep g4)
    clear U3
    have U3 := U3'
    clear U3'
    have GA : Hid (Grows w1 w4) := GW.out.trans g4
    clear GW
    have GW := GA
    clear GA
    clear g4
    rcases rb with _ | _
    · have cX0 := X0.out.cell
      have cX2 := X2.out.cell
      have cX3 := X3.out.cell
      go_wp2_with fail
      refine (equalFile_own _ _ _ _ R _ hrl U2.out U3.out).mono ?_
      rintro e w5 ⟨rfl, g5⟩
      clear cX0 cX2 cX3
      have X0' := Lib.hid (X0.out.keep g5)
      clear X0
      have X0 := X0'
      clear X0'
      have X2' := Lib.hid (X2.out.keep g5)
      clear X2
      have X2 := X2'
      clear X2'
      have X3' := Lib.hid (X3.out.keep g5)
      clear X3
      have X3 := X3'
      clear X3'
      have hO'' := Lib.hid (hO'.out.keep g5)
      clear hO'
      have hO' := hO''
      clear hO''
      have U2' := Lib.hid (U2.out.keep g5)
      clear U2
      have U2 := U2'
      clear U2'
      have U3' := Lib.hid (U3.out.keep g5)
      clear U3
      have U3 := U3'
      clear U3'
      have GA : Hid (Grows w1 w5) := GW.out.trans g5
      clear GW
      have GW := GA
      clear GA
      clear g5
      have cX0 := X0.out.cell
      have cX2 := X2.out.cell
      have cX3 := X3.out.cell
      go_wp2
      go_ret
      exact ⟨rfl, (HG1.out.trans GW.out).below⟩
    · have HK := Lib.hid (HT.out rfl)
      have HGR := Lib.hid (fun (s' k' : ByteArray) w2 (h : LnsAt w2 A2 R) => implGet_any A2 c2 R s' k' w2 HK.out.fits h)
      have HGI := Lib.hid (fun w2 (h : LnsAt w2 A2 R) => implGet_any A2 c2 R s key w2 HK.out.fits h)
      have HVF := Lib.hid (fun w2 (h : LnsAt w2 A2 R) => implFile_any A2 c2 R w2 HK.out.fits h)
      rw [HK.out.get.1, HK.out.get.2] at HGI
      rw [HK.out.vR] at HVF
      have HLI := Lib.hid HK.out.list
      clear HK HT
      obtain ⟨L, hL⟩ : ∃ L, layOf K = L := ⟨_, rfl⟩
      rw [hL] at HLF HLI
      have hll : L.length ≤ 420 := by rw [← hL]; exact Nat.le_trans (lay_le K) (by omega)
      clear hL
      have cX0 := X0.out.cell
      have cX2 := X2.out.cell
      have cX3 := X3.out.cell
      go_wp2_with fail
      refine (HGI.out _ U2.out.at).mono ?_
      rintro e w5 ⟨rfl, g5⟩
      clear cX0 cX2 cX3
      have X0' := Lib.hid (X0.out.keep g5)
      clear X0
      have X0 := X0'
      clear X0'
      have X2' := Lib.hid (X2.out.keep g5)
      clear X2
      have X2 := X2'
      clear X2'
      have X3' := Lib.hid (X3.out.keep g5)
      clear X3
      have X3 := X3'
      clear X3'
      have hO'' := Lib.hid (hO'.out.keep g5)
      clear hO'
      have hO' := hO''
      clear hO''
      have U2' := Lib.hid (U2.out.keep g5)
      clear U2
      have U2 := U2'
      clear U2'
      have U3' := Lib.hid (U3.out.keep g5)
      clear U3
      have U3 := U3'
      clear U3'
      have GA : Hid (Grows w1 w5) := GW.out.trans g5
      clear GW
      have GW := GA
      clear GA
      clear g5
      have cX0 := X0.out.cell
      have cX2 := X2.out.cell
      have cX3 := X3.out.cell
      go_wp2_with fail
      refine (HLF.out _ GW.out).mono ?_
      rintro e w6 ⟨u6, rfl, hu6, g6⟩
      clear cX0 cX2 cX3
      have X0' := Lib.hid (X0.out.keep g6)
      clear X0
      have X0 := X0'
      clear X0'
      have X2' := Lib.hid (X2.out.keep g6)
      clear X2
      have X2 := X2'
      clear X2'
      have X3' := Lib.hid (X3.out.keep g6)
      clear X3
      have X3 := X3'
      clear X3'
      have hO'' := Lib.hid (hO'.out.keep g6)
      clear hO'
      have hO' := hO''
      clear hO''
      have U2' := Lib.hid (U2.out.keep g6)
      clear U2
      have U2 := U2'
      clear U2'
      have U3' := Lib.hid (U3.out.keep g6)
      clear U3
      have U3 := U3'
      clear U3'
      have GA : Hid (Grows w1 w6) := GW.out.trans g6
      clear GW
      have GW := GA
      clear GA
      clear g6
      have U6 := Lib.hid hu6
      clear hu6
      obtain ⟨A6, c6, hu6, _⟩ := U6.out.form
      subst hu6
      obtain ⟨q, hq⟩ : ∃ q, L.length = q := ⟨_, rfl⟩
      have HQ := Lib.hid hq
      rw [hq] at U6 hll ⊢
      clear hq
      have GJ := Lib.hid GW.out
      have hfd : ∀ W : World, (Instr.field 35 (.agg #[.slice A6 q c6]) 0).run Try.prog W = .ok (.slice A6 q c6) W := fun _ => by kernel_rfl
      go_wp2_with fail
      clear hfd
      go_loopw [14] (fun i wr => ∃ k : Nat, k ≤ q ∧ i = .int .i64 k ∧ Hid (Grows w6 wr)) (fun i _ => q - (intOf i).toNat)
      case atStart => exact ⟨0, Nat.zero_le _, rfl, Grows.refl _⟩
      case round =>
        obtain ⟨k, hk, rfl, HG⟩ := hrel
        have hx2 := (X2.out.keep HG.out).cell
        by_cases hlt : k < q
        · have hkL : k < L.length := by rw [HQ.out]; exact hlt
          have U9 := U6.out.keep HG.out
          rw [← HQ.out] at U9
          obtain ⟨A9, c9, he9, hE9⟩ := OwnE.form U9
          injection he9 with he1 he2 he3
          subst he1
          subst he3
          obtain ⟨bb, oo, hA9, hbb, hcc⟩ := hE9 (by omega)
          subst hA9
          have hat := hcc k hkL
          have hin := HLI.out L[k] (List.getElem_mem hkL)
          obtain ⟨⟨es, ek, eo, ev⟩, hl⟩ : ∃ l, L[k] = l := ⟨_, rfl⟩
          rw [hl] at hat hin
          obtain ⟨d0, d1, d2, d3⟩ := hat
          simp only at d0 d1 d2 d3 hin
          have HIN := Lib.hid hin
          clear hl hcc U9 hE9 he2 hin
          go_upto_region 14 with (fail)
          have BE : Hid (BoxE (wr.alloc (.cells #[.string es, .string ek, .int .i64 eo, .string ev] 38)) wr.heap.size ⟨es, ek, eo, ev⟩ 38) := BoxE.new wr ⟨es, ek, eo, ev⟩ _
          have HGB : Hid (Grows wr (wr.alloc (.cells #[.string es, .string ek, .int .i64 eo, .string ev] 38))) := (Grows.refl wr).alloc _
          obtain ⟨wb, hwb⟩ : ∃ wb, wr.alloc (.cells #[.string es, .string ek, .int .i64 eo, .string ev] 38) = wb := ⟨_, rfl⟩
          rw [hwb] at BE HGB ⊢
          obtain ⟨rs, hrs⟩ : ∃ rs, wr.heap.size = rs := ⟨_, rfl⟩
          rw [hrs] at BE ⊢
          clear hwb hrs d0 d1 d2 d3 hx2
          have hx2 := (X2.out.keep (HG.out.trans HGB.out)).cell
          have b0 := BE.out.at0
          have b1 := BE.out.at1
          have b3 := BE.out.at3
          simp only at b0 b1 b3
          go_wp2_with fail
          refine (HGR.out _ _ _ (U2.out.keep (HG.out.trans HGB.out)).at).mono ?_
          rintro e wc ⟨rfl, gc⟩
          have BC := Lib.hid (BE.out.keep gc)
          have HGC : Hid (Grows wr wc) := HGB.out.trans gc
          clear b0 b1 b3 hx2 gc BE
          have b0 := BC.out.at0
          have b1 := BC.out.at1
          have b3 := BC.out.at3
          simp only at b0 b1 b3
          rw [HIN.out.1]
          obtain ⟨gv, hgv⟩ : ∃ gv, getV R es ek = gv := ⟨_, rfl⟩
          rw [hgv]
          by_cases hev : gv = ev
          · subst hev
            go_wp2
            go_roundw
            case rel => exact ⟨k + 1, by omega, by go_num, HG.out.trans HGC.out⟩
            case measure => simp [intOf]; omega
          · have hne : ¬ getV R es ek = ev := by rw [hgv]; exact hev
            obtain ⟨h1, h2⟩ := HIN.out.2.resolve_left hne
            subst h1
            subst h2
            clear hne hev hgv
            go_wp2
            all_goals
              go_roundw
              case rel => exact ⟨k + 1, by omega, by go_num, HG.out.trans HGC.out⟩
              case measure => simp [intOf]; omega
        · obtain rfl : k = q := by omega
          go_wp2_with fail
          refine (HVF.out _ (U2.out.keep HG.out).at).mono ?_
          rintro e wz ⟨rfl, gz⟩
          go_wp2
          go_ret
          exact ⟨rfl, (HG1.out.trans (GJ.out.trans (HG.out.trans gz))).below⟩
end Go.Proofs.Ytclopcbpelhiaaa
