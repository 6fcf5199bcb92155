/-
  The drawn law of ValidLayer: whatever its bytes, it returns true. Condition: no more bytes than a slice may have.
-/
import Derived.Test.YtgjineoiebokhaaDoorDrwL
import Derived.Test.YtgjineoiebokhaaDoorLawH
import Derived.Test.YtgjineoiebokhaaDoorLayT
import Derived.Test.YtgjineoiebokhaaDoorCutE
import Derived.Test.YtgjineoiebokhaaDoorLawVL
import Derived.Test.YtgjineoiebokhaaDoorDWhere
import Derived.Test.YtgjineoiebokhaaDoorApartB
namespace Go.Proofs.YtgjineoiebokhaaDoor
open Go.RowKit

set_option maxRecDepth 100000 in
set_option maxHeartbeats 4000000 in
theorem dVLay_any (A : Option Addr) (n c : Nat) (w : World) (hn : n ≤ maxLen) (hc : n ≤ c) (h : BytesAt w A n) :
    Calls Tryd.prog 3 #[.slice A n c] w fun e w' => e = .returned (.bool true) ∧ Below w.heap.size w w' := by
  by_cases hbig : 1048576 < n
  · clear h
    unfold maxLen at hn
    go_enter Tryd.func3, Tryd.ntmps3
    go_wp2
    go_ret
    exact ⟨rfl, (Grows.refl _).below⟩
  · have HD := Lib.hid (DrawValidLayer_any A n c w hn hc h)
    clear h
    unfold maxLen at hn
    go_enter Tryd.func3, Tryd.ntmps3
    go_wp2_with fail
    refine (HD.out).mono ?_
    rintro e w1 ⟨v, K, rfl, ⟨hS, hK⟩, hO, g1⟩
    obtain ⟨A0, c0, rfl, hcap, hA⟩ := OwnE.formC hO
    have hf := hS.fit hK
    have HA := Lib.hid hA
    have HVI := Lib.hid (fun w2 (g : Grows w1 w2) => implLayer_any A0 c0 K w2 hf (hA.keep g))
    have HVS := Lib.hid (fun w2 (g : Grows w1 w2) => specVL_any A0 c0 K w2 hcap hf (hA.keep g))
    have HG1 := Lib.hid g1
    have hO' := Lib.hid hO
    have HFK := Lib.hid hf
    have HCI := Lib.hid (fun (s' k' : ByteArray) w2 (g : Grows w1 w2) => implCut_any A0 c0 K s' k' w2 hf (hA.keep g))
    have HCA := Lib.hid (fun (h : vlayer K = true) e (he : e ∈ K) => cut_at h he)
    unfold ResEB at HCI
    clear hS hO g1 hA hf HD hcap
    obtain ⟨m, hm⟩ : ∃ m, K.length = m := ⟨_, rfl⟩
    rw [hm] at HVI HVS hK hO' HCI ⊢
    have HM := Lib.hid hm
    clear hm
    obtain ⟨vb, hvb⟩ : ∃ vb, vlayer K = vb := ⟨_, rfl⟩
    rw [hvb] at HVI HVS HCA
    clear hvb
    have GW : Hid (Grows w1 w1) := Grows.refl _
    have X0 : Hid (Box (w1.alloc (.cells #[.slice A0 m c0] 25)) w1.heap.size (.slice A0 m c0) 25) := heap_alloc_new w1 _
    have hO'' := Lib.hid (hO'.out.keep ((Grows.refl w1).alloc (.cells #[.slice A0 m c0] 25)))
    clear hO'
    have hO' := hO''
    clear hO''
    have GA : Hid (Grows w1 (w1.alloc (.cells #[.slice A0 m c0] 25))) := GW.out.alloc _
    clear GW
    have GW := GA
    clear GA
    have cX0 := X0.out.cell
    go_wp2_with fail
    refine (HVI.out _ GW.out).mono ?_
    rintro e w2 ⟨rfl, g2⟩
    clear cX0
    have X0' := Lib.hid (X0.out.keep g2)
    clear X0
    have X0 := X0'
    clear X0'
    have hO'' := Lib.hid (hO'.out.keep g2)
    clear hO'
    have hO' := hO''
    clear hO''
    have GA : Hid (Grows w1 w2) := GW.out.trans g2
    clear GW
    have GW := GA
    clear GA
    clear g2
    have cX0 := X0.out.cell
    go_wp2_with fail
    refine (HVS.out _ GW.out).mono ?_
    rintro e w3 ⟨rfl, g3⟩
    clear cX0
    have X0' := Lib.hid (X0.out.keep g3)
    clear X0
    have X0 := X0'
    clear X0'
    have hO'' := Lib.hid (hO'.out.keep g3)
    clear hO'
    have hO' := hO''
    clear hO''
    have GA : Hid (Grows w1 w3) := GW.out.trans g3
    clear GW
    have GW := GA
    clear GA
    clear g3
    rcases vb with _ | _
    · have cX0 := X0.out.cell
      go_wp2_with fail
      refine (HVS.out _ GW.out).mono ?_
      rintro e w4 ⟨rfl, g4⟩
      clear cX0
      have X0' := Lib.hid (X0.out.keep g4)
      clear X0
      have X0 := X0'
      clear X0'
      have hO'' := Lib.hid (hO'.out.keep g4)
      clear hO'
      have hO' := hO''
      clear hO''
      have GA : Hid (Grows w1 w4) := GW.out.trans g4
      clear GW
      have GW := GA
      clear GA
      clear g4
      have cX0 := X0.out.cell
      go_wp2
      go_ret
      exact ⟨rfl, (HG1.out.trans GW.out).below⟩
    · have HC2 := Lib.hid (HCA.out rfl)
      clear HCA
      have GJ := Lib.hid GW.out
      have cX0 := X0.out.cell
      go_wp2_with fail
      clear cX0
      go_loopw [5] (fun i wr => ∃ k : Nat, k ≤ m ∧ i = .int .i64 k ∧ Hid (Grows w3 wr)) (fun i _ => m - (intOf i).toNat)
      case atStart => exact ⟨0, Nat.zero_le _, rfl, Grows.refl _⟩
      case round =>
        obtain ⟨k, hk, rfl, HG⟩ := hrel
        have GR : Hid (Grows w1 wr) := GJ.out.trans HG.out
        have XA := Lib.hid (X0.out.keep HG.out)
        have x0 := XA.out.cell
        by_cases hlt : k < m
        · have hk2 : k < K.length := by rw [HM.out]; exact hlt
          obtain ⟨bb, oo, rfl, hbb, hcc⟩ := HA.out (by omega)
          have hat := (hcc k hk2).keep hbb GR.out
          have hcu := HC2.out K[k] (List.getElem_mem hk2)
          obtain ⟨⟨es, ek, eo, ev⟩, hee⟩ : ∃ e, K[k] = e := ⟨_, rfl⟩
          rw [hee] at hat hcu
          obtain ⟨z0, z1, _, _⟩ := hat
          simp only at z0 z1 hcu
          obtain ⟨u1, u2, u3, u4⟩ := hcu
          have HCE := Lib.hid (fun w2 (g : Grows w1 w2) => HCI.out es ek w2 g)
          rw [u1] at HCE
          have HLV := Lib.hid (fun (B : Option Addr) (d : Nat) w2 (h : EntsAt w2 B (cutL K es ek)) => implLayer_any B d (cutL K es ek) w2 u4 h)
          rw [u2] at HLV
          rw [HM.out] at u3
          obtain ⟨CL, hCL⟩ : ∃ CL, cutL K es ek = CL := ⟨_, rfl⟩
          rw [hCL] at HCE HLV u3
          clear hCL hee hcc u1 u2 u4
          go_wp2_with fail
          go_cut [6, 7] (fun sW s0 wx => ∃ (bX : Nat) (v : Value), sW = .pointer (some ⟨bX, 0, none⟩) ∧ s0 = .bool true ∧ Hid (Box wx bX v 25) ∧ Hid (OwnE wx wr.heap.size v (CL)) ∧ Hid (wr.heap.size ≤ bX) ∧ Hid (Grows wr wx))
          case first =>
            refine wp_region_M 19 (CellsAre [(⟨w1.heap.size, 0, none⟩, (.slice (some ⟨bb, oo, none⟩) m c0)), (⟨bb, oo + k * 4, none⟩, (.string es)), (⟨bb, oo + k * 4 + 1, none⟩, (.string ek))]) (by kernel_rfl) (by kernel_rfl) ⟨x0, z0, z1, trivial⟩ (fun hB hS => ?_)
            refine wpAnyM_take (i := 0) (v := ?vta0) hB rfl (by kernel_rfl) (fun _ _ _ h => h) (by rfl) ?yta0 hS ?nta0
            case yta0 => (intro w9 hSw; obtain ⟨s1, s2, s3, _⟩ := hSw; go_simp; try with_reducible rfl)
            refine wpAnyM_take (i := 1) (v := ?vta1) hB rfl (by kernel_rfl) (fun _ _ _ h => h) (by rfl) ?yta1 hS ?nta1
            case yta1 => (intro w9 hSw; obtain ⟨s1, s2, s3, _⟩ := hSw; go_simp; try with_reducible rfl)
            refine wpAnyM_take (i := 2) (v := ?vta2) hB rfl (by kernel_rfl) (fun _ _ _ h => h) (by rfl) ?yta2 hS ?nta2
            case yta2 => (intro w9 hSw; obtain ⟨s1, s2, s3, _⟩ := hSw; go_simp; try with_reducible rfl)
            refine wpAnyM_take (i := 3) (v := ?vta3) hB rfl (by kernel_rfl) (fun _ _ _ h => h) (by rfl) ?yta3 hS ?nta3
            case yta3 => (intro w9 hSw; obtain ⟨s1, s2, s3, _⟩ := hSw; go_simp; try with_reducible rfl)
            refine wpAnyM_take (i := 4) (v := ?vta4) hB rfl (by kernel_rfl) (fun _ _ _ h => h) (by rfl) ?yta4 hS ?nta4
            case yta4 => (intro w9 hSw; obtain ⟨s1, s2, s3, _⟩ := hSw; go_simp; try with_reducible rfl)
            refine wpAnyM_take (i := 5) (v := ?vta5) hB rfl (by kernel_rfl) (fun _ _ _ h => h) (by rfl) ?yta5 hS ?nta5
            case yta5 => (intro w9 hSw; obtain ⟨s1, s2, s3, _⟩ := hSw; go_simp; try with_reducible rfl)
            refine wpAnyM_take (i := 6) (v := ?vta6) hB rfl (by kernel_rfl) (fun _ _ _ h => h) (by rfl) ?yta6 hS ?nta6
            case yta6 => (intro w9 hSw; obtain ⟨s1, s2, s3, _⟩ := hSw; go_simp; try with_reducible rfl)
            refine wpAnyM_take (i := 7) (v := ?vta7) hB rfl (by kernel_rfl) (fun _ _ _ h => h) (by rfl) ?yta7 hS ?nta7
            case yta7 => (intro w9 hSw; obtain ⟨s1, s2, s3, _⟩ := hSw; go_simp; try with_reducible rfl)
            refine wpAnyM_take (i := 8) (v := ?vta8) hB rfl (by kernel_rfl) (fun _ _ _ h => h) (by rfl) ?yta8 hS ?nta8
            case yta8 => (intro w9 hSw; obtain ⟨s1, s2, s3, _⟩ := hSw; go_simp; try with_reducible rfl)
            refine wpAnyM_take (i := 9) (v := ?vta9) hB rfl (by kernel_rfl) (fun _ _ _ h => h) (by rfl) ?yta9 hS ?nta9
            case yta9 => (intro w9 hSw; obtain ⟨s1, s2, s3, _⟩ := hSw; go_simp; try with_reducible rfl)
            refine wpAnyM_take (i := 10) (v := ?vta10) hB rfl (by kernel_rfl) (fun _ _ _ h => h) (by rfl) ?yta10 hS ?nta10
            case yta10 => (intro w9 hSw; obtain ⟨s1, s2, s3, _⟩ := hSw; go_simp; try with_reducible rfl)
            refine wpAnyM_take (i := 11) (v := ?vta11) hB rfl (by kernel_rfl) (fun _ _ _ h => h) (by rfl) ?yta11 hS ?nta11
            case yta11 => (intro w9 hSw; obtain ⟨s1, s2, s3, _⟩ := hSw; go_simp; try with_reducible rfl)
            refine wpAnyM_take (i := 12) (v := ?vta12) hB rfl (by kernel_rfl) (fun _ _ _ h => h) (by rfl) ?yta12 hS ?nta12
            case yta12 => (intro w9 hSw; obtain ⟨s1, s2, s3, _⟩ := hSw; go_simp; try with_reducible rfl)
            have HSB : Hid (CellsAre [(⟨w1.heap.size, 0, none⟩, (.slice (some ⟨bb, oo, none⟩) m c0)), (⟨bb, oo + k * 4, none⟩, (.string es)), (⟨bb, oo + k * 4 + 1, none⟩, (.string ek))] wr) := ⟨x0, z0, z1, trivial⟩
            have HS0 := Lib.hid hS
            clear hS
            have GG0 : Hid (Grows wr wr.drew) := (Grows.refl _).drew
            refine wpAnyM_two (i := 13) (j := 17) rfl rfl (by kernel_rfl) rfl rfl ?_ ?_
            · go_wp2_with fail
              refine (HCE.out _ (GR.out.trans GG0.out)).mono ?_
              rintro e y1W ⟨uu, rfl, huu, gg⟩
              obtain ⟨A7, n7, c7, hv7⟩ := OwnE.form3 huu
              subst hv7
              have H6 : Hid (OwnE y1W wr.heap.size (.slice A7 n7 c7) (CL)) := OwnE.less huu (by have h1 := GG0.out.size; first | omega | exact h1 | (simp only [World.size_alloc] at *; omega))
              clear huu
              have GG_1 : Hid (Grows wr y1W) := GG0.out.trans gg
              have HS_1 := Lib.hid (CellsAre.keep HS0.out gg)
              clear gg HS0 GG0
              go_wp2_with fail
              refine ⟨HS_1.out, ?_⟩
              have hS := HS_1.out
              refine wpAnyM_take (i := 14) (v := ?vtaz114) hB rfl (by kernel_rfl) (fun _ _ _ h => h) (by rfl) ?ytaz114 hS ?ntaz114
              case ytaz114 => (intro w9 hSw; obtain ⟨s1, s2, s3, _⟩ := hSw; go_simp; try with_reducible rfl)
              refine wpAnyM_take (i := 15) (v := ?vtaz115) hB rfl (by kernel_rfl) (fun _ _ _ h => h) (by rfl) ?ytaz115 hS ?ntaz115
              case ytaz115 => (intro w9 hSw; obtain ⟨s1, s2, s3, _⟩ := hSw; go_simp; try with_reducible rfl)
              refine wpAnyM_take (i := 16) (v := ?vtaz116) hB rfl (by kernel_rfl) (fun _ _ _ h => h) (by rfl) ?ytaz116 hS ?ntaz116
              case ytaz116 => (intro w9 hSw; obtain ⟨s1, s2, s3, _⟩ := hSw; go_simp; try with_reducible rfl)
              clear hS
              refine wpAnyM_one (i := 17) rfl (by kernel_rfl) rfl ?_
              go_wp2_with fail
              have HZZ : Hid (Box (y1W.alloc (.cells #[.slice none 0 0] 25)) y1W.heap.size (.slice none 0 0) 25) := Box.new _ _ _
              have H6o := H6
              have H6z := Lib.hid (H6.out.keep ((Grows.refl _).alloc (.cells #[.slice none 0 0] 25)))
              clear H6
              have H6 := H6z
              clear H6z
              have GGo := GG_1
              have GG_2 : Hid (Grows wr (y1W.alloc (.cells #[.slice none 0 0] 25))) := GG_1.out.alloc _
              have HS_2 := Lib.hid (CellsAre.keep HS_1.out ((Grows.refl _).alloc (.cells #[.slice none 0 0] 25)))
              have NZZ : Hid (wr.heap.size ≤ y1W.heap.size) := GG_1.out.size
              clear HS_1 GG_1
              refine ⟨HS_2.out, ?_⟩
              refine wpAnyM_one (i := 18) rfl (by kernel_rfl) rfl ?_
              have cZZ := HZZ.out.cell
              have fZZ := HZZ.out.free
              have lZZ := HZZ.out.lt
              go_wp2_with fail
              refine ⟨by first | exact CellsAre.keep HSB.out (GG_2.out.setCell NZZ.out _) | exact CellsAre.keep HSB.out (GGo.out.alloc _), ?_⟩
              refine wpAnyM_tail (by kernel_rfl) ?_
              clear hB HS_2 cZZ fZZ lZZ
              go_wp2_with fail
              go_meet
              first | exact ⟨_, _, rfl, rfl, HZZ.out.set_ _, H6.out.setFar (apartBox H6.out HZZ.out) _, NZZ.out, GG_2.out.setCell NZZ.out _⟩ | exact ⟨_, _, rfl, rfl, Box.new _ _ _, H6o.out.keep ((Grows.refl _).alloc _), NZZ.out, GGo.out.alloc _⟩
            · go_wp2_with fail
              have HZZ : Hid (Box (wr.drew.alloc (.cells #[.slice none 0 0] 25)) wr.heap.size (.slice none 0 0) 25) := Box.new _ _ _
              have GG_3 : Hid (Grows wr (wr.drew.alloc (.cells #[.slice none 0 0] 25))) := GG0.out.alloc _
              have HS_3 := Lib.hid (CellsAre.keep HS0.out ((Grows.refl _).alloc (.cells #[.slice none 0 0] 25)))
              have NZZ : Hid (wr.heap.size ≤ wr.heap.size) := GG0.out.size
              clear HS0 GG0
              refine ⟨HS_3.out, ?_⟩
              refine wpAnyM_one (i := 13) rfl (by kernel_rfl) rfl ?_
              go_wp2_with fail
              refine (HCE.out _ (GR.out.trans GG_3.out)).mono ?_
              rintro e y4W ⟨uu, rfl, huu, gg⟩
              obtain ⟨A7, n7, c7, hv7⟩ := OwnE.form3 huu
              subst hv7
              have H6 : Hid (OwnE y4W wr.heap.size (.slice A7 n7 c7) (CL)) := OwnE.less huu (by have h1 := GG_3.out.size; first | omega | exact h1 | (simp only [World.size_alloc] at *; omega))
              clear huu
              have HZZz := Lib.hid (HZZ.out.keep gg)
              clear HZZ
              have HZZ := HZZz
              clear HZZz
              have GG_4 : Hid (Grows wr y4W) := GG_3.out.trans gg
              have HS_4 := Lib.hid (CellsAre.keep HS_3.out gg)
              clear gg HS_3 GG_3
              go_wp2_with fail
              refine ⟨HS_4.out, ?_⟩
              have hS := HS_4.out
              refine wpAnyM_take (i := 14) (v := ?vtaz414) hB rfl (by kernel_rfl) (fun _ _ _ h => h) (by rfl) ?ytaz414 hS ?ntaz414
              case ytaz414 => (intro w9 hSw; obtain ⟨s1, s2, s3, _⟩ := hSw; go_simp; try with_reducible rfl)
              refine wpAnyM_take (i := 15) (v := ?vtaz415) hB rfl (by kernel_rfl) (fun _ _ _ h => h) (by rfl) ?ytaz415 hS ?ntaz415
              case ytaz415 => (intro w9 hSw; obtain ⟨s1, s2, s3, _⟩ := hSw; go_simp; try with_reducible rfl)
              refine wpAnyM_take (i := 16) (v := ?vtaz416) hB rfl (by kernel_rfl) (fun _ _ _ h => h) (by rfl) ?ytaz416 hS ?ntaz416
              case ytaz416 => (intro w9 hSw; obtain ⟨s1, s2, s3, _⟩ := hSw; go_simp; try with_reducible rfl)
              clear hS
              refine wpAnyM_one (i := 18) rfl (by kernel_rfl) rfl ?_
              have cZZ := HZZ.out.cell
              have fZZ := HZZ.out.free
              have lZZ := HZZ.out.lt
              go_wp2_with fail
              refine ⟨by first | exact CellsAre.keep HSB.out (GG_4.out.setCell NZZ.out _), ?_⟩
              refine wpAnyM_tail (by kernel_rfl) ?_
              clear hB HS_4 cZZ fZZ lZZ
              go_wp2_with fail
              go_meet
              exact ⟨_, _, rfl, rfl, HZZ.out.set_ _, H6.out.setFar (apartBox H6.out HZZ.out) _, NZZ.out, GG_4.out.setCell NZZ.out _⟩
          case rest =>
            clear x0 z0 z1
            obtain ⟨wd, hwd⟩ : ∃ x, x = wc := ⟨_, rfl⟩
            subst hwd
            obtain ⟨bX, vX, rfl, rfl, HBX, HOX, HNX, HGX⟩ := hcut
            obtain ⟨Ac, cc, hvc, hEc⟩ := OwnE.form HOX.out
            have hl9 : CL.length + 1 = m := u3
            obtain ⟨q, hq⟩ : ∃ q, CL.length = q := ⟨_, rfl⟩
            rw [hq] at hvc HLV hl9
            subst hvc
            have HEc := Lib.hid hEc
            clear hEc hq u3
            have cX0 := (XA.out.keep HGX.out).cell
            have cBX := HBX.out.cell
            go_wp2_with fail
            refine (HLV.out _ _ _ HEc.out).mono ?_
            rintro e wz ⟨rfl, gz⟩
            have HGZ : Hid (Grows wr wz) := HGX.out.trans gz
            clear cX0 cBX
            have cX0 := (XA.out.keep HGZ.out).cell
            have cBX := (HBX.out.keep gz).cell
            clear gz
            have hwr : IntKind.i64.wrap ((m : Int) - 1) = (q : Int) := by rw [IntWalk.i64_in _ (by omega)]; omega
            have hq1 : (m : Int) - 1 = (q : Int) := by omega
            go_wp2
            go_roundw
            case rel => exact ⟨k + 1, by omega, by go_num, HG.out.trans HGZ.out⟩
            case measure => simp [intOf]; omega
        · obtain rfl : k = m := by omega
          go_wp2
          go_ret
          exact ⟨rfl, (HG1.out.trans GR.out).below⟩
end Go.Proofs.YtgjineoiebokhaaDoor
