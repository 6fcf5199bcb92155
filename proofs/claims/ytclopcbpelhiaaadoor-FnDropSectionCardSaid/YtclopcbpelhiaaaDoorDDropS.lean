/-
  The drawn law of DropSection: whatever its bytes, it returns true. Condition: no more bytes than a slice may have.
-/
import Derived.Test.YtclopcbpelhiaaaDoorDWhere
import Derived.Test.YtclopcbpelhiaaaDoorDropX
import Derived.Test.YtclopcbpelhiaaaDoorDropS
import Derived.Test.YtclopcbpelhiaaaDoorLay
import Derived.Test.YtclopcbpelhiaaaDoorKeep
import Derived.Test.YtclopcbpelhiaaaDoorApartB
namespace Go.Proofs.YtclopcbpelhiaaaDoor
open Go.RowKit

set_option maxRecDepth 100000 in
set_option maxHeartbeats 4000000 in
theorem dDropS_any (A : Option Addr) (n c : Nat) (w : World) (hn : n ≤ maxLen) (hc : n ≤ c) (h : BytesAt w A n) :
    Calls Tryd.prog 4 #[.slice A n c] w fun e w' => e = .returned (.bool true) ∧ Below w.heap.size w w' := by
  by_cases hbig : 1048576 < n
  · clear h
    unfold maxLen at hn
    go_enter Tryd.func4, Tryd.ntmps4
    go_wp2
    go_ret
    exact ⟨rfl, (Grows.refl _).below⟩
  · have HD := Lib.hid (DrawDropSection_any A n c w hn hc h)
    clear h
    unfold maxLen at hn
    go_enter Tryd.func4, Tryd.ntmps4
    go_wp2_with fail
    refine (HD.out).mono ?_
    rintro e w1 ⟨v, K, s, rfl, ⟨hS, hK⟩, hO, hs, g1⟩
    obtain ⟨A0, c0, rfl, hA⟩ := hO.form
    have hf := hS.fit hK
    have HA := Lib.hid hA
    have HDI := Lib.hid (fun w2 (g : Grows w1 w2) => implDropSec_any A0 c0 K s w2 hf (hA.keep g))
    have HDS := Lib.hid (fun w2 (g : Grows w1 w2) => specDropSec_any A0 c0 K s w2 hf (hA.keep g))
    have HLF := Lib.hid (fun w2 (g : Grows w1 w2) => implLay_any A0 c0 K w2 hf (hA.keep g))
    have HSF := Lib.hid (fun w2 (g : Grows w1 w2) => implSecs_any A0 c0 K w2 hf (hA.keep g))
    have HG1 := Lib.hid g1
    have HT0 := Lib.hid (fun hb : dropSB K s = true => dropST_of hf hb)
    have hrl : (dropSL K s).length ≤ 1048576 := dropSL_le K s hf.1
    have hsl : (secsOf' K).length ≤ 20 := secs_20 K
    have hO' := Lib.hid hO
    unfold ResLB at HDI HDS
    unfold ResE at HLF
    unfold StrsRet at HSF
    clear hS hO g1 hA hf HD
    obtain ⟨m, hm⟩ : ∃ m, K.length = m := ⟨_, rfl⟩
    rw [hm] at HDI HDS HLF HSF hK hO' ⊢
    have HM := Lib.hid hm
    clear hm
    obtain ⟨R, hR⟩ : ∃ R, dropSL K s = R := ⟨_, rfl⟩
    obtain ⟨rb, hrb⟩ : ∃ rb, dropSB K s = rb := ⟨_, rfl⟩
    have HT : Hid (rb = true → DropST K s R) := fun h => by rw [← hR]; exact HT0.out (hrb.trans h)
    rw [hR, hrb] at HDI HDS
    rw [hR] at hrl
    clear hR hrb HT0 hs
    have GW : Hid (Grows w1 w1) := Grows.refl _
    have X0 : Hid (Box (w1.alloc (.cells #[.slice A0 m c0] 25)) w1.heap.size (.slice A0 m c0) 25) := heap_alloc_new w1 _
    have hO'' := Lib.hid (hO'.out.keep ((Grows.refl w1).alloc (.cells #[.slice A0 m c0] 25)))
    clear hO'
    have hO' := hO''
    clear hO''
    have GA : Hid (Grows w1 (w1.alloc (.cells #[.slice A0 m c0] 25))) := GW.out.alloc _
    clear GW
    have GW := GA
    clear GA
    have cX0 := X0.out.cell
    go_wp2_with fail
    refine (HDI.out _ GW.out).mono ?_
    rintro e w2 ⟨u2, rfl, hu2, g2⟩
    clear cX0
    have X0' := Lib.hid (X0.out.keep g2)
    clear X0
    have X0 := X0'
    clear X0'
    have hO'' := Lib.hid (hO'.out.keep g2)
    clear hO'
    have hO' := hO''
    clear hO''
    have GA : Hid (Grows w1 w2) := GW.out.trans g2
    clear GW
    have GW := GA
    clear GA
    clear g2
    have U2 := Lib.hid hu2
    clear hu2
    obtain ⟨A2, c2, hu2, _⟩ := U2.out.form
    subst hu2
    have X2 : Hid (Box (w2.alloc (.cells #[.slice A2 R.length c2] 25)) w2.heap.size (.slice A2 R.length c2) 25) := heap_alloc_new w2 _
    have X0' := Lib.hid (X0.out.keep ((Grows.refl w2).alloc (.cells #[.slice A2 R.length c2] 25)))
    clear X0
    have X0 := X0'
    clear X0'
    have hO'' := Lib.hid (hO'.out.keep ((Grows.refl w2).alloc (.cells #[.slice A2 R.length c2] 25)))
    clear hO'
    have hO' := hO''
    clear hO''
    have U2' := Lib.hid (U2.out.keep ((Grows.refl w2).alloc (.cells #[.slice A2 R.length c2] 25)))
    clear U2
    have U2 := U2'
    clear U2'
    have GA : Hid (Grows w1 (w2.alloc (.cells #[.slice A2 R.length c2] 25))) := GW.out.alloc _
    clear GW
    have GW := GA
    clear GA
    have cX0 := X0.out.cell
    have cX2 := X2.out.cell
    go_wp2_with fail
    refine (HDS.out _ GW.out).mono ?_
    rintro e w3 ⟨u3, rfl, hu3, g3⟩
    clear cX0 cX2
    have X0' := Lib.hid (X0.out.keep g3)
    clear X0
    have X0 := X0'
    clear X0'
    have X2' := Lib.hid (X2.out.keep g3)
    clear X2
    have X2 := X2'
    clear X2'
    have hO'' := Lib.hid (hO'.out.keep g3)
    clear hO'
    have hO' := hO''
    clear hO''
    have U2' := Lib.hid (U2.out.keep g3)
    clear U2
    have U2 := U2'
    clear U2'
    have GA : Hid (Grows w1 w3) := GW.out.trans g3
    clear GW
    have GW := GA
    clear GA
    clear g3
    have U3 := Lib.hid hu3
    clear hu3
    obtain ⟨A3, c3, hu3, _⟩ := U3.out.form
    subst hu3
    have X3 : Hid (Box (w3.alloc (.cells #[.slice A3 R.length c3] 25)) w3.heap.size (.slice A3 R.length c3) 25) := heap_alloc_new w3 _
    have X0' := Lib.hid (X0.out.keep ((Grows.refl w3).alloc (.cells #[.slice A3 R.length c3] 25)))
    clear X0
    have X0 := X0'
    clear X0'
    have X2' := Lib.hid (X2.out.keep ((Grows.refl w3).alloc (.cells #[.slice A3 R.length c3] 25)))
    clear X2
    have X2 := X2'
    clear X2'
    have hO'' := Lib.hid (hO'.out.keep ((Grows.refl w3).alloc (.cells #[.slice A3 R.length c3] 25)))
    clear hO'
    have hO' := hO''
    clear hO''
    have U2' := Lib.hid (U2.out.keep ((Grows.refl w3).alloc (.cells #[.slice A3 R.length c3] 25)))
    clear U2
    have U2 := U2'
    clear U2'
    have U3' := Lib.hid (U3.out.keep ((Grows.refl w3).alloc (.cells #[.slice A3 R.length c3] 25)))
    clear U3
    have U3 := U3'
    clear U3'
    have GA : Hid (Grows w1 (w3.alloc (.cells #[.slice A3 R.length c3] 25))) := GW.out.alloc _
    clear GW
    have GW := GA
    clear GA
    have cX0 := X0.out.cell
    have cX2 := X2.out.cell
    have cX3 := X3.out.cell
    go_wp2_with fail
    refine (equalFile_own _ _ _ _ R _ hrl U2.out U3.out).mono ?_
    rintro e w4 ⟨rfl, g4⟩
    clear cX0 cX2 cX3
    have X0' := Lib.hid (X0.out.keep g4)
    clear X0
    have X0 := X0'
    clear X0'
    have X2' := Lib.hid (X2.out.keep g4)
    clear X2
    have X2 := X2'
    clear X2'
    have X3' := Lib.hid (X3.out.keep g4)
    clear X3
    have X3 := X3'
    clear X3'
    have hO'' := Lib.hid (hO'.out.keep g4)
    clear hO'
    have hO' := hO''
    clear hO''
    have U2' := Lib.hid (U2.out.keep g4)
    clear U2
    have U2 := U2'
    clear U2'
    have U3' := Lib.hid (U3.out.keep g4)
    clear U3
    have U3 := U3'
    clear U3'
    have GA : Hid (Grows w1 w4) := GW.out.trans g4
    clear GW
    have GW := GA
    clear GA
    clear g4
    rcases rb with _ | _
    · have cX0 := X0.out.cell
      have cX2 := X2.out.cell
      have cX3 := X3.out.cell
      go_wp2_with fail
      refine (equalFile_own _ _ _ _ R _ hrl U2.out U3.out).mono ?_
      rintro e w5 ⟨rfl, g5⟩
      clear cX0 cX2 cX3
      have X0' := Lib.hid (X0.out.keep g5)
      clear X0
      have X0 := X0'
      clear X0'
      have X2' := Lib.hid (X2.out.keep g5)
      clear X2
      have X2 := X2'
      clear X2'
      have X3' := Lib.hid (X3.out.keep g5)
      clear X3
      have X3 := X3'
      clear X3'
      have hO'' := Lib.hid (hO'.out.keep g5)
      clear hO'
      have hO' := hO''
      clear hO''
      have U2' := Lib.hid (U2.out.keep g5)
      clear U2
      have U2 := U2'
      clear U2'
      have U3' := Lib.hid (U3.out.keep g5)
      clear U3
      have U3 := U3'
      clear U3'
      have GA : Hid (Grows w1 w5) := GW.out.trans g5
      clear GW
      have GW := GA
      clear GA
      clear g5
      have cX0 := X0.out.cell
      have cX2 := X2.out.cell
      have cX3 := X3.out.cell
      go_wp2
      go_ret
      exact ⟨rfl, (HG1.out.trans GW.out).below⟩
    · have HK := Lib.hid (HT.out rfl)
      have HSR := Lib.hid (fun w2 (h : LnsAt w2 A2 R) => implSecs_any A2 c2 R w2 HK.out.fits h)
      unfold StrsRet at HSR
      have HLR := Lib.hid (fun w2 (h : LnsAt w2 A2 R) => implLay_any A2 c2 R w2 HK.out.fits h)
      unfold ResE at HLR
      have HPK := Lib.hid (fun (x : ByteArray) (B : Option Addr) (d : Nat) w2 (h : EntsAt w2 B (layOf K)) => implSecOf_any B d (layOf K) x w2 HK.out.layK h)
      unfold ResE at HPK
      have HPR := Lib.hid (fun (x : ByteArray) (B : Option Addr) (d : Nat) w2 (h : EntsAt w2 B (layOf R)) => implSecOf_any B d (layOf R) x w2 HK.out.layR h)
      unfold ResE at HPR
      have HSM := Lib.hid (fun (x : ByteArray) (hx : x ≠ s) (B : Option Addr) (d : Nat) (C : Option Addr) (e : Nat) w2 (h : EntsAt w2 B (keepE (layOf K) (ofSec x))) (h2 : EntsAt w2 C (keepE (layOf R) (ofSec x))) => HK.out.part x hx ▸ implSame_any B d (keepE (layOf K) (ofSec x)) C e (keepE (layOf R) (ofSec x)) w2 (HK.out.fitK x) h (HK.out.fitR x) h2)
      have HNO := Lib.hid HK.out.none
      have HHT := Lib.hid HK.out.secs
      clear HK HT
      obtain ⟨PK, hPK⟩ : ∃ PK : ByteArray → List Ent, (fun x => keepE (layOf K) (ofSec x)) = PK := ⟨_, rfl⟩
      obtain ⟨PR, hPR⟩ : ∃ PR : ByteArray → List Ent, (fun x => keepE (layOf R) (ofSec x)) = PR := ⟨_, rfl⟩
      have eK : ∀ x, keepE (layOf K) (ofSec x) = PK x := fun x => by rw [← hPK]
      have eR : ∀ x, keepE (layOf R) (ofSec x) = PR x := fun x => by rw [← hPR]
      simp only [eK] at HPK HSM
      simp only [eR] at HPR HSM HNO
      clear eK eR hPK hPR
      obtain ⟨LK, hLK⟩ : ∃ LK, layOf K = LK := ⟨_, rfl⟩
      rw [hLK] at HLF HPK
      clear hLK
      obtain ⟨LR, hLR⟩ : ∃ LR, layOf R = LR := ⟨_, rfl⟩
      rw [hLR] at HLR HPR
      clear hLR
      obtain ⟨ss, hss⟩ : ∃ ss, secsOf' K = ss := ⟨_, rfl⟩
      rw [hss] at HSF hsl
      clear hss
      obtain ⟨rs, hrs⟩ : ∃ rs, secsOf' R = rs := ⟨_, rfl⟩
      rw [hrs] at HSR HHT
      have hrsl : rs.length ≤ 1048576 := by rw [← hrs]; have := secs_20 R; omega
      clear hrs
      have cX0 := X0.out.cell
      have cX2 := X2.out.cell
      have cX3 := X3.out.cell
      go_wp2_with fail
      refine (HSF.out _ GW.out).mono ?_
      rintro e w5 ⟨sv, rfl, hsv, g5⟩
      clear cX0 cX2 cX3
      have X0' := Lib.hid (X0.out.keep g5)
      clear X0
      have X0 := X0'
      clear X0'
      have X2' := Lib.hid (X2.out.keep g5)
      clear X2
      have X2 := X2'
      clear X2'
      have X3' := Lib.hid (X3.out.keep g5)
      clear X3
      have X3 := X3'
      clear X3'
      have hO'' := Lib.hid (hO'.out.keep g5)
      clear hO'
      have hO' := hO''
      clear hO''
      have U2' := Lib.hid (U2.out.keep g5)
      clear U2
      have U2 := U2'
      clear U2'
      have U3' := Lib.hid (U3.out.keep g5)
      clear U3
      have U3 := U3'
      clear U3'
      have GA : Hid (Grows w1 w5) := GW.out.trans g5
      clear GW
      have GW := GA
      clear GA
      clear g5
      have SV := Lib.hid hsv
      clear hsv
      obtain ⟨A5, c5, hv5, _⟩ := SV.out.vals
      subst hv5
      obtain ⟨q, hq⟩ : ∃ q, ss.length = q := ⟨_, rfl⟩
      have HQ := Lib.hid hq
      rw [hq] at SV hsl ⊢
      clear hq
      have GJ := Lib.hid GW.out
      go_wp2_with fail
      go_loopw [10] (fun i wr => ∃ k : Nat, k ≤ q ∧ i = .int .i64 k ∧ Hid (Grows w5 wr)) (fun i _ => q - (intOf i).toNat)
      case atStart => exact ⟨0, Nat.zero_le _, rfl, Grows.refl _⟩
      case round =>
        obtain ⟨k, hk, rfl, HG⟩ := hrel
        have GR : Hid (Grows w1 wr) := GJ.out.trans HG.out
        have XA := Lib.hid (X0.out.keep HG.out)
        have XB := Lib.hid (X2.out.keep HG.out)
        by_cases hlt : k < q
        · have hk2 : k < ss.length := by rw [HQ.out]; exact hlt
          have SV9 := SV.out.keep HG.out
          rw [← HQ.out] at SV9
          obtain ⟨A9, c9, he9, hV9⟩ := SV9.vals
          injection he9 with he1 he2 he3
          subst he1
          obtain ⟨bb, oo, rfl, hbb, hcc⟩ := hV9 (by rw [strs_length]; omega)
          have hat := hcc k (by rw [strs_length]; omega)
          have hix : (strs' ss)[k]'(by rw [strs_length]; omega) = Value.string ss[k] := by simp [strs']
          rw [hix] at hat
          obtain ⟨x, hx⟩ : ∃ x, ss[k] = x := ⟨_, rfl⟩
          rw [hx] at hat
          have HAT := Lib.hid (fun w' (g : Grows wr w') => (g.cell (p := ⟨bb, oo + k, none⟩) hbb).trans hat)
          clear hx hix hcc hV9 he2 he3 SV9
          have x0 := XA.out.cell
          have y0 : wr.cell? ⟨w1.heap.size, 0, none⟩ = some (.slice A0 m c0) ∧ wr.cell? ⟨bb, oo + k, none⟩ = some (.string x) := ⟨x0, hat⟩
          clear x0 hat
          go_wp2_with fail
          go_cut [11] (fun sW wx => ∃ (bX : Nat) (v : Value), sW = .pointer (some ⟨bX, 0, none⟩) ∧ Hid (Box wx bX v 35) ∧ Hid (OwnE wx wr.heap.size v (PK x)) ∧ Hid (wr.heap.size ≤ bX) ∧ Hid (Grows wr wx))
          case first =>
            refine wp_region_M 8 (CellsAre [(⟨w1.heap.size, 0, none⟩, (.slice A0 m c0)), (⟨bb, oo + k, none⟩, (.string x))]) (by kernel_rfl) (by kernel_rfl) ⟨y0.1, y0.2, trivial⟩ (fun hB hS => ?_)
            refine wpAnyM_take (i := 0) (v := ?vta0) hB rfl (by kernel_rfl) (fun _ _ _ h => h) (by rfl) ?yta0 hS ?nta0
            case yta0 => (intro w9 hSw; obtain ⟨s1, s2, _⟩ := hSw; go_simp; try with_reducible rfl)
            refine wpAnyM_take (i := 2) (v := ?vta2) hB rfl (by kernel_rfl) (fun _ _ _ h => h) (by rfl) ?yta2 hS ?nta2
            case yta2 => (intro w9 hSw; obtain ⟨s1, s2, _⟩ := hSw; go_simp; try with_reducible rfl)
            refine wpAnyM_take (i := 3) (v := ?vta3) hB rfl (by kernel_rfl) (fun _ _ _ h => h) (by rfl) ?yta3 hS ?nta3
            case yta3 => (intro w9 hSw; obtain ⟨s1, s2, _⟩ := hSw; go_simp; try with_reducible rfl)
            refine wpAnyM_take (i := 4) (v := ?vta4) hB rfl (by kernel_rfl) (fun _ _ _ h => h) (by rfl) ?yta4 hS ?nta4
            case yta4 => (intro w9 hSw; obtain ⟨s1, s2, _⟩ := hSw; go_simp; try with_reducible rfl)
            refine wpAnyM_take (i := 5) (v := ?vta5) hB rfl (by kernel_rfl) (fun _ _ _ h => h) (by rfl) ?yta5 hS ?nta5
            case yta5 => (intro w9 hSw; obtain ⟨s1, s2, _⟩ := hSw; go_simp; try with_reducible rfl)
            have HS0 := Lib.hid hS
            clear hS
            have GG0 : Hid (Grows wr wr.drew) := (Grows.refl _).drew
            refine wpAnyM_two (i := 1) (j := 7) rfl rfl (by kernel_rfl) rfl rfl ?_ ?_
            · go_wp2_with fail
              refine (HLF.out _ (GR.out.trans GG0.out)).mono ?_
              rintro e y1W ⟨uu, rfl, huu, gg⟩
              obtain ⟨A9, c9, hv9, hE9⟩ := OwnE.form huu
              subst hv9
              have H1 := Lib.hid hE9
              clear hE9 huu
              have GG_1 : Hid (Grows wr y1W) := GG0.out.trans gg
              have HS_1 := Lib.hid (CellsAre.keep HS0.out gg)
              clear gg HS0 GG0
              go_wp2_with fail
              refine ⟨HS_1.out, ?_⟩
              refine wpAnyM_two (i := 6) (j := 7) rfl rfl (by kernel_rfl) rfl rfl ?_ ?_
              · go_wp2_with fail
                refine (HPK.out x A9 c9 _ H1.out).mono ?_
                rintro e y2W ⟨uu, rfl, huu, gg⟩
                clear H1
                obtain ⟨A7, n7, c7, hv7⟩ := OwnE.form3 huu
                subst hv7
                have H6 : Hid (OwnE y2W wr.heap.size (.slice A7 n7 c7) (PK x)) := OwnE.less huu (by have h1 := GG_1.out.size; first | omega | exact h1 | (simp only [World.size_alloc] at *; omega))
                clear huu
                have GG_2 : Hid (Grows wr y2W) := GG_1.out.trans gg
                have HS_2 := Lib.hid (CellsAre.keep HS_1.out gg)
                clear gg HS_1 GG_1
                go_wp2_with fail
                refine ⟨HS_2.out, ?_⟩
                refine wpAnyM_one (i := 7) rfl (by kernel_rfl) rfl ?_
                go_wp2_with fail
                have HZZ : Hid (Box (y2W.alloc (.cells #[.slice none 0 0] 35)) y2W.heap.size (.slice none 0 0) 35) := Box.new _ _ _
                have H6o := H6
                have H6z := Lib.hid (H6.out.keep ((Grows.refl _).alloc (.cells #[.slice none 0 0] 35)))
                clear H6
                have H6 := H6z
                clear H6z
                have GGo := GG_2
                have GG_3 : Hid (Grows wr (y2W.alloc (.cells #[.slice none 0 0] 35))) := GG_2.out.alloc _
                have HS_3 := Lib.hid (CellsAre.keep HS_2.out ((Grows.refl _).alloc (.cells #[.slice none 0 0] 35)))
                have NZZ : Hid (wr.heap.size ≤ y2W.heap.size) := GG_2.out.size
                clear HS_2 GG_2
                refine ⟨HS_3.out, ?_⟩
                refine wpAnyM_tail (by kernel_rfl) ?_
                clear hB HS_3
                have cZZ := HZZ.out.cell
                have fZZ := HZZ.out.free
                have lZZ := HZZ.out.lt
                go_wp2_with fail
                go_meet
                exact ⟨_, _, rfl, Box.new _ _ _, H6o.out.keep ((Grows.refl _).alloc _), NZZ.out, GGo.out.alloc _⟩
              · go_wp2_with fail
                have HZZ : Hid (Box (y1W.alloc (.cells #[.slice none 0 0] 35)) y1W.heap.size (.slice none 0 0) 35) := Box.new _ _ _
                have H1z := Lib.hid (H1.out.keep ((Grows.refl _).alloc (.cells #[.slice none 0 0] 35)))
                clear H1
                have H1 := H1z
                clear H1z
                have GG_4 : Hid (Grows wr (y1W.alloc (.cells #[.slice none 0 0] 35))) := GG_1.out.alloc _
                have HS_4 := Lib.hid (CellsAre.keep HS_1.out ((Grows.refl _).alloc (.cells #[.slice none 0 0] 35)))
                have NZZ : Hid (wr.heap.size ≤ y1W.heap.size) := GG_1.out.size
                clear HS_1 GG_1
                refine ⟨HS_4.out, ?_⟩
                refine wpAnyM_one (i := 6) rfl (by kernel_rfl) rfl ?_
                go_wp2_with fail
                refine (HPK.out x A9 c9 _ H1.out).mono ?_
                rintro e y5W ⟨uu, rfl, huu, gg⟩
                clear H1
                obtain ⟨A7, n7, c7, hv7⟩ := OwnE.form3 huu
                subst hv7
                have H6 : Hid (OwnE y5W wr.heap.size (.slice A7 n7 c7) (PK x)) := OwnE.less huu (by have h1 := GG_4.out.size; first | omega | exact h1 | (simp only [World.size_alloc] at *; omega))
                clear huu
                have HZZz := Lib.hid (HZZ.out.keep gg)
                clear HZZ
                have HZZ := HZZz
                clear HZZz
                have GG_5 : Hid (Grows wr y5W) := GG_4.out.trans gg
                have HS_5 := Lib.hid (CellsAre.keep HS_4.out gg)
                clear gg HS_4 GG_4
                go_wp2_with fail
                refine ⟨HS_5.out, ?_⟩
                refine wpAnyM_tail (by kernel_rfl) ?_
                clear hB HS_5
                have cZZ := HZZ.out.cell
                have fZZ := HZZ.out.free
                have lZZ := HZZ.out.lt
                go_wp2_with fail
                go_meet
                exact ⟨_, _, rfl, HZZ.out.set_ _, H6.out.setFar (apartBox H6.out HZZ.out) _, NZZ.out, GG_5.out.setCell NZZ.out _⟩
            · go_wp2_with fail
              have HZZ : Hid (Box (wr.drew.alloc (.cells #[.slice none 0 0] 35)) wr.heap.size (.slice none 0 0) 35) := Box.new _ _ _
              have GG_6 : Hid (Grows wr (wr.drew.alloc (.cells #[.slice none 0 0] 35))) := GG0.out.alloc _
              have HS_6 := Lib.hid (CellsAre.keep HS0.out ((Grows.refl _).alloc (.cells #[.slice none 0 0] 35)))
              have NZZ : Hid (wr.heap.size ≤ wr.heap.size) := GG0.out.size
              clear HS0 GG0
              refine ⟨HS_6.out, ?_⟩
              refine wpAnyM_one (i := 1) rfl (by kernel_rfl) rfl ?_
              go_wp2_with fail
              refine (HLF.out _ (GR.out.trans GG_6.out)).mono ?_
              rintro e y7W ⟨uu, rfl, huu, gg⟩
              obtain ⟨A9, c9, hv9, hE9⟩ := OwnE.form huu
              subst hv9
              have H1 := Lib.hid hE9
              clear hE9 huu
              have HZZz := Lib.hid (HZZ.out.keep gg)
              clear HZZ
              have HZZ := HZZz
              clear HZZz
              have GG_7 : Hid (Grows wr y7W) := GG_6.out.trans gg
              have HS_7 := Lib.hid (CellsAre.keep HS_6.out gg)
              clear gg HS_6 GG_6
              go_wp2_with fail
              refine ⟨HS_7.out, ?_⟩
              refine wpAnyM_one (i := 6) rfl (by kernel_rfl) rfl ?_
              go_wp2_with fail
              refine (HPK.out x A9 c9 _ H1.out).mono ?_
              rintro e y8W ⟨uu, rfl, huu, gg⟩
              clear H1
              obtain ⟨A7, n7, c7, hv7⟩ := OwnE.form3 huu
              subst hv7
              have H6 : Hid (OwnE y8W wr.heap.size (.slice A7 n7 c7) (PK x)) := OwnE.less huu (by have h1 := GG_7.out.size; first | omega | exact h1 | (simp only [World.size_alloc] at *; omega))
              clear huu
              have HZZz := Lib.hid (HZZ.out.keep gg)
              clear HZZ
              have HZZ := HZZz
              clear HZZz
              have GG_8 : Hid (Grows wr y8W) := GG_7.out.trans gg
              have HS_8 := Lib.hid (CellsAre.keep HS_7.out gg)
              clear gg HS_7 GG_7
              go_wp2_with fail
              refine ⟨HS_8.out, ?_⟩
              refine wpAnyM_tail (by kernel_rfl) ?_
              clear hB HS_8
              have cZZ := HZZ.out.cell
              have fZZ := HZZ.out.free
              have lZZ := HZZ.out.lt
              go_wp2_with fail
              go_meet
              exact ⟨_, _, rfl, HZZ.out.set_ _, H6.out.setFar (apartBox H6.out HZZ.out) _, NZZ.out, GG_8.out.setCell NZZ.out _⟩
          case rest =>
            obtain ⟨wa, hwa⟩ : ∃ x, x = wc := ⟨_, rfl⟩
            subst hwa
            obtain ⟨bX, vX, rfl, HBX, HOX, HNX, HGX⟩ := hcut
            obtain ⟨Aa, ca, hva, hEa⟩ := OwnE.form HOX.out
            subst hva
            have HEa := Lib.hid hEa
            clear hEa y0
            have y1 : wa.cell? ⟨w2.heap.size, 0, none⟩ = some (.slice A2 R.length c2) ∧ wa.cell? ⟨bb, oo + k, none⟩ = some (.string x) := ⟨(XB.out.keep HGX.out).cell, HAT.out _ HGX.out⟩
            go_wp2_with fail
            go_cut [12] (fun sW wx => ∃ (bX : Nat) (v : Value), sW = .pointer (some ⟨bX, 0, none⟩) ∧ Hid (Box wx bX v 35) ∧ Hid (OwnE wx wa.heap.size v (PR x)) ∧ Hid (wa.heap.size ≤ bX) ∧ Hid (Grows wa wx))
            case first =>
              refine wp_region_M 8 (CellsAre [(⟨w2.heap.size, 0, none⟩, (.slice A2 R.length c2)), (⟨bb, oo + k, none⟩, (.string x))]) (by kernel_rfl) (by kernel_rfl) ⟨y1.1, y1.2, trivial⟩ (fun hB hS => ?_)
              refine wpAnyM_take (i := 0) (v := ?vtb0) hB rfl (by kernel_rfl) (fun _ _ _ h => h) (by rfl) ?ytb0 hS ?ntb0
              case ytb0 => (intro w9 hSw; obtain ⟨s1, s2, _⟩ := hSw; go_simp; try with_reducible rfl)
              refine wpAnyM_take (i := 2) (v := ?vtb2) hB rfl (by kernel_rfl) (fun _ _ _ h => h) (by rfl) ?ytb2 hS ?ntb2
              case ytb2 => (intro w9 hSw; obtain ⟨s1, s2, _⟩ := hSw; go_simp; try with_reducible rfl)
              refine wpAnyM_take (i := 3) (v := ?vtb3) hB rfl (by kernel_rfl) (fun _ _ _ h => h) (by rfl) ?ytb3 hS ?ntb3
              case ytb3 => (intro w9 hSw; obtain ⟨s1, s2, _⟩ := hSw; go_simp; try with_reducible rfl)
              refine wpAnyM_take (i := 4) (v := ?vtb4) hB rfl (by kernel_rfl) (fun _ _ _ h => h) (by rfl) ?ytb4 hS ?ntb4
              case ytb4 => (intro w9 hSw; obtain ⟨s1, s2, _⟩ := hSw; go_simp; try with_reducible rfl)
              refine wpAnyM_take (i := 5) (v := ?vtb5) hB rfl (by kernel_rfl) (fun _ _ _ h => h) (by rfl) ?ytb5 hS ?ntb5
              case ytb5 => (intro w9 hSw; obtain ⟨s1, s2, _⟩ := hSw; go_simp; try with_reducible rfl)
              have HS0 := Lib.hid hS
              clear hS
              have GG0 : Hid (Grows wa wa.drew) := (Grows.refl _).drew
              refine wpAnyM_two (i := 1) (j := 7) rfl rfl (by kernel_rfl) rfl rfl ?_ ?_
              · go_wp2_with fail
                refine (HLR.out _ (U2.out.keep (HG.out.trans (HGX.out.trans GG0.out))).at).mono ?_
                rintro e y101W ⟨uu, rfl, huu, gg⟩
                obtain ⟨A9, c9, hv9, hE9⟩ := OwnE.form huu
                subst hv9
                have H1 := Lib.hid hE9
                clear hE9 huu
                have GG_101 : Hid (Grows wa y101W) := GG0.out.trans gg
                have HS_101 := Lib.hid (CellsAre.keep HS0.out gg)
                clear gg HS0 GG0
                go_wp2_with fail
                refine ⟨HS_101.out, ?_⟩
                refine wpAnyM_two (i := 6) (j := 7) rfl rfl (by kernel_rfl) rfl rfl ?_ ?_
                · go_wp2_with fail
                  refine (HPR.out x A9 c9 _ H1.out).mono ?_
                  rintro e y102W ⟨uu, rfl, huu, gg⟩
                  clear H1
                  obtain ⟨A7, n7, c7, hv7⟩ := OwnE.form3 huu
                  subst hv7
                  have H6 : Hid (OwnE y102W wa.heap.size (.slice A7 n7 c7) (PR x)) := OwnE.less huu (by have h1 := GG_101.out.size; first | omega | exact h1 | (simp only [World.size_alloc] at *; omega))
                  clear huu
                  have GG_102 : Hid (Grows wa y102W) := GG_101.out.trans gg
                  have HS_102 := Lib.hid (CellsAre.keep HS_101.out gg)
                  clear gg HS_101 GG_101
                  go_wp2_with fail
                  refine ⟨HS_102.out, ?_⟩
                  refine wpAnyM_one (i := 7) rfl (by kernel_rfl) rfl ?_
                  go_wp2_with fail
                  have HZZ : Hid (Box (y102W.alloc (.cells #[.slice none 0 0] 35)) y102W.heap.size (.slice none 0 0) 35) := Box.new _ _ _
                  have H6o := H6
                  have H6z := Lib.hid (H6.out.keep ((Grows.refl _).alloc (.cells #[.slice none 0 0] 35)))
                  clear H6
                  have H6 := H6z
                  clear H6z
                  have GGo := GG_102
                  have GG_103 : Hid (Grows wa (y102W.alloc (.cells #[.slice none 0 0] 35))) := GG_102.out.alloc _
                  have HS_103 := Lib.hid (CellsAre.keep HS_102.out ((Grows.refl _).alloc (.cells #[.slice none 0 0] 35)))
                  have NZZ : Hid (wa.heap.size ≤ y102W.heap.size) := GG_102.out.size
                  clear HS_102 GG_102
                  refine ⟨HS_103.out, ?_⟩
                  refine wpAnyM_tail (by kernel_rfl) ?_
                  clear hB HS_103
                  have cZZ := HZZ.out.cell
                  have fZZ := HZZ.out.free
                  have lZZ := HZZ.out.lt
                  go_wp2_with fail
                  go_meet
                  exact ⟨_, _, rfl, Box.new _ _ _, H6o.out.keep ((Grows.refl _).alloc _), NZZ.out, GGo.out.alloc _⟩
                · go_wp2_with fail
                  have HZZ : Hid (Box (y101W.alloc (.cells #[.slice none 0 0] 35)) y101W.heap.size (.slice none 0 0) 35) := Box.new _ _ _
                  have H1z := Lib.hid (H1.out.keep ((Grows.refl _).alloc (.cells #[.slice none 0 0] 35)))
                  clear H1
                  have H1 := H1z
                  clear H1z
                  have GG_104 : Hid (Grows wa (y101W.alloc (.cells #[.slice none 0 0] 35))) := GG_101.out.alloc _
                  have HS_104 := Lib.hid (CellsAre.keep HS_101.out ((Grows.refl _).alloc (.cells #[.slice none 0 0] 35)))
                  have NZZ : Hid (wa.heap.size ≤ y101W.heap.size) := GG_101.out.size
                  clear HS_101 GG_101
                  refine ⟨HS_104.out, ?_⟩
                  refine wpAnyM_one (i := 6) rfl (by kernel_rfl) rfl ?_
                  go_wp2_with fail
                  refine (HPR.out x A9 c9 _ H1.out).mono ?_
                  rintro e y105W ⟨uu, rfl, huu, gg⟩
                  clear H1
                  obtain ⟨A7, n7, c7, hv7⟩ := OwnE.form3 huu
                  subst hv7
                  have H6 : Hid (OwnE y105W wa.heap.size (.slice A7 n7 c7) (PR x)) := OwnE.less huu (by have h1 := GG_104.out.size; first | omega | exact h1 | (simp only [World.size_alloc] at *; omega))
                  clear huu
                  have HZZz := Lib.hid (HZZ.out.keep gg)
                  clear HZZ
                  have HZZ := HZZz
                  clear HZZz
                  have GG_105 : Hid (Grows wa y105W) := GG_104.out.trans gg
                  have HS_105 := Lib.hid (CellsAre.keep HS_104.out gg)
                  clear gg HS_104 GG_104
                  go_wp2_with fail
                  refine ⟨HS_105.out, ?_⟩
                  refine wpAnyM_tail (by kernel_rfl) ?_
                  clear hB HS_105
                  have cZZ := HZZ.out.cell
                  have fZZ := HZZ.out.free
                  have lZZ := HZZ.out.lt
                  go_wp2_with fail
                  go_meet
                  exact ⟨_, _, rfl, HZZ.out.set_ _, H6.out.setFar (apartBox H6.out HZZ.out) _, NZZ.out, GG_105.out.setCell NZZ.out _⟩
              · go_wp2_with fail
                have HZZ : Hid (Box (wa.drew.alloc (.cells #[.slice none 0 0] 35)) wa.heap.size (.slice none 0 0) 35) := Box.new _ _ _
                have GG_106 : Hid (Grows wa (wa.drew.alloc (.cells #[.slice none 0 0] 35))) := GG0.out.alloc _
                have HS_106 := Lib.hid (CellsAre.keep HS0.out ((Grows.refl _).alloc (.cells #[.slice none 0 0] 35)))
                have NZZ : Hid (wa.heap.size ≤ wa.heap.size) := GG0.out.size
                clear HS0 GG0
                refine ⟨HS_106.out, ?_⟩
                refine wpAnyM_one (i := 1) rfl (by kernel_rfl) rfl ?_
                go_wp2_with fail
                refine (HLR.out _ (U2.out.keep (HG.out.trans (HGX.out.trans GG_106.out))).at).mono ?_
                rintro e y107W ⟨uu, rfl, huu, gg⟩
                obtain ⟨A9, c9, hv9, hE9⟩ := OwnE.form huu
                subst hv9
                have H1 := Lib.hid hE9
                clear hE9 huu
                have HZZz := Lib.hid (HZZ.out.keep gg)
                clear HZZ
                have HZZ := HZZz
                clear HZZz
                have GG_107 : Hid (Grows wa y107W) := GG_106.out.trans gg
                have HS_107 := Lib.hid (CellsAre.keep HS_106.out gg)
                clear gg HS_106 GG_106
                go_wp2_with fail
                refine ⟨HS_107.out, ?_⟩
                refine wpAnyM_one (i := 6) rfl (by kernel_rfl) rfl ?_
                go_wp2_with fail
                refine (HPR.out x A9 c9 _ H1.out).mono ?_
                rintro e y108W ⟨uu, rfl, huu, gg⟩
                clear H1
                obtain ⟨A7, n7, c7, hv7⟩ := OwnE.form3 huu
                subst hv7
                have H6 : Hid (OwnE y108W wa.heap.size (.slice A7 n7 c7) (PR x)) := OwnE.less huu (by have h1 := GG_107.out.size; first | omega | exact h1 | (simp only [World.size_alloc] at *; omega))
                clear huu
                have HZZz := Lib.hid (HZZ.out.keep gg)
                clear HZZ
                have HZZ := HZZz
                clear HZZz
                have GG_108 : Hid (Grows wa y108W) := GG_107.out.trans gg
                have HS_108 := Lib.hid (CellsAre.keep HS_107.out gg)
                clear gg HS_107 GG_107
                go_wp2_with fail
                refine ⟨HS_108.out, ?_⟩
                refine wpAnyM_tail (by kernel_rfl) ?_
                clear hB HS_108
                have cZZ := HZZ.out.cell
                have fZZ := HZZ.out.free
                have lZZ := HZZ.out.lt
                go_wp2_with fail
                go_meet
                exact ⟨_, _, rfl, HZZ.out.set_ _, H6.out.setFar (apartBox H6.out HZZ.out) _, NZZ.out, GG_108.out.setCell NZZ.out _⟩
            case rest =>
              obtain ⟨wd, hwd⟩ : ∃ x, x = wc := ⟨_, rfl⟩
              subst hwd
              obtain ⟨bY, vY, rfl, HBY, HOY, HNY, HGY⟩ := hcut
              have HGD : Hid (Grows wr wd) := HGX.out.trans HGY.out
              have HBXd := Lib.hid (HBX.out.keep HGY.out)
              have HEad := Lib.hid (HEa.out.keep HGY.out)
              have r1 := HAT.out _ HGD.out
              clear y1 HBX HEa HOX HGX
              by_cases hxs : x = s
              · have HNO2 : Hid (PR x = []) := by rw [hxs]; exact HNO.out
                rw [HNO2.out] at HOY
                obtain ⟨Ab, cb, hvb, _⟩ := OwnE.form HOY.out
                have hl0 : ([] : List Ent).length = 0 := rfl
                rw [hl0] at hvb
                subst hvb
                have hb1 : (x.toList == s.toList) = true := by rw [hxs]; simp
                have c3 := HBXd.out.cell
                have c4 := HBY.out.cell
                clear hl0
                go_wp2
                go_roundw
                case rel => exact ⟨k + 1, by omega, by go_num, HG.out.trans HGD.out⟩
                case measure => simp [intOf]; omega
              · have hb1 : (x.toList == s.toList) = false := by rw [beq_eq_false_iff_ne]; exact fun h => hxs (toList_inj h)
                obtain ⟨Ab, cb, hvb, hEb⟩ := OwnE.form HOY.out
                subst hvb
                have HEb := Lib.hid hEb
                clear hEb
                have c3 := HBXd.out.cell
                have c4 := HBY.out.cell
                go_wp2_with fail
                refine (HSM.out x hxs Aa ca Ab cb _ HEad.out HEb.out).mono ?_
                rintro e wz ⟨rfl, gz⟩
                have HGZ : Hid (Grows wr wz) := HGD.out.trans gz
                clear gz
                go_wp2
                go_roundw
                case rel => exact ⟨k + 1, by omega, by go_num, HG.out.trans HGZ.out⟩
                case measure => simp [intOf]; omega
        · obtain rfl : k = q := by omega
          have cXB := XB.out.cell
          go_wp2_with fail
          refine (HSR.out _ (U2.out.keep HG.out).at).mono ?_
          rintro e wz ⟨rv, rfl, hrv, gz⟩
          go_wp2_with fail
          refine (hasTextL_any _ _ rs s _ hrsl hrv).mono ?_
          rintro e wz' ⟨rfl, rfl⟩
          rw [HHT.out]
          go_wp2
          go_ret
          exact ⟨rfl, (HG1.out.trans (GR.out.trans gz)).below⟩
end Go.Proofs.YtclopcbpelhiaaaDoor
