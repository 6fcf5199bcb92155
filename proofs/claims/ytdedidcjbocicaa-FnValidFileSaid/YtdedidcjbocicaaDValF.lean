/-
  The drawn law of ValidFile: whatever its bytes, it returns true. Condition: no more bytes than a slice may have.
-/
import Derived.Test.YtdedidcjbocicaaDWhere
import Derived.Test.YtdedidcjbocicaaTidyQ
import Derived.Test.YtdedidcjbocicaaTidy
import Derived.Deep.RegionHeld3
namespace Go.Proofs.Ytdedidcjbocicaa
open Go.RowKit

theorem lns_take {w : World} {A : Option Addr} {ls : List Ln} (h : LnsAt w A ls) (k : Nat) : LnsAt w A (ls.take k) := fun h0 => by
  have h1 : 0 < ls.length := by rw [List.length_take] at h0; omega
  obtain ⟨b, o, e, hb, hc⟩ := h h1
  refine ⟨b, o, e, hb, fun i hi => ?_⟩
  have hi2 : i < ls.length := by rw [List.length_take] at hi; omega
  rw [List.getElem_take]
  exact hc i hi2

set_option maxRecDepth 100000 in
set_option maxHeartbeats 4000000 in
theorem dValF_any (A : Option Addr) (n c : Nat) (w : World) (hn : n ≤ maxLen) (hc : n ≤ c) (h : BytesAt w A n) :
    Calls Try.prog 3 #[.slice A n c] w fun e w' => e = .returned (.bool true) ∧ Below w.heap.size w w' := by
  by_cases hbig : 1048576 < n
  · clear h
    unfold maxLen at hn
    go_enter Try.func3, Try.ntmps3
    go_wp2
    go_ret
    exact ⟨rfl, (Grows.refl _).below⟩
  · have HD := Lib.hid (DrawValidFile_any A n c w hn hc h)
    clear h
    unfold maxLen at hn
    go_enter Try.func3, Try.ntmps3
    go_wp2_with fail
    refine (HD.out).mono ?_
    rintro e w1 ⟨v, K, rfl, ⟨hS, hK⟩, hO, g1⟩
    obtain ⟨A0, c0, rfl, hA⟩ := hO.form
    have hf := hS.fit hK
    have HA := Lib.hid hA
    have HVI := Lib.hid (fun w2 (g : Grows w1 w2) => implFile_any A0 c0 K w2 hf (hA.keep g))
    have HVS := Lib.hid (fun w2 (g : Grows w1 w2) => specValidFile_any A0 c0 K w2 hf (hA.keep g))
    have HTI := Lib.hid (fun w2 (g : Grows w1 w2) => implTidy_any A0 c0 K w2 hf (hA.keep g))
    have HG1 := Lib.hid g1
    have hfk := Lib.hid hf
    have hO' := Lib.hid hO
    unfold ResL at HTI
    clear hS hO g1 hA hf HD
    obtain ⟨m, hm⟩ : ∃ m, K.length = m := ⟨_, rfl⟩
    rw [hm] at HVI HVS HTI hK hO' ⊢
    have HM := Lib.hid hm
    clear hm
    have GW : Hid (Grows w1 w1) := Grows.refl _
    have X0 : Hid (Box (w1.alloc (.cells #[.slice A0 m c0] 25)) w1.heap.size (.slice A0 m c0) 25) := heap_alloc_new w1 _
    have hO'' := Lib.hid (hO'.out.keep ((Grows.refl w1).alloc (.cells #[.slice A0 m c0] 25)))
    clear hO'
    have hO' := hO''
    clear hO''
    have GA : Hid (Grows w1 (w1.alloc (.cells #[.slice A0 m c0] 25))) := GW.out.alloc _
    clear GW
    have GW := GA
    clear GA
    have cX0 := X0.out.cell
    go_wp2_with fail
    refine (HVI.out _ GW.out).mono ?_
    rintro e w2 ⟨rfl, g2⟩
    clear cX0
    have X0' := Lib.hid (X0.out.keep g2)
    clear X0
    have X0 := X0'
    clear X0'
    have hO'' := Lib.hid (hO'.out.keep g2)
    clear hO'
    have hO' := hO''
    clear hO''
    have GA : Hid (Grows w1 w2) := GW.out.trans g2
    clear GW
    have GW := GA
    clear GA
    clear g2
    have cX0 := X0.out.cell
    go_wp2_with fail
    refine (HVS.out _ GW.out).mono ?_
    rintro e w3 ⟨rfl, g3⟩
    clear cX0
    have X0' := Lib.hid (X0.out.keep g3)
    clear X0
    have X0 := X0'
    clear X0'
    have hO'' := Lib.hid (hO'.out.keep g3)
    clear hO'
    have hO' := hO''
    clear hO''
    have GA : Hid (Grows w1 w3) := GW.out.trans g3
    clear GW
    have GW := GA
    clear GA
    clear g3
    by_cases hv : vfile K = true
    · have HV := Lib.hid hv
      rw [hv]
      rw [hv] at HVI HVS
      clear hv
      have HTV := Lib.hid (fun (v : Value) (bs : Nat) w2 (h : OwnL w2 bs v (tidyOf K)) => (OwnL.form h))
      have HFT := Lib.hid (tidy_fits HV.out)
      have HTVv := Lib.hid (tidy_valid HV.out)
      have cX0 := X0.out.cell
      go_wp2_with fail
      refine (HTI.out _ GW.out).mono ?_
      rintro e w4 ⟨u2, rfl, hu2, g4⟩
      clear cX0
      have X0' := Lib.hid (X0.out.keep g4)
      clear X0
      have X0 := X0'
      clear X0'
      have hO'' := Lib.hid (hO'.out.keep g4)
      clear hO'
      have hO' := hO''
      clear hO''
      have GA : Hid (Grows w1 w4) := GW.out.trans g4
      clear GW
      have GW := GA
      clear GA
      clear g4
      have U2 := Lib.hid hu2
      clear hu2
      obtain ⟨A2, c2, hu2, _⟩ := U2.out.form
      subst hu2
      have HV2 := Lib.hid (fun w2 (h : LnsAt w2 A2 (tidyOf K)) => implFile_any A2 c2 (tidyOf K) w2 HFT.out h)
      rw [HTVv.out] at HV2
      have cX0 := X0.out.cell
      go_wp2_with fail
      refine (HV2.out _ U2.out.at).mono ?_
      rintro e w5 ⟨rfl, g5⟩
      clear cX0
      have X0' := Lib.hid (X0.out.keep g5)
      clear X0
      have X0 := X0'
      clear X0'
      have hO'' := Lib.hid (hO'.out.keep g5)
      clear hO'
      have hO' := hO''
      clear hO''
      have U2' := Lib.hid (U2.out.keep g5)
      clear U2
      have U2 := U2'
      clear U2'
      have GA : Hid (Grows w1 w5) := GW.out.trans g5
      clear GW
      have GW := GA
      clear GA
      clear g5
      rcases Nat.eq_zero_or_pos m with hm0 | hm0
      · subst hm0
        have cX0 := X0.out.cell
        go_wp2
        go_ret
        exact ⟨rfl, (HG1.out.trans GW.out).below⟩
      · have hlt : (K.take (m - 1)).length = m - 1 := by rw [List.length_take, HM.out]; omega
        have HVL := Lib.hid (fun w2 (g : Grows w1 w2) => implFile_any A0 c0 (K.take (m - 1)) w2 (fits_take hfk.out _) (lns_take (HA.out.keep g) _))
        rw [hlt, vfile_take HV.out] at HVL
        obtain ⟨q, hq⟩ : ∃ q, m = q + 1 := ⟨m - 1, by omega⟩
        have hq1 : m - 1 = q := by omega
        rw [hq1] at HVL
        have hcm : m ≤ c0 := by
          rcases hO'.out.2 with ⟨h2, _⟩ | ⟨g, cap, cur, h2, _, _, h3, _⟩
          · injection h2 with _ h4 h5; omega
          · injection h2 with _ h4 h5; have := HM.out; omega
        subst hq
        clear hlt hq1
        have hqc : q ≤ c0 := by omega
        have hqw : IntKind.i64.wrap ((q : Int) + 1 - 1) = (q : Int) := by rw [show (q : Int) + 1 - 1 = (q : Int) from by omega]; exact IntWalk.i64_in _ (by omega)
        have cX0 := X0.out.cell
        go_wp2_with fail
        refine (HVL.out _ GW.out).mono ?_
        rintro e w6 ⟨rfl, g6⟩
        clear cX0
        have X0' := Lib.hid (X0.out.keep g6)
        clear X0
        have X0 := X0'
        clear X0'
        have hO'' := Lib.hid (hO'.out.keep g6)
        clear hO'
        have hO' := hO''
        clear hO''
        have U2' := Lib.hid (U2.out.keep g6)
        clear U2
        have U2 := U2'
        clear U2'
        have GA : Hid (Grows w1 w6) := GW.out.trans g6
        clear GW
        have GW := GA
        clear GA
        clear g6
        have cX0 := X0.out.cell
        go_wp2
        go_ret
        exact ⟨rfl, (HG1.out.trans GW.out).below⟩
    · have hv' : vfile K = false := by simpa using hv
      rw [hv']
      rw [hv'] at HVI HVS
      clear hv hv'
      have cX0 := X0.out.cell
      go_wp2_with fail
      refine (HVS.out _ GW.out).mono ?_
      rintro e w4 ⟨rfl, g4⟩
      clear cX0
      have X0' := Lib.hid (X0.out.keep g4)
      clear X0
      have X0 := X0'
      clear X0'
      have hO'' := Lib.hid (hO'.out.keep g4)
      clear hO'
      have hO' := hO''
      clear hO''
      have GA : Hid (Grows w1 w4) := GW.out.trans g4
      clear GW
      have GW := GA
      clear GA
      clear g4
      have cX0 := X0.out.cell
      go_wp2
      go_ret
      exact ⟨rfl, (HG1.out.trans GW.out).below⟩
end Go.Proofs.Ytdedidcjbocicaa
