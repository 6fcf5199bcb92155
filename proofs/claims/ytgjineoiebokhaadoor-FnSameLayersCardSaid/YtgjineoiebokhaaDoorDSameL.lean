/-
  The drawn law of SameLayers: whatever its bytes, it returns true. Condition: no more bytes than a slice may have.
-/
import Derived.Test.YtgjineoiebokhaaDoorDrwM
import Derived.Test.YtgjineoiebokhaaDoorLawH
import Derived.Test.YtgjineoiebokhaaDoorSameT
import Derived.Test.YtgjineoiebokhaaDoorSameL
import Derived.Test.YtgjineoiebokhaaDoorDWhere
namespace Go.Proofs.YtgjineoiebokhaaDoor
open Go.RowKit

set_option maxRecDepth 100000 in
set_option maxHeartbeats 4000000 in
theorem dSame_any (A : Option Addr) (n c : Nat) (w : World) (hn : n ≤ maxLen) (hc : n ≤ c) (h : BytesAt w A n) :
    Calls Tryd.prog 6 #[.slice A n c] w fun e w' => e = .returned (.bool true) ∧ Below w.heap.size w w' := by
  by_cases hbig : 1048576 < n
  · clear h
    unfold maxLen at hn
    go_enter Tryd.func6, Tryd.ntmps6
    go_wp2
    go_ret
    exact ⟨rfl, (Grows.refl _).below⟩
  · have HD := Lib.hid (DrawSameLayers_any A n c w hn hc h)
    clear h
    unfold maxLen at hn
    go_enter Tryd.func6, Tryd.ntmps6
    go_wp2_with fail
    refine (HD.out).mono ?_
    rintro e w1 ⟨v, K, u, L, rfl, ⟨hS, hK⟩, ⟨hT, hL⟩, hO, hP, g1⟩
    obtain ⟨A0, c0, rfl, hcap, hA⟩ := OwnE.formC hO
    obtain ⟨B0, d0, rfl, hcap2, hB⟩ := OwnE.formC hP
    have hf := hS.fit hK
    have hg := hT.fit hL
    have HSI := Lib.hid (fun w2 (g : Grows w1 w2) => implSame_any A0 c0 K B0 d0 L w2 hf (hA.keep g) hg (hB.keep g))
    have HSS := Lib.hid (fun w2 (g : Grows w1 w2) => specSame_any A0 c0 K B0 d0 L w2 hcap hcap2 hf (hA.keep g) hg (hB.keep g))
    have HVA := Lib.hid (fun w2 (g : Grows w1 w2) => implLayer_any A0 c0 K w2 hf (hA.keep g))
    have HVB := Lib.hid (fun w2 (g : Grows w1 w2) => implLayer_any B0 d0 L w2 hg (hB.keep g))
    have HCO := Lib.hid (fun w2 (g : Grows w1 w2) => implCom_any A0 c0 K B0 d0 L w2 hf (hA.keep g) hg (hB.keep g))
    have HSF := Lib.hid (fun w2 (g : Grows w1 w2) => implSame_any B0 d0 L A0 c0 K w2 hg (hB.keep g) hf (hA.keep g))
    have HFL := Lib.hid (fun (h1 : vlayer K = true) (h2 : vlayer L = true) => sameL_flip h1 h2)
    have HLN := Lib.hid (fun (h1 : vlayer K = true) (h2 : vlayer L = true) => sameL_lens h1 h2)
    have hcl : (comE K L).length ≤ 101 := Nat.le_trans (comE_le K L) hK
    unfold ResE at HCO
    have HG1 := Lib.hid g1
    clear hS hT hO hP g1 hA hB hf hg HD hcap hcap2
    obtain ⟨m, hm⟩ : ∃ m, K.length = m := ⟨_, rfl⟩
    obtain ⟨l, hl⟩ : ∃ l, L.length = l := ⟨_, rfl⟩
    rw [hm, hl] at HSI HSS HCO HSF
    rw [hm] at HVA HLN hK
    rw [hl] at HVB HLN hL
    rw [hm, hl]
    clear hm hl
    obtain ⟨so, hso⟩ : ∃ so, sameL K L = so := ⟨_, rfl⟩
    rw [hso] at HSI HSS HFL HLN
    clear hso
    obtain ⟨CL, hCL⟩ : ∃ CL, comE K L = CL := ⟨_, rfl⟩
    rw [hCL] at HCO HLN hcl
    clear hCL
    obtain ⟨va, hva⟩ : ∃ va, vlayer K = va := ⟨_, rfl⟩
    obtain ⟨vb, hvb⟩ : ∃ vb, vlayer L = vb := ⟨_, rfl⟩
    rw [hva] at HVA HFL HLN
    rw [hvb] at HVB HFL HLN
    clear hva hvb
    go_upto_region 4 with (fail)
    have X0 : Hid (Box ((w1.alloc (.cells #[.slice A0 m c0] 25)).alloc (.cells #[.slice B0 l d0] 25)) w1.heap.size (.slice A0 m c0) 25) := row_grow (heap_alloc_new w1 _) ((Grows.refl _).alloc _)
    have X1 : Hid (Box ((w1.alloc (.cells #[.slice A0 m c0] 25)).alloc (.cells #[.slice B0 l d0] 25)) (w1.heap.size + 1) (.slice B0 l d0) 25) := alloc_new2 w1 _ _
    have GW : Hid (Grows w1 ((w1.alloc (.cells #[.slice A0 m c0] 25)).alloc (.cells #[.slice B0 l d0] 25))) := ((Grows.refl _).alloc _).alloc _
    obtain ⟨w2, hw2⟩ : ∃ w2, (w1.alloc (.cells #[.slice A0 m c0] 25)).alloc (.cells #[.slice B0 l d0] 25) = w2 := ⟨_, rfl⟩
    rw [hw2] at X0 X1 GW ⊢
    clear hw2
    have cX0 := X0.out.cell
    have cX1 := X1.out.cell
    go_wp2_with fail
    refine (HSI.out _ GW.out).mono ?_
    rintro e w3 ⟨rfl, g3⟩
    clear cX0 cX1
    have X0' := Lib.hid (X0.out.keep g3)
    clear X0
    have X0 := X0'
    clear X0'
    have X1' := Lib.hid (X1.out.keep g3)
    clear X1
    have X1 := X1'
    clear X1'
    have GA : Hid (Grows w1 w3) := GW.out.trans g3
    clear GW
    have GW := GA
    clear GA
    clear g3
    have cX0 := X0.out.cell
    have cX1 := X1.out.cell
    go_wp2_with fail
    refine (HSS.out _ GW.out).mono ?_
    rintro e w4 ⟨rfl, g4⟩
    clear cX0 cX1
    have X0' := Lib.hid (X0.out.keep g4)
    clear X0
    have X0 := X0'
    clear X0'
    have X1' := Lib.hid (X1.out.keep g4)
    clear X1
    have X1 := X1'
    clear X1'
    have GA : Hid (Grows w1 w4) := GW.out.trans g4
    clear GW
    have GW := GA
    clear GA
    clear g4
    have cX0 := X0.out.cell
    have cX1 := X1.out.cell
    go_wp2_with fail
    refine (HVA.out _ GW.out).mono ?_
    rintro e w5 ⟨rfl, g5⟩
    clear cX0 cX1
    have X0' := Lib.hid (X0.out.keep g5)
    clear X0
    have X0 := X0'
    clear X0'
    have X1' := Lib.hid (X1.out.keep g5)
    clear X1
    have X1 := X1'
    clear X1'
    have GA : Hid (Grows w1 w5) := GW.out.trans g5
    clear GW
    have GW := GA
    clear GA
    clear g5
    rcases va with _ | _
    · have cX0 := X0.out.cell
      have cX1 := X1.out.cell
      go_wp2_with fail
      refine (HSS.out _ GW.out).mono ?_
      rintro e w6 ⟨rfl, g6⟩
      clear cX0 cX1
      have X0' := Lib.hid (X0.out.keep g6)
      clear X0
      have X0 := X0'
      clear X0'
      have X1' := Lib.hid (X1.out.keep g6)
      clear X1
      have X1 := X1'
      clear X1'
      have GA : Hid (Grows w1 w6) := GW.out.trans g6
      clear GW
      have GW := GA
      clear GA
      clear g6
      have cX0 := X0.out.cell
      have cX1 := X1.out.cell
      go_wp2
      go_ret
      exact ⟨rfl, (HG1.out.trans GW.out).below⟩
    · have cX0 := X0.out.cell
      have cX1 := X1.out.cell
      go_wp2_with fail
      refine (HVB.out _ GW.out).mono ?_
      rintro e w6 ⟨rfl, g6⟩
      clear cX0 cX1
      have X0' := Lib.hid (X0.out.keep g6)
      clear X0
      have X0 := X0'
      clear X0'
      have X1' := Lib.hid (X1.out.keep g6)
      clear X1
      have X1 := X1'
      clear X1'
      have GA : Hid (Grows w1 w6) := GW.out.trans g6
      clear GW
      have GW := GA
      clear GA
      clear g6
      rcases vb with _ | _
      · have cX0 := X0.out.cell
        have cX1 := X1.out.cell
        go_wp2_with fail
        refine (HSS.out _ GW.out).mono ?_
        rintro e w7 ⟨rfl, g7⟩
        clear cX0 cX1
        have X0' := Lib.hid (X0.out.keep g7)
        clear X0
        have X0 := X0'
        clear X0'
        have X1' := Lib.hid (X1.out.keep g7)
        clear X1
        have X1 := X1'
        clear X1'
        have GA : Hid (Grows w1 w7) := GW.out.trans g7
        clear GW
        have GW := GA
        clear GA
        clear g7
        have cX0 := X0.out.cell
        have cX1 := X1.out.cell
        go_wp2
        go_ret
        exact ⟨rfl, (HG1.out.trans GW.out).below⟩
      · have hfl := HFL.out (by first | rfl | trivial) (by first | rfl | trivial)
        have hln := HLN.out (by first | rfl | trivial) (by first | rfl | trivial)
        rw [hfl] at HSF
        clear HFL HLN hfl
        have cX0 := X0.out.cell
        have cX1 := X1.out.cell
        go_wp2_with fail
        refine (HCO.out _ GW.out).mono ?_
        rintro e w7 ⟨u7, rfl, hu7, g7⟩
        clear cX0 cX1
        have X0' := Lib.hid (X0.out.keep g7)
        clear X0
        have X0 := X0'
        clear X0'
        have X1' := Lib.hid (X1.out.keep g7)
        clear X1
        have X1 := X1'
        clear X1'
        have GA : Hid (Grows w1 w7) := GW.out.trans g7
        clear GW
        have GW := GA
        clear GA
        clear g7
        obtain ⟨A7, c7, hv7, _⟩ := OwnE.form hu7
        subst hv7
        clear hu7
        obtain ⟨q, hq⟩ : ∃ q, CL.length = q := ⟨_, rfl⟩
        rw [hq] at hln hcl ⊢
        clear hq
        have X7 : Hid (Box (w7.alloc (.cells #[.slice A7 q c7] 25)) w7.heap.size (.slice A7 q c7) 25) := heap_alloc_new w7 _
        have X0' := Lib.hid (X0.out.keep ((Grows.refl w7).alloc (.cells #[.slice A7 q c7] 25)))
        clear X0
        have X0 := X0'
        clear X0'
        have X1' := Lib.hid (X1.out.keep ((Grows.refl w7).alloc (.cells #[.slice A7 q c7] 25)))
        clear X1
        have X1 := X1'
        clear X1'
        have GA : Hid (Grows w1 (w7.alloc (.cells #[.slice A7 q c7] 25))) := GW.out.alloc _
        clear GW
        have GW := GA
        clear GA
        have cX0 := X0.out.cell
        have cX1 := X1.out.cell
        have cX7 := X7.out.cell
        go_wp2_with fail
        refine (HSF.out _ GW.out).mono ?_
        rintro e w8 ⟨rfl, g8⟩
        clear cX0 cX1 cX7
        have X0' := Lib.hid (X0.out.keep g8)
        clear X0
        have X0 := X0'
        clear X0'
        have X1' := Lib.hid (X1.out.keep g8)
        clear X1
        have X1 := X1'
        clear X1'
        have X7' := Lib.hid (X7.out.keep g8)
        clear X7
        have X7 := X7'
        clear X7'
        have GA : Hid (Grows w1 w8) := GW.out.trans g8
        clear GW
        have GW := GA
        clear GA
        clear g8
        have hln2 := Lib.hid hln
        clear hln
        by_cases hqm : q = m
        · subst hqm
          by_cases hml : q = l
          · subst hml
            have h9 : so = true := by rw [hln2.out]; simp
            subst h9
            have cX0 := X0.out.cell
            have cX1 := X1.out.cell
            have cX7 := X7.out.cell
            go_wp2
            go_ret
            exact ⟨rfl, (HG1.out.trans GW.out).below⟩
          · have h9 : so = false := by rw [hln2.out]; simp [hml]
            subst h9
            have hb9 : ((q : Int) == (l : Int)) = false := by rw [beq_eq_false_iff_ne]; omega
            have cX0 := X0.out.cell
            have cX1 := X1.out.cell
            have cX7 := X7.out.cell
            go_wp2
            go_ret
            exact ⟨rfl, (HG1.out.trans GW.out).below⟩
        · have h9 : so = false := by rw [hln2.out]; simp [hqm]
          subst h9
          have hb9 : ((q : Int) == (m : Int)) = false := by rw [beq_eq_false_iff_ne]; omega
          have cX0 := X0.out.cell
          have cX1 := X1.out.cell
          have cX7 := X7.out.cell
          go_wp2
          go_ret
          exact ⟨rfl, (HG1.out.trans GW.out).below⟩
end Go.Proofs.YtgjineoiebokhaaDoor
