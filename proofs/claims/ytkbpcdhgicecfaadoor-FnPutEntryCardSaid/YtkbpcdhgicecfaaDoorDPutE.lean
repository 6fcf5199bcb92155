/-
  The drawn law of PutEntry: whatever its bytes, it returns true. Condition: no more bytes than a slice may have.
-/
import Derived.Test.YtkbpcdhgicecfaaDoorDrwP
import Derived.Test.YtkbpcdhgicecfaaDoorPutF
import Derived.Test.YtkbpcdhgicecfaaDoorPutX
import Derived.Test.YtkbpcdhgicecfaaDoorCutE
import Derived.Test.YtkbpcdhgicecfaaDoorLayH
namespace Go.Proofs.YtkbpcdhgicecfaaDoor
open Go.RowKit

theorem put_yes {l : List Ent} {e : Ent} (h : putB l e = true) : vlayer l = true ∧ vlayer (putR l e) = true ∧ putE l e = putR l e := by
  unfold putB at h
  simp only [Bool.and_eq_true] at h
  refine ⟨h.1, h.2, ?_⟩
  unfold putE
  rw [if_pos h.1]
  unfold chkE
  rw [if_pos h.2]
theorem put_put {l : List Ent} {e : Ent} (h : vlayer (putR l e) = true) : putE (putR l e) e = putR l e ∧ putB (putR l e) e = true := by
  have h1 := putR_again h
  unfold putE putB chkE
  rw [h1, h]
  simp
theorem short_fits {x : Ent} (h : x.short) : x.fits := by
  obtain ⟨h1, h2, h3, _⟩ := h
  exact ⟨by omega, by omega, by omega⟩
theorem any_snoc {P : List Ent} {x : Ent} {k : Nat} (hk : k < P.length) : ((P.take (k + 1)).any fun y => y.same x) = (((P.take k).any fun y => y.same x) || P[k].same x) := by
  rw [List.take_succ_eq_append_getElem hk, List.any_append]
  simp

set_option maxRecDepth 100000 in
set_option maxHeartbeats 8000000 in
theorem dPut_any (A : Option Addr) (n c : Nat) (w : World) (hn : n ≤ maxLen) (hc : n ≤ c) (h : BytesAt w A n) :
    Calls Tryd.prog 4 #[.slice A n c] w fun e w' => e = .returned (.bool true) ∧ Below w.heap.size w w' := by
  by_cases hbig : 1048576 < n
  · clear h
    unfold maxLen at hn
    go_enter Tryd.func4, Tryd.ntmps4
    go_wp2
    go_ret
    exact ⟨rfl, (Grows.refl _).below⟩
  · have HD := Lib.hid (DrawPutEntry_any A n c w hn hc h)
    clear h
    unfold maxLen at hn
    go_enter Tryd.func4, Tryd.ntmps4
    go_wp2_with fail
    refine (HD.out).mono ?_
    rintro e w1 ⟨v, K, ⟨xs, xk, xo, xv⟩, rfl, ⟨hS, hK⟩, hx, hO, g1⟩
    unfold Ent.agg
    dsimp only
    obtain ⟨x, hxx⟩ : ∃ x : Ent, x = ⟨xs, xk, xo, xv⟩ := ⟨_, rfl⟩
    have hxs : x.s = xs := by rw [hxx]
    have hxk : x.k = xk := by rw [hxx]
    have hxa : x.agg = .agg #[.string xs, .string xk, .int .i64 xo, .string xv] := by rw [hxx]; rfl
    rw [← hxx] at hx
    obtain ⟨A0, c0, rfl, hcap, hA⟩ := OwnE.formC hO
    have hf := hS.fit hK
    have he := short_fits hx
    have HPI := Lib.hid (fun w2 (g : Grows w1 w2) => implPutE_any A0 c0 K x w2 hcap hf he (hA.keep g))
    have HPS := Lib.hid (fun w2 (g : Grows w1 w2) => specPutE_any A0 c0 K x w2 hcap hf he (hA.keep g))
    have HCK := Lib.hid (fun w2 (g : Grows w1 w2) => implCut_any A0 c0 K x.s x.k w2 hf (hA.keep g))
    have HFP : Hid (EFit (putR K x)) := putR_fit hf (by omega) he
    have HE := Lib.hid he
    have hP20 := putE_20 K x
    obtain ⟨P, hP⟩ : ∃ P, putE K x = P := ⟨_, rfl⟩
    obtain ⟨β, hβ⟩ : ∃ β, putB K x = β := ⟨_, rfl⟩
    have HPB : Hid (β = true → vlayer K = true ∧ vlayer P = true ∧ P = putR K x) := fun h0 => by
      have h1 := put_yes (hβ.trans h0)
      exact ⟨h1.1, by rw [← hP, h1.2.2]; exact h1.2.1, hP ▸ h1.2.2⟩
    rw [hP] at HPI HPS hP20
    rw [hβ] at HPI HPS
    unfold ResEB at HPI HPS HCK
    have HXX := Lib.hid hxx
    have HXS := Lib.hid hxs
    have HXK := Lib.hid hxk
    have HXA := Lib.hid hxa
    rw [hxa] at HPI HPS
    rw [hxs, hxk] at HCK
    have BX0 : ∀ W : World, W.alloc (.cells #[.string xs, .string xk, .int .i64 xo, .string xv] 32) = W.alloc (.cells #[.string x.s, .string x.k, .int .i64 x.op, .string x.v] 32) := fun W => by rw [hxx]
    have HBX := Lib.hid BX0
    have O0_1 := Lib.hid hO
    have T1 : Hid (Grows w1 w1) := Grows.refl _
    have HG1 := Lib.hid g1
    clear hS hx hO g1 hA hf he HD hcap hP hβ hxx hxs hxk hxa BX0
    obtain ⟨m, hm⟩ : ∃ m, K.length = m := ⟨_, rfl⟩
    rw [hm] at HPI HPS HCK O0_1 hK ⊢
    have HKL := Lib.hid hK
    rw [← hm] at HKL
    clear hm
    go_upto_region 4 with (fail)
    obtain ⟨w2, hw2⟩ : ∃ w', w1.alloc (.cells #[.slice A0 m c0] 25) = w' := ⟨_, rfl⟩
    have X3_2 : Hid (Box w2 w1.heap.size (.slice A0 m c0) 25) := hw2 ▸ heap_alloc_new w1 _
    have gq : Grows w1 w2 := hw2 ▸ (Grows.refl w1).alloc _
    have hs2 : w2.heap.size = w1.heap.size + 1 := by rw [← hw2]; exact World.size_alloc _ _
    have T2 : Hid (Grows w1 w2) := gq
    have O0_2 := Lib.hid (O0_1.out.keep gq)
    clear O0_1 T1 gq
    obtain ⟨w3, hw3⟩ : ∃ w', w2.alloc (.cells #[.string xs, .string xk, .int .i64 xo, .string xv] 32) = w' := ⟨_, rfl⟩
    have E_3 : Hid (BoxE w3 w2.heap.size ⟨xs, xk, xo, xv⟩ 32) := hw3 ▸ heap_alloc_new w2 _
    have gq : Grows w2 w3 := hw3 ▸ (Grows.refl w2).alloc _
    have T3 : Hid (Grows w1 w3) := T2.out.trans gq
    have O0_3 := Lib.hid (O0_2.out.keep gq)
    have X3_3 := Lib.hid (X3_2.out.keep gq)
    clear O0_2 T2 X3_2 gq
    rw [hw2, hw3]
    rw [hs2] at E_3
    clear hw2 hw3 hs2
    have cX3 := X3_3.out.cell
    have cE0 := E_3.out.at0
    have cE1 := E_3.out.at1
    have cE2 := E_3.out.at2
    have cE3 := E_3.out.at3
    simp only at cE0 cE1 cE2 cE3
    go_wp2_with fail
    refine (HPI.out _ T3.out).mono ?_
    rintro e w4 ⟨u, rfl, hu, gq⟩
    clear cX3
    clear cE0 cE1 cE2 cE3
    have T4 : Hid (Grows w1 w4) := T3.out.trans gq
    have O0_4 := Lib.hid (O0_3.out.keep (gq))
    have X3_4 := Lib.hid (X3_3.out.keep (gq))
    have E_4 := Lib.hid (E_3.out.keep (gq))
    clear O0_3 X3_3 E_3 T3
    clear gq
    obtain ⟨AO4, cO4, hu', hcapO4, hEO4⟩ := OwnE.formC hu
    subst hu'
    have O4_4 := Lib.hid hu
    clear hu
    go_upto_region 5 with (fail)
    have X5_5 : Hid (Box (w4.alloc (.cells #[.slice AO4 P.length cO4] 25)) w4.heap.size (.slice AO4 P.length cO4) 25) := heap_alloc_new w4 _
    have gq : Grows w4 (w4.alloc (.cells #[.slice AO4 P.length cO4] 25)) := (Grows.refl _).alloc _
    obtain ⟨w5, hw5⟩ : ∃ w', (w4.alloc (.cells #[.slice AO4 P.length cO4] 25)) = w' := ⟨_, rfl⟩
    rw [hw5] at X5_5 gq ⊢
    clear hw5
    have hb_X3_X5 : w1.heap.size < w4.heap.size := X3_4.out.lt
    have hb_E_X5 : (w1.heap.size + 1) < w4.heap.size := E_4.out.lt
    have HL_O0_X5 : Hid (∀ k, (Value.slice A0 m c0).ownBlock = some k → k < w4.heap.size) := fun k hk => (O0_4.out.lt k hk).2
    have HL_O4_X5 : Hid (∀ k, (Value.slice AO4 P.length cO4).ownBlock = some k → k < w4.heap.size) := fun k hk => (O4_4.out.lt k hk).2
    have hz_X5 : w1.heap.size ≤ w4.heap.size := T4.out.size
    have T5 : Hid (Grows w1 w5) := T4.out.trans gq
    have G4_5 : Hid (Grows w4 w5) := gq
    have O0_5 := Lib.hid (O0_4.out.keep (gq))
    have X3_5 := Lib.hid (X3_4.out.keep (gq))
    have E_5 := Lib.hid (E_4.out.keep (gq))
    have O4_5 := Lib.hid (O4_4.out.keep (gq))
    clear O0_4 X3_4 E_4 O4_4 T4
    clear gq
    obtain ⟨b_X5, hbb⟩ : ∃ b, w4.heap.size = b := ⟨_, rfl⟩
    rw [hbb] at X5_5 hb_X3_X5 hb_E_X5 HL_O0_X5 HL_O4_X5 hz_X5 ⊢
    clear hbb
    have cX3 := X3_5.out.cell
    have cE0 := E_5.out.at0
    have cE1 := E_5.out.at1
    have cE2 := E_5.out.at2
    have cE3 := E_5.out.at3
    simp only at cE0 cE1 cE2 cE3
    go_wp2_with fail
    refine (HPS.out _ T5.out).mono ?_
    rintro e w6 ⟨u, rfl, hu, gq⟩
    clear cX3
    clear cE0 cE1 cE2 cE3
    have T6 : Hid (Grows w1 w6) := T5.out.trans gq
    have G4_6 : Hid (Grows w4 w6) := G4_5.out.trans gq
    have O0_6 := Lib.hid (O0_5.out.keep (gq))
    have X3_6 := Lib.hid (X3_5.out.keep (gq))
    have E_6 := Lib.hid (E_5.out.keep (gq))
    have O4_6 := Lib.hid (O4_5.out.keep (gq))
    have X5_6 := Lib.hid (X5_5.out.keep (gq))
    clear O0_5 X3_5 E_5 O4_5 X5_5 T5
    clear gq
    clear HPI HPS
    obtain ⟨AO5, cO5, hu', _, _⟩ := OwnE.formC hu
    subst hu'
    have O5_6 := Lib.hid hu
    clear hu
    go_upto_region 6 with (fail)
    have X7_7 : Hid (Box (w6.alloc (.cells #[.slice AO5 P.length cO5] 25)) w6.heap.size (.slice AO5 P.length cO5) 25) := heap_alloc_new w6 _
    have gq : Grows w6 (w6.alloc (.cells #[.slice AO5 P.length cO5] 25)) := (Grows.refl _).alloc _
    obtain ⟨w7, hw7⟩ : ∃ w', (w6.alloc (.cells #[.slice AO5 P.length cO5] 25)) = w' := ⟨_, rfl⟩
    rw [hw7] at X7_7 gq ⊢
    clear hw7
    have hb_X3_X7 : w1.heap.size < w6.heap.size := X3_6.out.lt
    have hb_E_X7 : (w1.heap.size + 1) < w6.heap.size := E_6.out.lt
    have hb_X5_X7 : b_X5 < w6.heap.size := X5_6.out.lt
    have HL_O0_X7 : Hid (∀ k, (Value.slice A0 m c0).ownBlock = some k → k < w6.heap.size) := fun k hk => (O0_6.out.lt k hk).2
    have HL_O4_X7 : Hid (∀ k, (Value.slice AO4 P.length cO4).ownBlock = some k → k < w6.heap.size) := fun k hk => (O4_6.out.lt k hk).2
    have HL_O5_X7 : Hid (∀ k, (Value.slice AO5 P.length cO5).ownBlock = some k → k < w6.heap.size) := fun k hk => (O5_6.out.lt k hk).2
    have hz_X7 : w1.heap.size ≤ w6.heap.size := T6.out.size
    have T7 : Hid (Grows w1 w7) := T6.out.trans gq
    have G4_7 : Hid (Grows w4 w7) := G4_6.out.trans gq
    have O0_7 := Lib.hid (O0_6.out.keep (gq))
    have X3_7 := Lib.hid (X3_6.out.keep (gq))
    have E_7 := Lib.hid (E_6.out.keep (gq))
    have O4_7 := Lib.hid (O4_6.out.keep (gq))
    have X5_7 := Lib.hid (X5_6.out.keep (gq))
    have O5_7 := Lib.hid (O5_6.out.keep (gq))
    clear O0_6 X3_6 E_6 O4_6 X5_6 O5_6 T6
    clear gq
    obtain ⟨b_X7, hbb⟩ : ∃ b, w6.heap.size = b := ⟨_, rfl⟩
    rw [hbb] at X7_7 hb_X3_X7 hb_E_X7 hb_X5_X7 HL_O0_X7 HL_O4_X7 HL_O5_X7 hz_X7 ⊢
    clear hbb
    have cX5 := X5_7.out.cell
    have cX7 := X7_7.out.cell
    go_wp2_with fail
    refine (equalLayer_own _ _ _ _ P _ (by omega) O4_7.out O5_7.out).mono ?_
    rintro e w8 ⟨rfl, gq⟩
    clear cX5
    clear cX7
    have T8 : Hid (Grows w1 w8) := T7.out.trans gq
    have G4_8 : Hid (Grows w4 w8) := G4_7.out.trans gq
    have O0_8 := Lib.hid (O0_7.out.keep (gq))
    have X3_8 := Lib.hid (X3_7.out.keep (gq))
    have E_8 := Lib.hid (E_7.out.keep (gq))
    have O4_8 := Lib.hid (O4_7.out.keep (gq))
    have X5_8 := Lib.hid (X5_7.out.keep (gq))
    have O5_8 := Lib.hid (O5_7.out.keep (gq))
    have X7_8 := Lib.hid (X7_7.out.keep (gq))
    clear O0_7 X3_7 E_7 O4_7 X5_7 O5_7 X7_7 T7
    clear gq
    rcases β with _ | _
    · have cX5 := X5_8.out.cell
      have cX7 := X7_8.out.cell
      go_wp2_with fail
      refine (equalLayer_own _ _ _ _ P _ (by omega) O4_8.out O5_8.out).mono ?_
      rintro e w9 ⟨rfl, gq⟩
      clear cX5
      clear cX7
      have T9 : Hid (Grows w1 w9) := T8.out.trans gq
      have O0_9 := Lib.hid (O0_8.out.keep (gq))
      have X3_9 := Lib.hid (X3_8.out.keep (gq))
      have E_9 := Lib.hid (E_8.out.keep (gq))
      have O4_9 := Lib.hid (O4_8.out.keep (gq))
      have X5_9 := Lib.hid (X5_8.out.keep (gq))
      have O5_9 := Lib.hid (O5_8.out.keep (gq))
      have X7_9 := Lib.hid (X7_8.out.keep (gq))
      clear O0_8 X3_8 E_8 O4_8 X5_8 O5_8 X7_8 T8
      clear gq
      go_wp2
      go_ret
      exact ⟨rfl, (HG1.out.trans T9.out).below⟩
    · clear X7_8 O5_8
      obtain ⟨hvK, hvP, hPR⟩ := HPB.out rfl
      have hPP := put_put (l := K) (e := x) (by rw [← hPR]; exact hvP)
      have hcp := cut_put (l := K) (e := x) (by rw [← hPR]; exact hvP)
      have hch := cut_had (l := K) (e := x) hvK
      have hxm : x ∈ P := by rw [hPR]; exact putR_mem K x
      rw [← hPR] at hPP hcp
      have HFP' : Hid (EFit P) := by rw [hPR]; exact HFP.out
      have HMET : Hid ((P.any fun y => y.same x) = true) := by unfold Hid; rw [List.any_eq_true]; exact ⟨x, hxm, Ent.same_self x⟩
      have HPQ := Lib.hid (fun w2 (g : Grows w8 w2) => implPutE_any AO4 cO4 P x w2 hcapO4 HFP'.out HE.out (hEO4.keep (G4_8.out.trans g)))
      have HCP := Lib.hid (fun w2 (g : Grows w8 w2) => implCut_any AO4 cO4 P x.s x.k w2 HFP'.out (hEO4.keep (G4_8.out.trans g)))
      rw [hPP.1, hPP.2, HXA.out] at HPQ
      rw [hcp.1, hcp.2, HXS.out, HXK.out] at HCP
      rw [HXS.out, HXK.out] at hch
      obtain ⟨F, hF⟩ : ∃ F, K.filter (notAt xs xk) = F := ⟨_, rfl⟩
      have hFl : F.length ≤ 101 := by rw [← hF]; exact Nat.le_trans (List.length_filter_le _ _) (HKL.out)
      obtain ⟨γ, hγ⟩ : ∃ γ, cutB K xs xk = γ := ⟨_, rfl⟩
      obtain ⟨Q, hQ⟩ : ∃ Q, cutL K xs xk = Q := ⟨_, rfl⟩
      rw [hF] at HCP hch
      rw [hγ, hQ] at HCK hch
      have HCH := Lib.hid hch
      unfold ResEB at HPQ HCP
      clear hvK hvP hPR hPP hcp hch hxm hF hγ hQ HPB HFP
      have GZ : Hid (Grows w8 w8) := Grows.refl _
      have cX5 := X5_8.out.cell
      have cE0 := E_8.out.at0
      have cE1 := E_8.out.at1
      have cE2 := E_8.out.at2
      have cE3 := E_8.out.at3
      simp only at cE0 cE1 cE2 cE3
      go_wp2_with fail
      refine (HPQ.out _ GZ.out).mono ?_
      rintro e w9 ⟨u, rfl, hu, gq⟩
      clear cX5
      clear cE0 cE1 cE2 cE3
      have T9 : Hid (Grows w1 w9) := T8.out.trans gq
      have GZ9 : Hid (Grows w8 w9) := GZ.out.trans gq
      have O0_9 := Lib.hid (O0_8.out.keep (gq))
      have X3_9 := Lib.hid (X3_8.out.keep (gq))
      have E_9 := Lib.hid (E_8.out.keep (gq))
      have O4_9 := Lib.hid (O4_8.out.keep (gq))
      have X5_9 := Lib.hid (X5_8.out.keep (gq))
      clear O0_8 X3_8 E_8 O4_8 X5_8 T8
      clear gq
      obtain ⟨AO9, cO9, hu', _, _⟩ := OwnE.formC hu
      subst hu'
      have O9_9 := Lib.hid hu
      clear hu HPQ
      go_upto_region 9 with (fail)
      have X9_10 : Hid (Box (w9.alloc (.cells #[.slice AO9 P.length cO9] 25)) w9.heap.size (.slice AO9 P.length cO9) 25) := heap_alloc_new w9 _
      have gq : Grows w9 (w9.alloc (.cells #[.slice AO9 P.length cO9] 25)) := (Grows.refl _).alloc _
      obtain ⟨w10, hw10⟩ : ∃ w', (w9.alloc (.cells #[.slice AO9 P.length cO9] 25)) = w' := ⟨_, rfl⟩
      rw [hw10] at X9_10 gq ⊢
      clear hw10
      have hb_X3_X9 : w1.heap.size < w9.heap.size := X3_9.out.lt
      have hb_E_X9 : (w1.heap.size + 1) < w9.heap.size := E_9.out.lt
      have hb_X5_X9 : b_X5 < w9.heap.size := X5_9.out.lt
      have HL_O0_X9 : Hid (∀ k, (Value.slice A0 m c0).ownBlock = some k → k < w9.heap.size) := fun k hk => (O0_9.out.lt k hk).2
      have HL_O4_X9 : Hid (∀ k, (Value.slice AO4 P.length cO4).ownBlock = some k → k < w9.heap.size) := fun k hk => (O4_9.out.lt k hk).2
      have HL_O9_X9 : Hid (∀ k, (Value.slice AO9 P.length cO9).ownBlock = some k → k < w9.heap.size) := fun k hk => (O9_9.out.lt k hk).2
      have hz_X9 : w1.heap.size ≤ w9.heap.size := T9.out.size
      have T10 : Hid (Grows w1 w10) := T9.out.trans gq
      have GZ10 : Hid (Grows w8 w10) := GZ9.out.trans gq
      have O0_10 := Lib.hid (O0_9.out.keep (gq))
      have X3_10 := Lib.hid (X3_9.out.keep (gq))
      have E_10 := Lib.hid (E_9.out.keep (gq))
      have O4_10 := Lib.hid (O4_9.out.keep (gq))
      have X5_10 := Lib.hid (X5_9.out.keep (gq))
      have O9_10 := Lib.hid (O9_9.out.keep (gq))
      clear O0_9 X3_9 E_9 O4_9 X5_9 O9_9 T9
      clear gq
      obtain ⟨b_X9, hbb⟩ : ∃ b, w9.heap.size = b := ⟨_, rfl⟩
      rw [hbb] at X9_10 hb_X3_X9 hb_E_X9 hb_X5_X9 HL_O0_X9 HL_O4_X9 HL_O9_X9 hz_X9 ⊢
      clear hbb
      obtain ⟨p, hp⟩ : ∃ p, P.length = p := ⟨_, rfl⟩
      rw [hp] at X5_10 X9_10 O4_10 O9_10 HL_O4_X9 HL_O9_X9 hP20 HCP ⊢
      have HPL := Lib.hid hp
      clear hp
      have hEP := Lib.hid (fun W (g : Grows w10 W) => hEO4.keep ((G4_8.out.trans GZ10.out).trans g))
      clear hEO4 hcapO4
      have cX5 := X5_10.out.cell
      go_wp2_with fail
      clear cX5
      go_loopw [11, 12] (fun z i wr => ∃ (k : Nat) (b : Bool), k ≤ p ∧ i = .int .i64 k ∧ z = .bool b ∧ Hid (((P.take k).any fun y => y.same x) = b) ∧ Hid (Grows w10 wr)) (fun _ i _ => p - (intOf i).toNat)
      case atStart => exact ⟨0, false, Nat.zero_le _, rfl, rfl, rfl, Grows.refl _⟩
      case round =>
        obtain ⟨k, b, hk, rfl, rfl, HBB, HG⟩ := hrel
        have cX5 := (X5_10.out.keep HG.out).cell
        by_cases hlt : k < p
        · have hk2 : k < P.length := by rw [HPL.out]; exact hlt
          obtain ⟨bb, oo, hAq, hbb, hcc⟩ := (hEP.out wr HG.out) (by omega)
          obtain ⟨⟨ys, yk, yo, yv⟩, hy⟩ : ∃ y, P[k] = y := ⟨_, rfl⟩
          obtain ⟨z0, z1, z2, z3⟩ := hcc k hk2
          rw [hy] at z0 z1 z2 z3
          simp only at z0 z1 z2 z3
          have has := any_snoc (x := x) hk2
          rw [hy, HBB.out] at has
          have HAS := Lib.hid has
          subst hAq
          have BEr := Lib.hid (E_10.out.keep HG.out)
          have t0 := BEr.out.at0
          have t1 := BEr.out.at1
          have t2 := BEr.out.at2
          have t3 := BEr.out.at3
          simp only at t0 t1 t2 t3
          obtain ⟨σ, hσ⟩ : ∃ σ, (⟨ys, yk, yo, yv⟩ : Ent).same x = σ := ⟨_, rfl⟩
          rw [hσ] at HAS
          have hne : ∀ w, (binOp .eql 32 (.agg #[.string ys, .string yk, .int .i64 yo, .string yv]) (.agg #[.string xs, .string xk, .int .i64 xo, .string xv])).run Tryd.prog w = .ok (.bool σ) w := fun w => by
            have h1 := eqEnt ⟨ys, yk, yo, yv⟩ x w
            rw [hσ, HXA.out] at h1
            exact h1
          clear hcc hy has hσ
          rcases b with _ | _
          · go_wp2_with fail
            go_quiet (fail)
            go_wp2_with fail
            go_wp2
            go_roundw
            case rel => exact ⟨k + 1, σ, by omega, by go_num, rfl, HAS.out.trans (Bool.false_or σ), HG.out.trans (by repeat (first | exact Grows.refl _ | refine Grows.drew ?_ | refine Grows.drewN ?_ _))⟩
            case measure => simp [intOf]; omega
          · go_wp2_with fail
            go_quiet (fail)
            go_wp2_with fail
            go_wp2
            go_roundw
            case rel => exact ⟨k + 1, true, by omega, by go_num, rfl, HAS.out.trans (Bool.true_or σ), HG.out.trans (by repeat (first | exact Grows.refl _ | refine Grows.drew ?_ | refine Grows.drewN ?_ _))⟩
            case measure => simp [intOf]; omega
        · have HKP : Hid (k = p) := (by omega : k = p)
          have hbt : b = true := by
            have h1 := HBB.out
            rw [HKP.out, ← HPL.out, List.take_length, HMET.out] at h1
            exact h1.symm
          subst hbt
          obtain ⟨w11, hwr⟩ : ∃ w', wr = w' := ⟨_, rfl⟩
          have gq : Grows w10 w11 := hwr ▸ HG.out
          rw [hwr]
          rw [hwr] at cX5
          clear hwr HG HBB
          have T11 : Hid (Grows w1 w11) := T10.out.trans gq
          have GZ11 : Hid (Grows w8 w11) := GZ10.out.trans gq
          have O0_11 := Lib.hid (O0_10.out.keep (gq))
          have X3_11 := Lib.hid (X3_10.out.keep (gq))
          have E_11 := Lib.hid (E_10.out.keep (gq))
          have O4_11 := Lib.hid (O4_10.out.keep (gq))
          have X5_11 := Lib.hid (X5_10.out.keep (gq))
          have O9_11 := Lib.hid (O9_10.out.keep (gq))
          have X9_11 := Lib.hid (X9_10.out.keep (gq))
          clear O0_10 X3_10 E_10 O4_10 X5_10 O9_10 X9_10 T10
          clear gq cX5
          have cX5 := X5_11.out.cell
          have cE0 := E_11.out.at0
          have cE1 := E_11.out.at1
          have cE2 := E_11.out.at2
          have cE3 := E_11.out.at3
          simp only at cE0 cE1 cE2 cE3
          go_wp2_with fail
          refine (HCP.out _ GZ11.out).mono ?_
          rintro e w12 ⟨u, rfl, hu, gq⟩
          clear cX5
          clear cE0 cE1 cE2 cE3
          have T12 : Hid (Grows w1 w12) := T11.out.trans gq
          have GZ12 : Hid (Grows w8 w12) := GZ11.out.trans gq
          have O0_12 := Lib.hid (O0_11.out.keep (gq))
          have X3_12 := Lib.hid (X3_11.out.keep (gq))
          have E_12 := Lib.hid (E_11.out.keep (gq))
          have O4_12 := Lib.hid (O4_11.out.keep (gq))
          have X5_12 := Lib.hid (X5_11.out.keep (gq))
          have O9_12 := Lib.hid (O9_11.out.keep (gq))
          have X9_12 := Lib.hid (X9_11.out.keep (gq))
          clear O0_11 X3_11 E_11 O4_11 X5_11 O9_11 X9_11 T11
          clear gq
          obtain ⟨AOc, cOc, hu', _, _⟩ := OwnE.formC hu
          subst hu'
          have Oc_12 := Lib.hid hu
          clear hu HCP
          go_upto_region 15 with (fail)
          have Xc_13 : Hid (Box (w12.alloc (.cells #[.slice AOc F.length cOc] 25)) w12.heap.size (.slice AOc F.length cOc) 25) := heap_alloc_new w12 _
          have gq : Grows w12 (w12.alloc (.cells #[.slice AOc F.length cOc] 25)) := (Grows.refl _).alloc _
          obtain ⟨w13, hw13⟩ : ∃ w', (w12.alloc (.cells #[.slice AOc F.length cOc] 25)) = w' := ⟨_, rfl⟩
          rw [hw13] at Xc_13 gq ⊢
          clear hw13
          have hb_X3_Xc : w1.heap.size < w12.heap.size := X3_12.out.lt
          have hb_E_Xc : (w1.heap.size + 1) < w12.heap.size := E_12.out.lt
          have hb_X5_Xc : b_X5 < w12.heap.size := X5_12.out.lt
          have hb_X9_Xc : b_X9 < w12.heap.size := X9_12.out.lt
          have HL_O0_Xc : Hid (∀ k, (Value.slice A0 m c0).ownBlock = some k → k < w12.heap.size) := fun k hk => (O0_12.out.lt k hk).2
          have HL_O4_Xc : Hid (∀ k, (Value.slice AO4 p cO4).ownBlock = some k → k < w12.heap.size) := fun k hk => (O4_12.out.lt k hk).2
          have HL_O9_Xc : Hid (∀ k, (Value.slice AO9 p cO9).ownBlock = some k → k < w12.heap.size) := fun k hk => (O9_12.out.lt k hk).2
          have HL_Oc_Xc : Hid (∀ k, (Value.slice AOc F.length cOc).ownBlock = some k → k < w12.heap.size) := fun k hk => (Oc_12.out.lt k hk).2
          have hz_Xc : w1.heap.size ≤ w12.heap.size := T12.out.size
          have T13 : Hid (Grows w1 w13) := T12.out.trans gq
          have GZ13 : Hid (Grows w8 w13) := GZ12.out.trans gq
          have O0_13 := Lib.hid (O0_12.out.keep (gq))
          have X3_13 := Lib.hid (X3_12.out.keep (gq))
          have E_13 := Lib.hid (E_12.out.keep (gq))
          have O4_13 := Lib.hid (O4_12.out.keep (gq))
          have X5_13 := Lib.hid (X5_12.out.keep (gq))
          have O9_13 := Lib.hid (O9_12.out.keep (gq))
          have X9_13 := Lib.hid (X9_12.out.keep (gq))
          have Oc_13 := Lib.hid (Oc_12.out.keep (gq))
          clear O0_12 X3_12 E_12 O4_12 X5_12 O9_12 X9_12 Oc_12 T12
          clear gq
          obtain ⟨b_Xc, hbb⟩ : ∃ b, w12.heap.size = b := ⟨_, rfl⟩
          rw [hbb] at Xc_13 hb_X3_Xc hb_E_Xc hb_X5_Xc hb_X9_Xc HL_O0_Xc HL_O4_Xc HL_O9_Xc HL_Oc_Xc hz_Xc ⊢
          clear hbb
          have cX3 := X3_13.out.cell
          have cE0 := E_13.out.at0
          have cE1 := E_13.out.at1
          have cE2 := E_13.out.at2
          have cE3 := E_13.out.at3
          simp only at cE0 cE1 cE2 cE3
          go_wp2_with fail
          refine (HCK.out _ T13.out).mono ?_
          rintro e w14 ⟨u, rfl, hu, gq⟩
          clear cX3
          clear cE0 cE1 cE2 cE3
          have T14 : Hid (Grows w1 w14) := T13.out.trans gq
          have GZ14 : Hid (Grows w8 w14) := GZ13.out.trans gq
          have O0_14 := Lib.hid (O0_13.out.keep (gq))
          have X3_14 := Lib.hid (X3_13.out.keep (gq))
          have E_14 := Lib.hid (E_13.out.keep (gq))
          have O4_14 := Lib.hid (O4_13.out.keep (gq))
          have X5_14 := Lib.hid (X5_13.out.keep (gq))
          have O9_14 := Lib.hid (O9_13.out.keep (gq))
          have X9_14 := Lib.hid (X9_13.out.keep (gq))
          have Oc_14 := Lib.hid (Oc_13.out.keep (gq))
          have Xc_14 := Lib.hid (Xc_13.out.keep (gq))
          clear O0_13 X3_13 E_13 O4_13 X5_13 O9_13 X9_13 Oc_13 Xc_13 T13
          clear gq
          obtain ⟨AOd, cOd, hu', _, _⟩ := OwnE.formC hu
          subst hu'
          have Od_14 := Lib.hid hu
          clear hu HCK
          go_upto_region 16 with (fail)
          have Xd_15 : Hid (Box (w14.alloc (.cells #[.slice AOd Q.length cOd] 25)) w14.heap.size (.slice AOd Q.length cOd) 25) := heap_alloc_new w14 _
          have gq : Grows w14 (w14.alloc (.cells #[.slice AOd Q.length cOd] 25)) := (Grows.refl _).alloc _
          obtain ⟨w15, hw15⟩ : ∃ w', (w14.alloc (.cells #[.slice AOd Q.length cOd] 25)) = w' := ⟨_, rfl⟩
          rw [hw15] at Xd_15 gq ⊢
          clear hw15
          have hb_X3_Xd : w1.heap.size < w14.heap.size := X3_14.out.lt
          have hb_E_Xd : (w1.heap.size + 1) < w14.heap.size := E_14.out.lt
          have hb_X5_Xd : b_X5 < w14.heap.size := X5_14.out.lt
          have hb_X9_Xd : b_X9 < w14.heap.size := X9_14.out.lt
          have hb_Xc_Xd : b_Xc < w14.heap.size := Xc_14.out.lt
          have HL_O0_Xd : Hid (∀ k, (Value.slice A0 m c0).ownBlock = some k → k < w14.heap.size) := fun k hk => (O0_14.out.lt k hk).2
          have HL_O4_Xd : Hid (∀ k, (Value.slice AO4 p cO4).ownBlock = some k → k < w14.heap.size) := fun k hk => (O4_14.out.lt k hk).2
          have HL_O9_Xd : Hid (∀ k, (Value.slice AO9 p cO9).ownBlock = some k → k < w14.heap.size) := fun k hk => (O9_14.out.lt k hk).2
          have HL_Oc_Xd : Hid (∀ k, (Value.slice AOc F.length cOc).ownBlock = some k → k < w14.heap.size) := fun k hk => (Oc_14.out.lt k hk).2
          have HL_Od_Xd : Hid (∀ k, (Value.slice AOd Q.length cOd).ownBlock = some k → k < w14.heap.size) := fun k hk => (Od_14.out.lt k hk).2
          have hz_Xd : w1.heap.size ≤ w14.heap.size := T14.out.size
          have T15 : Hid (Grows w1 w15) := T14.out.trans gq
          have GZ15 : Hid (Grows w8 w15) := GZ14.out.trans gq
          have O0_15 := Lib.hid (O0_14.out.keep (gq))
          have X3_15 := Lib.hid (X3_14.out.keep (gq))
          have E_15 := Lib.hid (E_14.out.keep (gq))
          have O4_15 := Lib.hid (O4_14.out.keep (gq))
          have X5_15 := Lib.hid (X5_14.out.keep (gq))
          have O9_15 := Lib.hid (O9_14.out.keep (gq))
          have X9_15 := Lib.hid (X9_14.out.keep (gq))
          have Oc_15 := Lib.hid (Oc_14.out.keep (gq))
          have Xc_15 := Lib.hid (Xc_14.out.keep (gq))
          have Od_15 := Lib.hid (Od_14.out.keep (gq))
          clear O0_14 X3_14 E_14 O4_14 X5_14 O9_14 X9_14 Oc_14 Xc_14 Od_14 T14
          clear gq
          obtain ⟨b_Xd, hbb⟩ : ∃ b, w14.heap.size = b := ⟨_, rfl⟩
          rw [hbb] at Xd_15 hb_X3_Xd hb_E_Xd hb_X5_Xd hb_X9_Xd hb_Xc_Xd HL_O0_Xd HL_O4_Xd HL_O9_Xd HL_Oc_Xd HL_Od_Xd hz_Xd ⊢
          clear hbb
          rcases γ with _ | _
          · have hKF : K = F := by have h := HCH.out; simpa using h
            subst hKF
            clear Od_15
            have cX3 := X3_15.out.cell
            have cXd := Xd_15.out.cell
            have fXd := Xd_15.out.free
            have gs : Hid (w15.grownBy (w15.setCell ⟨b_Xd, 0, none⟩ (.slice A0 m c0)) (some b_Xd)) := gb_set (World.grownBy.refl _ _) _ _
            have Xd_16 : Hid (Box (w15.setCell ⟨b_Xd, 0, none⟩ (.slice A0 m c0)) b_Xd (.slice A0 m c0) 25) := Xd_15.out.set_ _
            go_upto_region 18 with (fail)
            obtain ⟨w16, hww⟩ : ∃ w', (w15.setCell ⟨b_Xd, 0, none⟩ (.slice A0 m c0)) = w' := ⟨_, rfl⟩
            rw [hww] at gs Xd_16 ⊢
            clear hww cX3 cXd fXd
            have T16 : Hid (Grows w1 w16) := T15.out.mark gs.out (fun i hi => by injection hi with hi; omega)
            have GZ16 : Hid True := trivial
            have O0_16 := Lib.hid (O0_15.out.far gs.out (fun k hk e => by injection e with e; have := HL_O0_Xd.out k hk; omega))
            have X3_16 := Lib.hid (X3_15.out.far gs.out (by intro e; injection e with e; omega))
            have E_16 := Lib.hid (E_15.out.far gs.out (by intro e; injection e with e; omega))
            have O4_16 := Lib.hid (O4_15.out.far gs.out (fun k hk e => by injection e with e; have := HL_O4_Xd.out k hk; omega))
            have X5_16 := Lib.hid (X5_15.out.far gs.out (by intro e; injection e with e; omega))
            have O9_16 := Lib.hid (O9_15.out.far gs.out (fun k hk e => by injection e with e; have := HL_O9_Xd.out k hk; omega))
            have X9_16 := Lib.hid (X9_15.out.far gs.out (by intro e; injection e with e; omega))
            have Oc_16 := Lib.hid (Oc_15.out.far gs.out (fun k hk e => by injection e with e; have := HL_Oc_Xd.out k hk; omega))
            have Xc_16 := Lib.hid (Xc_15.out.far gs.out (by intro e; injection e with e; omega))
            clear O0_15 X3_15 E_15 O4_15 X5_15 O9_15 X9_15 Oc_15 Xc_15 Xd_15
            have cX9 := X9_16.out.cell
            have cX5 := X5_16.out.cell
            go_wp2_with fail
            refine (equalLayer_own _ _ _ _ P _ (by have := HPL.out; omega) O9_16.out O4_16.out).mono ?_
            rintro e w17 ⟨rfl, gq⟩
            clear cX9
            clear cX5
            have T17 : Hid (Grows w1 w17) := T16.out.trans gq
            have O0_17 := Lib.hid (O0_16.out.keep (gq))
            have X3_17 := Lib.hid (X3_16.out.keep (gq))
            have E_17 := Lib.hid (E_16.out.keep (gq))
            have O4_17 := Lib.hid (O4_16.out.keep (gq))
            have X5_17 := Lib.hid (X5_16.out.keep (gq))
            have O9_17 := Lib.hid (O9_16.out.keep (gq))
            have X9_17 := Lib.hid (X9_16.out.keep (gq))
            have Oc_17 := Lib.hid (Oc_16.out.keep (gq))
            have Xc_17 := Lib.hid (Xc_16.out.keep (gq))
            have Xd_17 := Lib.hid (Xd_16.out.keep (gq))
            clear O0_16 X3_16 E_16 O4_16 X5_16 O9_16 X9_16 Oc_16 Xc_16 Xd_16 T16
            clear gq
            have cXc := Xc_17.out.cell
            have cXd := Xd_17.out.cell
            go_wp2_with fail
            refine (equalLayer_own _ _ _ _ K _ (by omega) Oc_17.out O0_17.out).mono ?_
            rintro e w18 ⟨rfl, gq⟩
            clear cXc
            clear cXd
            have T18 : Hid (Grows w1 w18) := T17.out.trans gq
            have O0_18 := Lib.hid (O0_17.out.keep (gq))
            have X3_18 := Lib.hid (X3_17.out.keep (gq))
            have E_18 := Lib.hid (E_17.out.keep (gq))
            have O4_18 := Lib.hid (O4_17.out.keep (gq))
            have X5_18 := Lib.hid (X5_17.out.keep (gq))
            have O9_18 := Lib.hid (O9_17.out.keep (gq))
            have X9_18 := Lib.hid (X9_17.out.keep (gq))
            have Oc_18 := Lib.hid (Oc_17.out.keep (gq))
            have Xc_18 := Lib.hid (Xc_17.out.keep (gq))
            have Xd_18 := Lib.hid (Xd_17.out.keep (gq))
            clear O0_17 X3_17 E_17 O4_17 X5_17 O9_17 X9_17 Oc_17 Xc_17 Xd_17 T17
            clear gq
            go_wp2
            go_ret
            exact ⟨rfl, (HG1.out.trans T18.out).below⟩
          · have hQF : Q = F := by have h := HCH.out; simpa using h
            subst hQF
            have cX9 := X9_15.out.cell
            have cX5 := X5_15.out.cell
            go_wp2_with fail
            refine (equalLayer_own _ _ _ _ P _ (by have := HPL.out; omega) O9_15.out O4_15.out).mono ?_
            rintro e w16 ⟨rfl, gq⟩
            clear cX9
            clear cX5
            have T16 : Hid (Grows w1 w16) := T15.out.trans gq
            have GZ16 : Hid (Grows w8 w16) := GZ15.out.trans gq
            have O0_16 := Lib.hid (O0_15.out.keep (gq))
            have X3_16 := Lib.hid (X3_15.out.keep (gq))
            have E_16 := Lib.hid (E_15.out.keep (gq))
            have O4_16 := Lib.hid (O4_15.out.keep (gq))
            have X5_16 := Lib.hid (X5_15.out.keep (gq))
            have O9_16 := Lib.hid (O9_15.out.keep (gq))
            have X9_16 := Lib.hid (X9_15.out.keep (gq))
            have Oc_16 := Lib.hid (Oc_15.out.keep (gq))
            have Xc_16 := Lib.hid (Xc_15.out.keep (gq))
            have Od_16 := Lib.hid (Od_15.out.keep (gq))
            have Xd_16 := Lib.hid (Xd_15.out.keep (gq))
            clear O0_15 X3_15 E_15 O4_15 X5_15 O9_15 X9_15 Oc_15 Xc_15 Od_15 Xd_15 T15
            clear gq
            have cXc := Xc_16.out.cell
            have cXd := Xd_16.out.cell
            go_wp2_with fail
            refine (equalLayer_own _ _ _ _ Q _ (by omega) Oc_16.out Od_16.out).mono ?_
            rintro e w17 ⟨rfl, gq⟩
            clear cXc
            clear cXd
            have T17 : Hid (Grows w1 w17) := T16.out.trans gq
            have GZ17 : Hid (Grows w8 w17) := GZ16.out.trans gq
            have O0_17 := Lib.hid (O0_16.out.keep (gq))
            have X3_17 := Lib.hid (X3_16.out.keep (gq))
            have E_17 := Lib.hid (E_16.out.keep (gq))
            have O4_17 := Lib.hid (O4_16.out.keep (gq))
            have X5_17 := Lib.hid (X5_16.out.keep (gq))
            have O9_17 := Lib.hid (O9_16.out.keep (gq))
            have X9_17 := Lib.hid (X9_16.out.keep (gq))
            have Oc_17 := Lib.hid (Oc_16.out.keep (gq))
            have Xc_17 := Lib.hid (Xc_16.out.keep (gq))
            have Od_17 := Lib.hid (Od_16.out.keep (gq))
            have Xd_17 := Lib.hid (Xd_16.out.keep (gq))
            clear O0_16 X3_16 E_16 O4_16 X5_16 O9_16 X9_16 Oc_16 Xc_16 Od_16 Xd_16 T16
            clear gq
            go_wp2
            go_ret
            exact ⟨rfl, (HG1.out.trans T17.out).below⟩
end Go.Proofs.YtkbpcdhgicecfaaDoor
