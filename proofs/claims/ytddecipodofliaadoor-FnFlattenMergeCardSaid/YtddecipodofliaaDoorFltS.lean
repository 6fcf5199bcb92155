/-
  The flat layer of a stack as the specification makes it. Conditions: parts of at most 1048576 bytes.
-/
import Derived.Test.YtddecipodofliaaDoorRslS
namespace Go.Proofs.YtddecipodofliaaDoor
open Go.RowKit

set_option maxRecDepth 100000 in
set_option maxHeartbeats 20000000 in
theorem specFlattened_any (A : Option Addr) (c : Nat) (sl : List (List Ent)) (w : World) (hv : vstack sl = true) (hA : StackAt w A sl) :
    Calls Tryd.prog 27 #[.slice A sl.length c] w (ResE (flatR sl) w) := by
  have h5 := vstack_5 hv
  have HRS := Lib.hid (fun s key w1 (g : Grows w w1) => specResolved_any A c sl s key w1 hv (hA.keep g))
  have HA := Lib.hid hA
  have HL := Lib.hid (vstack_all hv)
  clear hA hv
  obtain ⟨n, hnn⟩ : ∃ n, sl.length = n := ⟨_, rfl⟩
  rw [hnn] at h5 HRS ⊢
  have HN := Lib.hid hnn
  clear hnn
  go_enter Tryd.func27, Tryd.ntmps27
  go_upto_region 1 with (fail)
  have XR : Hid (Box (w.alloc (.cells #[.slice none 0 0] 27)) w.heap.size (.slice none 0 0) 27) := heap_alloc_new w _
  have G0 : Hid (Grows w (w.alloc (.cells #[.slice none 0 0] 27))) := (Grows.refl w).alloc _
  obtain ⟨w0, hw0⟩ : ∃ w0, w.alloc (.cells #[.slice none 0 0] 27) = w0 := ⟨_, rfl⟩
  rw [hw0] at XR G0 ⊢
  clear hw0
  have S0 : w.heap.size < w0.heap.size := XR.out.lt
  go_upto_region 3 with (fail)
  have GI : Hid (Grows w0 (((w0.alloc (.cells #[] 51)).alloc (.cells #[.slice (some ⟨w0.heap.size, 0, none⟩) 0 0] 27)).alloc (.cells #[.slice none 0 0] 27))) := (((Grows.refl w0).alloc _).alloc _).alloc _
  have OI : Hid (OwnE (((w0.alloc (.cells #[] 51)).alloc (.cells #[.slice (some ⟨w0.heap.size, 0, none⟩) 0 0] 27)).alloc (.cells #[.slice none 0 0] 27)) w0.heap.size (.slice (some ⟨w0.heap.size, 0, none⟩) 0 0) []) := (OwnE.empty w0 _ (Nat.le_refl _)).keep (((Grows.refl _).alloc _).alloc _)
  have XI : Hid (Box (((w0.alloc (.cells #[] 51)).alloc (.cells #[.slice (some ⟨w0.heap.size, 0, none⟩) 0 0] 27)).alloc (.cells #[.slice none 0 0] 27)) (w0.heap.size + 1) (.slice (some ⟨w0.heap.size, 0, none⟩) 0 0) 27) := Box.keep (alloc_new2 w0 _ _) ((Grows.refl _).alloc _)
  have YI : Hid (Box (((w0.alloc (.cells #[] 51)).alloc (.cells #[.slice (some ⟨w0.heap.size, 0, none⟩) 0 0] 27)).alloc (.cells #[.slice none 0 0] 27)) (w0.heap.size + 1 + 1) (.slice none 0 0) 27) := alloc_new3 w0 _ _ _
  obtain ⟨wi, hwi⟩ : ∃ wi, ((w0.alloc (.cells #[] 51)).alloc (.cells #[.slice (some ⟨w0.heap.size, 0, none⟩) 0 0] 27)).alloc (.cells #[.slice none 0 0] 27) = wi := ⟨_, rfl⟩
  rw [hwi] at GI OI XI YI ⊢
  clear hwi
  have S1 : w0.heap.size + 1 + 1 < wi.heap.size := YI.out.lt
  go_wp2_with fail
  go_loopw [5] (fun i wr => ∃ (j : Nat) (KO KM : List Ent) (vO vM : Value), j ≤ n ∧ i = .int .i64 ((j : Int) - 1) ∧ KM.length ≤ (n - j) * 20 ∧ KO.length ≤ KM.length ∧ Hid (KM = firstsE (allE (sl.drop j))) ∧ Hid (KO = KM.filterMap (flatOne (toldV sl))) ∧ Hid (OwnE wr w0.heap.size vO KO) ∧ Hid (OwnE wr (w0.heap.size + 3) vM KM) ∧ Hid (∀ k, vO.ownBlock = some k → k = w0.heap.size ∨ w0.heap.size + 3 ≤ k) ∧ Hid (Apart vO vM) ∧ Hid (Box wr (w0.heap.size + 1) vO 27) ∧ Hid (Box wr (w0.heap.size + 1 + 1) vM 27) ∧ Hid (Grows w0 wr)) (fun i _ => (intOf i + 1).toNat)
  case atStart => exact ⟨n, [], [], _, _, Nat.le_refl _, rfl, by simp, Nat.le_refl _, by unfold Hid; rw [← HN.out, List.drop_length]; rfl, rfl, OI.out, OwnE.nil _ _, (fun k hk => .inl (by have h' : some w0.heap.size = some k := hk; injection h' with h'; exact h'.symm)), (fun k _ e => by cases e), XI.out, YI.out, GI.out⟩
  case round =>
    obtain ⟨j, KO, KM, vO, vM, hj, rfl, hMl, hOl, HKM, HKO, HO, HM, HOB, HAP, XO, XM, HG⟩ := hrel
    by_cases hpos : 0 < j
    · obtain ⟨k, rfl⟩ : ∃ k, j = k + 1 := ⟨j - 1, by omega⟩
      have hz : (((k + 1 : Nat) : Int) - 1) = (k : Int) := by omega
      rw [hz]
      clear hz
      obtain ⟨b, o, rfl, hb, hc⟩ := HA.out (by rw [HN.out]; omega)
      have hk2 : k < sl.length := by rw [HN.out]; omega
      obtain ⟨A', c', h1, h2, h3⟩ := hc k hk2
      have hvl := HL.out sl[k] (List.getElem_mem hk2)
      have HTA := Lib.hid (allE_drop hk2)
      obtain ⟨x, hx⟩ : ∃ x, sl[k] = x := ⟨_, rfl⟩
      rw [hx] at h1 h3 hvl HTA
      have h20 := vlayer_20 hvl
      have HVX := Lib.hid (vlayer_vent hvl)
      have HAT := Lib.hid h3
      obtain ⟨p, hp⟩ : ∃ p, x.length = p := ⟨_, rfl⟩
      have HPN := Lib.hid hp
      rw [hp] at h1 h20
      have HCE := Lib.hid h1
      clear hc h1 h2 h3 hx hvl hp
      obtain ⟨P, hP⟩ : ∃ P, allE (sl.drop (k + 1)) = P := ⟨_, rfl⟩
      rw [hP] at HKM HTA
      clear hP
      go_wp2_with fail
      go_loopw [6] (fun i wr => ∃ (q : Nat) (KO KM : List Ent) (vO vM : Value), q ≤ p ∧ i = .int .i64 q ∧ KM.length ≤ (n - (k + 1)) * 20 + q ∧ KO.length ≤ KM.length ∧ Hid (KM = firstsE (P ++ x.take q)) ∧ Hid (KO = KM.filterMap (flatOne (toldV sl))) ∧ Hid (OwnE wr w0.heap.size vO KO) ∧ Hid (OwnE wr (w0.heap.size + 3) vM KM) ∧ Hid (∀ k, vO.ownBlock = some k → k = w0.heap.size ∨ w0.heap.size + 3 ≤ k) ∧ Hid (Apart vO vM) ∧ Hid (Box wr (w0.heap.size + 1) vO 27) ∧ Hid (Box wr (w0.heap.size + 1 + 1) vM 27) ∧ Hid (Grows w0 wr)) (fun i _ => p - (intOf i).toNat)
      case atStart => exact ⟨0, KO, KM, vO, vM, Nat.zero_le _, rfl, by omega, hOl, by unfold Hid; rw [List.take_zero, List.append_nil]; exact HKM.out, HKO, HO, HM, HOB, HAP, XO, XM, HG⟩
      case round =>
        clear HKM HKO HO HM HOB HAP XO XM HG hMl hOl
        obtain ⟨q, KO, KM, vO, vM, hq, rfl, hMl, hOl, HKM, HKO, HO, HM, HOB, HAP, XO, XM, HG⟩ := hrel
        have GW : Hid (Grows w wr) := G0.out.trans HG.out
        have c0 := (GW.out.cell (p := ⟨b, o + k, none⟩) hb).trans HCE.out
        by_cases hlt : q < p
        · obtain ⟨b2, o2, rfl, hb2, hc2⟩ := HAT.out (by rw [HPN.out]; omega)
          have hq2 : q < x.length := by rw [HPN.out]; exact hlt
          have hat := (hc2 q hq2).keep hb2 GW.out
          have hve := HVX.out x[q] (List.getElem_mem hq2)
          have htk : firstsE (P ++ x.take (q + 1)) = if (KM.any fun y => y.of x[q].s x[q].k) = true then KM else KM ++ [x[q]] := by rw [List.take_succ_eq_append_getElem hq2, ← List.append_assoc, firstsE_snoc, ← HKM.out]
          have hix := fresh_idx KM x[q]
          obtain ⟨⟨es, ek, eo, ev⟩, he⟩ : ∃ e, x[q] = e := ⟨_, rfl⟩
          rw [he] at hat hve htk hix
          simp only at htk hix
          obtain ⟨d0, d1, d2, d3⟩ := hat
          simp only at d0 d1 d2 d3
          have HRE := Lib.hid (fun w1 g => HRS.out es ek w1 g)
          obtain ⟨AM, cM, hvM, hEM⟩ := HM.out.form
          subst hvM
          have hsw : w0.heap.size + 1 + 1 < wr.heap.size := XM.out.lt
          clear hc2 hve he
          go_upto_region 10 with (fail)
          have BX2 : Hid (BoxE (wr.alloc (.cells #[.string es, .string ek, .int .i64 eo, .string ev] 51)) wr.heap.size ⟨es, ek, eo, ev⟩ 51) := BoxE.new wr ⟨es, ek, eo, ev⟩ 51
          have G2 : Hid (Grows wr (wr.alloc (.cells #[.string es, .string ek, .int .i64 eo, .string ev] 51))) := (Grows.refl wr).alloc _
          obtain ⟨w2, hw2⟩ : ∃ w2, wr.alloc (.cells #[.string es, .string ek, .int .i64 eo, .string ev] 51) = w2 := ⟨_, rfl⟩
          rw [hw2] at BX2 G2 ⊢
          clear hw2 c0 d0 d1 d2 d3
          have O2 := Lib.hid (HO.out.keep G2.out)
          have M2 := Lib.hid (HM.out.keep G2.out)
          have XO2 := Lib.hid (XO.out.keep G2.out)
          have XM2 := Lib.hid (XM.out.keep G2.out)
          have HG2 : Hid (Grows w0 w2) := HG.out.trans G2.out
          have hs2 : wr.heap.size < w2.heap.size := BX2.out.lt
          have HEA := Lib.hid (entryAt_any AM cM KM es ek w2 (by omega) (hEM.keep G2.out))
          obtain ⟨be, hbe⟩ : ∃ be, wr.heap.size = be := ⟨_, rfl⟩
          have HMLT : Hid (∀ k, (Value.slice AM KM.length cM).ownBlock = some k → w0.heap.size + 3 ≤ k ∧ k < wr.heap.size) := HM.out.lt
          have HOLT : Hid (∀ k, vO.ownBlock = some k → w0.heap.size ≤ k ∧ k < wr.heap.size) := HO.out.lt
          rw [hbe] at BX2 hsw hs2 HMLT HOLT ⊢
          clear HO HM XO XM G2 hEM hbe
          obtain ⟨ix, hixx⟩ : ∃ ix, entIdx KM es ek = ix := ⟨_, rfl⟩
          rw [hixx] at HEA hix
          clear hixx
          have t0 := BX2.out.at0
          have t1 := BX2.out.at1
          have xm := XM2.out.cell
          simp only at t0 t1
          go_wp2_with fail
          refine (HEA.out).mono ?_
          rintro e w2' ⟨rfl, rfl⟩
          clear t0 t1 xm
          by_cases hy : (KM.any fun y => y.of es ek) = true
          · have hge : 0 ≤ ix := by
              unfold freshIn at hix
              simp only [hy, Bool.not_true] at hix
              have := (decide_eq_false_iff_not.1 hix.symm)
              omega
            have HK2 : Hid (KM = firstsE (P ++ x.take (q + 1))) := by unfold Hid; rw [htk, if_pos hy]
            clear htk hy hix
            go_wp2
            go_roundw
            case rel => exact ⟨q + 1, KO, KM, vO, _, by omega, by go_num, by omega, hOl, HK2, HKO, O2, M2, HOB, HAP, XO2, XM2, HG2⟩
            case measure => (simp [intOf]; try omega)
          · have hy' : (KM.any fun y => y.of es ek) = false := by simpa using hy
            have hlt0 : ix < 0 := by
              unfold freshIn at hix
              simp only [hy', Bool.not_false] at hix
              exact of_decide_eq_true hix.symm
            have HK2 : Hid (KM ++ [⟨es, ek, eo, ev⟩] = firstsE (P ++ x.take (q + 1))) := by unfold Hid; rw [htk, if_neg hy]
            have HK3 : Hid ((KM ++ [(⟨es, ek, eo, ev⟩ : Ent)]).filterMap (flatOne (toldV sl)) = KO ++ ((toldV sl es ek).map fun v => (⟨es, ek, 0, v⟩ : Ent)).toList) := by
              unfold Hid
              rw [List.filterMap_append, ← HKO.out]
              have h9 : [(⟨es, ek, eo, ev⟩ : Ent)].filterMap (flatOne (toldV sl)) = ((toldV sl es ek).map fun v => (⟨es, ek, 0, v⟩ : Ent)).toList := by
                have h8 : flatOne (toldV sl) ⟨es, ek, eo, ev⟩ = (toldV sl es ek).map fun v => (⟨es, ek, 0, v⟩ : Ent) := rfl
                cases hq : toldV sl es ek <;> rw [hq] at h8 <;> simp [h8]
              rw [h9]
            clear htk hy hy' hix
            have t0 := BX2.out.at0
            have t1 := BX2.out.at1
            have t2 := BX2.out.at2
            have t3 := BX2.out.at3
            have xm := XM2.out.cell
            simp only at t0 t1 t2 t3
            go_wp2_with (at_builtin; refine appEs rfl _ _ rfl (w0.heap.size + 3) _ KM rfl (M2.out.keep ((Grows.refl w2).alloc _)) ⟨w2.heap.size, 0, none⟩ 1 1 [⟨es, ek, eo, ev⟩] rfl rfl (by omega) (one_newsE _ ⟨es, ek, eo, ev⟩ _ rfl) (by omega) (by omega) (Nat.le_trans (show w0.heap.size + 3 ≤ w2.heap.size by omega) (by simp)) ?_)
            intro v' w6 HO6 HGB HNE
            obtain ⟨A8, n8, c8, rfl⟩ := OwnE.form3 HO6.out
            have HGA : Hid (w2.grownBy w6 (Value.slice AM KM.length cM).ownBlock) := (gb_of2 ((Grows.refl w2).alloc _) _).trans HGB.out
            have HLT6 : Hid (∀ k, (Value.slice A8 n8 c8).ownBlock = some k → k ≠ be ∧ w0.heap.size + 3 ≤ k ∧ vO.ownBlock ≠ some k) := fun k hk => by
              have h7 := (HO6.out.lt k hk).1
              rcases HNE.out k hk with h8 | h8
              · have h9 := HMLT.out k h8
                exact ⟨by omega, h7, fun e => HAP.out k e h8⟩
              · have h10 : k = w2.heap.size + 1 := by simpa using h8
                exact ⟨by omega, h7, fun e => by have := (HOLT.out k e).2; omega⟩
            have XM6 := Lib.hid (XM2.out.far HGA.out (fun e => by have := (HMLT.out _ e).1; omega))
            have XO6 := Lib.hid (XO2.out.far HGA.out (fun e => by have := (HMLT.out _ e).1; omega))
            have BX6 := Lib.hid (BX2.out.far HGA.out (fun e => by have := (HMLT.out _ e).2; omega))
            have O6 := Lib.hid (O2.out.far HGA.out (fun k hk e => HAP.out k hk e))
            have HG6 : Hid (Grows w0 w6) := HG2.out.mark HGA.out (fun k hk => by have := (HMLT.out k hk).1; omega)
            have hx6 := XM6.out.cell
            have hf6 := XM6.out.free
            have HNM : Hid ((Value.slice A8 n8 c8).ownBlock ≠ some (w0.heap.size + 1 + 1)) := fun e => by have := (HLT6.out _ e).2.1; omega
            have HNO : Hid (vO.ownBlock ≠ some (w0.heap.size + 1 + 1)) := fun e => by rcases HOB.out _ e with h | h <;> omega
            have M7 := Lib.hid (HO6.out.setFar (i := 0) HNM.out (.slice A8 n8 c8))
            have O7 := Lib.hid (O6.out.setFar (i := 0) HNO.out (.slice A8 n8 c8))
            have XM7 := Lib.hid (XM6.out.set_ (.slice A8 n8 c8))
            have XO7 : Hid (Box (w6.setCell ⟨w0.heap.size + 1 + 1, 0, none⟩ (.slice A8 n8 c8)) (w0.heap.size + 1) vO 27) := XO6.out.far (gb_set (World.grownBy.refl w6 (some (w0.heap.size + 1 + 1))) 0 (.slice A8 n8 c8)) (fun e => by have e1 := Option.some.inj e; omega)
            have BX7 : Hid (BoxE (w6.setCell ⟨w0.heap.size + 1 + 1, 0, none⟩ (.slice A8 n8 c8)) be ⟨es, ek, eo, ev⟩ 51) := BX6.out.far (gb_set (World.grownBy.refl w6 (some (w0.heap.size + 1 + 1))) 0 (.slice A8 n8 c8)) (fun e => by have e1 := Option.some.inj e; omega)
            have HG7 : Hid (Grows w0 (w6.setCell ⟨w0.heap.size + 1 + 1, 0, none⟩ (.slice A8 n8 c8))) := HG6.out.setCell (show w0.heap.size ≤ w0.heap.size + 1 + 1 by omega) _
            clear HGB HNE t0 t1 t2 t3 xm
            go_upto_region 12 with (fail)
            obtain ⟨w7, hw7⟩ : ∃ w7, w6.setCell ⟨w0.heap.size + 1 + 1, 0, none⟩ (.slice A8 n8 c8) = w7 := ⟨_, rfl⟩
            rw [hw7] at M7 O7 XM7 XO7 BX7 HG7 ⊢
            clear hw7 hx6 hf6 XM6 XO6 BX6 O6 HG6 HO6 HGA XM2 XO2 O2 M2 BX2 HG2
            have t0 := BX7.out.at0
            have t1 := BX7.out.at1
            simp only at t0 t1
            go_wp2_with fail
            refine (HRE.out _ (G0.out.trans HG7.out)).mono ?_
            rintro e w8 ⟨rfl, g8⟩
            clear t0 t1
            have M8 := Lib.hid (M7.out.keep g8)
            have O8 := Lib.hid (O7.out.keep g8)
            have XM8 := Lib.hid (XM7.out.keep g8)
            have XO8 := Lib.hid (XO7.out.keep g8)
            have BX8 := Lib.hid (BX7.out.keep g8)
            have HG8 : Hid (Grows w0 w8) := HG7.out.trans g8
            have hs8 : be < w8.heap.size := BX8.out.lt
            clear g8 M7 O7 XM7 XO7 BX7 HG7
            have HAP8 : Hid (Apart vO (.slice A8 n8 c8)) := fun k hk e => (HLT6.out k e).2.2 hk
            rcases hV : toldV sl es ek with _ | u
            · rw [hV] at HK3
              have HK4 : Hid (KO = (KM ++ [(⟨es, ek, eo, ev⟩ : Ent)]).filterMap (flatOne (toldV sl))) := by unfold Hid; rw [HK3.out]; simp
              simp only [Option.getD_none, Option.isSome_none]
              go_wp2
              go_roundw
              case rel => exact ⟨q + 1, KO, KM ++ [⟨es, ek, eo, ev⟩], vO, _, by omega, by go_num, by simp; omega, by simp; omega, HK2, HK4, O8, M8, HOB, HAP8, XO8, XM8, HG8⟩
              case measure => (simp [intOf]; try omega)
            · rw [hV] at HK3
              have HK4 : Hid (KO ++ [(⟨es, ek, 0, u⟩ : Ent)] = (KM ++ [(⟨es, ek, eo, ev⟩ : Ent)]).filterMap (flatOne (toldV sl))) := by unfold Hid; rw [HK3.out]; simp
              simp only [Option.getD_some, Option.isSome_some]
              have t0 := BX8.out.at0
              have t1 := BX8.out.at1
              have xo := XO8.out.cell
              simp only at t0 t1
              obtain ⟨AO, nO, cO, hvO⟩ := OwnE.form3 O8.out
              subst hvO
              go_wp2_with (at_builtin; refine appEs rfl _ _ rfl w0.heap.size _ KO rfl (O8.out.keep ((Grows.refl w8).alloc _)) ⟨w8.heap.size, 0, none⟩ 1 1 [⟨es, ek, 0, u⟩] rfl rfl (by omega) (one_newsE _ ⟨es, ek, 0, u⟩ _ rfl) (by omega) (by omega) (Nat.le_trans (show w0.heap.size ≤ w8.heap.size by omega) (by simp)) ?_)
              intro v' w9 HO9 HGB HNE
              obtain ⟨A9, n9, c9, rfl⟩ := OwnE.form3 HO9.out
              have HGA : Hid (w8.grownBy w9 (Value.slice AO nO cO).ownBlock) := (gb_of2 ((Grows.refl w8).alloc _) _).trans HGB.out
              have HLT9 : Hid (∀ k, (Value.slice A9 n9 c9).ownBlock = some k → (k = w0.heap.size ∨ w0.heap.size + 3 ≤ k) ∧ (Value.slice A8 n8 c8).ownBlock ≠ some k) := fun k hk => by
                rcases HNE.out k hk with h8 | h8
                · exact ⟨HOB.out k h8, fun e => HAP8.out k h8 e⟩
                · have h10 : k = w8.heap.size + 1 := by simpa using h8
                  exact ⟨.inr (by omega), fun e => by have := (M8.out.lt k e).2; omega⟩
              have XM9 := Lib.hid (XM8.out.far HGA.out (fun e => by rcases HOB.out _ e with h | h <;> omega))
              have XO9 := Lib.hid (XO8.out.far HGA.out (fun e => by rcases HOB.out _ e with h | h <;> omega))
              have M9 := Lib.hid (M8.out.far HGA.out (fun k hk e => HAP8.out k e hk))
              have HG9 : Hid (Grows w0 w9) := HG8.out.mark HGA.out (fun k hk => by rcases HOB.out k hk with h | h <;> omega)
              have hx9 := XO9.out.cell
              have hf9 := XO9.out.free
              have HN9 : Hid ((Value.slice A9 n9 c9).ownBlock ≠ some (w0.heap.size + 1)) := fun e => by rcases (HLT9.out _ e).1 with h | h <;> omega
              have HN8 : Hid ((Value.slice A8 n8 c8).ownBlock ≠ some (w0.heap.size + 1)) := fun e => by have := (M9.out.lt _ e).1; omega
              have Ma := Lib.hid (M9.out.setFar (i := 0) HN8.out (.slice A9 n9 c9))
              have Oa := Lib.hid (HO9.out.setFar (i := 0) HN9.out (.slice A9 n9 c9))
              have XOa := Lib.hid (XO9.out.set_ (.slice A9 n9 c9))
              have XMa : Hid (Box (w9.setCell ⟨w0.heap.size + 1, 0, none⟩ (.slice A9 n9 c9)) (w0.heap.size + 1 + 1) (.slice A8 n8 c8) 27) := XM9.out.far (gb_set (World.grownBy.refl w9 (some (w0.heap.size + 1))) 0 (.slice A9 n9 c9)) (fun e => by have e1 := Option.some.inj e; omega)
              have HGa : Hid (Grows w0 (w9.setCell ⟨w0.heap.size + 1, 0, none⟩ (.slice A9 n9 c9))) := HG9.out.setCell (show w0.heap.size ≤ w0.heap.size + 1 by omega) _
              have HOBa : Hid (∀ k, (Value.slice A9 n9 c9).ownBlock = some k → k = w0.heap.size ∨ w0.heap.size + 3 ≤ k) := fun k hk => (HLT9.out k hk).1
              have HAPa : Hid (Apart (.slice A9 n9 c9) (.slice A8 n8 c8)) := fun k hk e => (HLT9.out k hk).2 e
              clear HGB HNE t0 t1 xo
              go_wp2
              go_roundw
              case rel => exact ⟨q + 1, KO ++ [⟨es, ek, 0, u⟩], KM ++ [⟨es, ek, eo, ev⟩], _, _, by omega, by go_num, by simp; omega, by simp; omega, HK2, HK4, Oa, Ma, HOBa, HAPa, XOa, XMa, HGa⟩
              case measure => (simp [intOf]; try omega)
        · obtain rfl : q = p := by omega
          have HK2 : Hid (KM = firstsE (allE (sl.drop k))) := by
            have h := HKM.out
            rw [List.take_of_length_le (by rw [HPN.out]; exact Nat.le_refl _)] at h
            unfold Hid
            rw [HTA.out]
            exact h
          go_wp2
          go_roundw
          case rel => exact ⟨k, KO, KM, vO, vM, by omega, by go_num, by omega, hOl, HK2, HKO, HO, HM, HOB, HAP, XO, XM, HG⟩
          case measure => (simp [intOf]; try omega)
    · obtain rfl : j = 0 := by omega
      have HR : Hid (KO = flatR sl) := by unfold Hid flatR; rw [HKO.out, HKM.out, List.drop_zero]
      obtain ⟨AO, nO, cO, hvO⟩ := OwnE.form3 HO.out
      subst hvO
      have XRr := Lib.hid (XR.out.keep HG.out)
      have xo := XO.out.cell
      have h1 := XRr.out.cell
      have h2 := XRr.out.free
      have HNr : Hid ((Value.slice AO nO cO).ownBlock ≠ some w.heap.size) := fun e => by have := (HO.out.lt _ e).1; omega
      have Of := Lib.hid ((HO.out.setFar (i := 0) HNr.out (.slice AO nO cO)).less (show w.heap.size ≤ w0.heap.size by omega))
      have Gf : Hid (Grows w (wr.setCell ⟨w.heap.size, 0, none⟩ (.slice AO nO cO))) := (G0.out.trans HG.out).setCell (Nat.le_refl _) _
      have Xf := Lib.hid (XRr.out.set_ (.slice AO nO cO))
      go_wp2
      have hz := Xf.out.cell
      refine bodyPost_ret (v := .agg #[.slice AO nO cO]) (by simp [results, Tryd.results27, go_sem, hz]) rfl ?_
      rw [← HR.out]
      exact ⟨_, rfl, Of.out, Gf.out⟩

set_option maxRecDepth 100000 in
set_option maxHeartbeats 4000000 in
theorem specFlatten_any (A : Option Addr) (c : Nat) (sl : List (List Ent)) (w : World) (hn : sl.length ≤ 1048576) (hf : ∀ l ∈ sl, EFit l) (hA : StackAt w A sl) :
    Calls Tryd.prog 8 #[.slice A sl.length c] w (ResEB (flatL sl) (flatB sl) w) := by
  have HS := Lib.hid (fun w1 (g : Grows w w1) => specStack_any A c sl w1 hn hf (hA.keep g))
  by_cases hv : vstack sl = true
  · have HFN := Lib.hid (fun w1 (g : Grows w w1) => specFlattened_any A c sl w1 hv (hA.keep g))
    have HPE := Lib.hid (flatL_yes hv)
    have HFR := Lib.hid (flatR_fit hv)
    unfold ResE at HFN
    rw [hv] at HS
    clear hf hA hv
    go_enter Tryd.func8, Tryd.ntmps8
    go_upto_region 1 with (fail)
    have XR : Hid (Box (w.alloc (.cells #[.slice none 0 0] 27)) w.heap.size (.slice none 0 0) 27) := heap_alloc_new w _
    have G0 : Hid (Grows w (w.alloc (.cells #[.slice none 0 0] 27))) := (Grows.refl w).alloc _
    obtain ⟨w0, hw0⟩ : ∃ w0, w.alloc (.cells #[.slice none 0 0] 27) = w0 := ⟨_, rfl⟩
    rw [hw0] at XR G0 ⊢
    clear hw0
    have S0 : w.heap.size < w0.heap.size := XR.out.lt
    go_wp2_with fail
    refine (HS.out _ G0.out).mono ?_
    rintro e w1 ⟨rfl, g1⟩
    have G1 : Hid (Grows w w1) := G0.out.trans g1
    have XR1 := Lib.hid (XR.out.keep g1)
    have S1 : w0.heap.size ≤ w1.heap.size := g1.size
    clear g1 XR
    go_wp2_with fail
    refine (HFN.out _ G1.out).mono ?_
    rintro e w2 ⟨v, rfl, hv, g2⟩
    have G2 : Hid (Grows w w2) := G1.out.trans g2
    have XR2 := Lib.hid (XR1.out.keep g2)
    obtain ⟨A5, c5, hv5, hcap, hE5⟩ := OwnE.formC hv
    subst hv5
    have HO2 := Lib.hid hv
    have HL := Lib.hid (fun w1 (g : Grows w2 w1) => specLayer_any A5 c5 (flatR sl) w1 hcap HFR.out (hE5.keep g))
    obtain ⟨β, hβ⟩ : ∃ β, vlayer (flatR sl) = β := ⟨_, rfl⟩
    have HCK : Hid (chkE (flatR sl) = if β = true then flatR sl else []) := by unfold Hid chkE; rw [hβ]
    rw [hβ] at HPE HL
    obtain ⟨n5, hn5⟩ : ∃ n5, (flatR sl).length = n5 := ⟨_, rfl⟩
    rw [hn5] at HO2 HL ⊢
    have S2 : w.heap.size < w2.heap.size := XR2.out.lt
    clear g2 hv hcap hE5 hβ hn5 HFN XR1
    have X6 : Hid (Box (w2.alloc (.cells #[.slice A5 n5 c5] 27)) w2.heap.size (.slice A5 n5 c5) 27) := Box.new _ _ _
    go_wp2_with fail
    refine (HL.out _ ((Grows.refl _).alloc _)).mono ?_
    rintro r w5 ⟨rfl, g5⟩
    have G5 : Hid (Grows w w5) := (G2.out.alloc _).trans g5
    have X65 := Lib.hid (X6.out.keep g5)
    have XR5 := Lib.hid ((XR2.out.keep ((Grows.refl _).alloc _)).keep g5)
    have HO5 := Lib.hid ((HO2.out.keep ((Grows.refl _).alloc _)).keep g5)
    clear g5
    have c6 := X65.out.cell
    have h1 := XR5.out.cell
    have h2 := XR5.out.free
    rcases β with _ | _
    · go_wp2
      refine bodyPost_ret (v := .tuple #[.agg #[.slice none 0 0], .bool false]) (by simp [results, Tryd.results8, go_sem, h1]) rfl ?_
      rw [HPE.out.1, HPE.out.2, show chkE (flatR sl) = [] from by rw [HCK.out]; simp]
      exact ⟨_, rfl, OwnE.nil _ _, G5.out.setCell (Nat.le_refl _) _⟩
    · go_wp2
      refine bodyPost_ret (v := .tuple #[.agg #[.slice A5 n5 c5], .bool true]) (by simp [results, Tryd.results8, go_sem, h1]) rfl ?_
      rw [HPE.out.1, HPE.out.2, show chkE (flatR sl) = flatR sl from by rw [HCK.out]; simp]
      exact ⟨_, rfl, (HO5.out.setOther (by omega) _).less (by omega), G5.out.setCell (Nat.le_refl _) _⟩
  · have hv' : vstack sl = false := by simpa using hv
    have HPE := Lib.hid (flatL_no hv')
    rw [hv'] at HS
    clear hf hA hv hv'
    go_enter Tryd.func8, Tryd.ntmps8
    go_upto_region 1 with (fail)
    have XR : Hid (Box (w.alloc (.cells #[.slice none 0 0] 27)) w.heap.size (.slice none 0 0) 27) := heap_alloc_new w _
    have G0 : Hid (Grows w (w.alloc (.cells #[.slice none 0 0] 27))) := (Grows.refl w).alloc _
    obtain ⟨w0, hw0⟩ : ∃ w0, w.alloc (.cells #[.slice none 0 0] 27) = w0 := ⟨_, rfl⟩
    rw [hw0] at XR G0 ⊢
    clear hw0
    go_wp2_with fail
    refine (HS.out _ G0.out).mono ?_
    rintro e w1 ⟨rfl, g1⟩
    have G1 : Hid (Grows w w1) := G0.out.trans g1
    have XR1 := Lib.hid (XR.out.keep g1)
    clear g1 XR
    have h1 := XR1.out.cell
    have h2 := XR1.out.free
    go_wp2
    refine bodyPost_ret (v := .tuple #[.agg #[.slice none 0 0], .bool false]) (by simp [results, Tryd.results8, go_sem, h1]) rfl ?_
    rw [HPE.out.1, HPE.out.2]
    exact ⟨_, rfl, OwnE.nil _ _, G1.out.setCell (Nat.le_refl _) _⟩
end Go.Proofs.YtddecipodofliaaDoor
