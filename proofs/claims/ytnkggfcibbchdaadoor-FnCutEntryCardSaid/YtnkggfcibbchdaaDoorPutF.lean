/-
  An entry put into a layer: PutEntry of both sides. Conditions: parts of at most 1048576 bytes, at most 1048570 entries.
-/
import Derived.Test.YtnkggfcibbchdaaDoorPutE
import Derived.Test.YtnkggfcibbchdaaDoorLawVL
namespace Go.Proofs.YtnkggfcibbchdaaDoor
open Go.RowKit

theorem efit_of {e : Ent} {m : Int} (h : (e.size : Int) ≤ m) (hm : m ≤ 1048576) : e.fits := by
  unfold Ent.size at h
  unfold Ent.fits
  omega
theorem putE_20 (es : List Ent) (e : Ent) : (putE es e).length ≤ 20 := by
  unfold putE
  split
  · unfold chkE
    split
    · rename_i h
      exact vlayer_20 h
    · simp
  · simp
theorem eqPlace (a b c d : ByteArray) (w : World) : (binOp .eql 60 (.agg #[.string a, .string b]) (.agg #[.string c, .string d])).run Tryd.prog w = .ok (.bool ((a.toList == c.toList) && (b.toList == d.toList))) w := by
  go_simp
  repeat' split
  all_goals simp_all

set_option maxRecDepth 100000 in
set_option maxHeartbeats 4000000 in
theorem implPutE_any (A : Option Addr) (c : Nat) (es : List Ent) (e : Ent) (w : World) (_hc0 : es.length ≤ c) (hf : EFit es) (he : e.fits) (hA : EntsAt w A es) :
    Calls Tryd.prog 22 #[.agg #[.slice A es.length c], e.agg] w (ResEB (putE es e) (putB es e) w) := by
  have HV := Lib.hid (fun w1 (g : Grows w w1) => implLayer_any A c es w1 hf (hA.keep g))
  by_cases hv : vlayer es = true
  · rw [hv] at HV
    have hn : es.length ≤ 1048570 := by have := vlayer_20 hv; omega
    have HCL := Lib.hid (fun w1 (g : Grows w w1) => cloneE_any A c es w1 (by omega) (hA.keep g))
    unfold RetE at HCL
    have HFR : Hid (EFit (putR es e)) := putR_fit hf (by omega) he
    clear hA
    have HPE : Hid (putE es e = chkE (putR es e) ∧ putB es e = vlayer (putR es e)) := ⟨by unfold putE; rw [if_pos hv], by unfold putB; rw [hv, Bool.true_and]⟩
    clear hv hf he
    unfold Ent.agg
    go_enter Tryd.func22, Tryd.ntmps22
    go_upto_region 1 with (fail)
    have XL : Hid (Box (((w.alloc (.cells #[.slice A es.length c] 25)).alloc (.cells #[.string e.s, .string e.k, .int .i64 e.op, .string e.v] 36)).alloc (.cells #[.slice none 0 0] 25)) w.heap.size (.slice A es.length c) 25) := row_grow (row_grow (heap_alloc_new w _) ((Grows.refl _).alloc _)) ((Grows.refl _).alloc _)
    have BE : Hid (BoxE (((w.alloc (.cells #[.slice A es.length c] 25)).alloc (.cells #[.string e.s, .string e.k, .int .i64 e.op, .string e.v] 36)).alloc (.cells #[.slice none 0 0] 25)) (w.heap.size + 1) e 36) := row_grow (alloc_new2 w _ _) ((Grows.refl _).alloc _)
    have XR : Hid (Box (((w.alloc (.cells #[.slice A es.length c] 25)).alloc (.cells #[.string e.s, .string e.k, .int .i64 e.op, .string e.v] 36)).alloc (.cells #[.slice none 0 0] 25)) (w.heap.size + 1 + 1) (.slice none 0 0) 25) := alloc_new3 w _ _ _
    have G0 : Hid (Grows w (((w.alloc (.cells #[.slice A es.length c] 25)).alloc (.cells #[.string e.s, .string e.k, .int .i64 e.op, .string e.v] 36)).alloc (.cells #[.slice none 0 0] 25))) := (((Grows.refl w).alloc _).alloc _).alloc _
    obtain ⟨w0, hw0⟩ : ∃ w0, (((w.alloc (.cells #[.slice A es.length c] 25)).alloc (.cells #[.string e.s, .string e.k, .int .i64 e.op, .string e.v] 36)).alloc (.cells #[.slice none 0 0] 25)) = w0 := ⟨_, rfl⟩
    rw [hw0] at XL BE XR G0 ⊢
    clear hw0
    have S0 : w.heap.size + 1 + 1 < w0.heap.size := XR.out.lt
    obtain ⟨n, hnn⟩ : ∃ n, es.length = n := ⟨_, rfl⟩
    rw [hnn] at HV XL hn HCL ⊢
    have HNN := Lib.hid hnn
    clear hnn
    have cXL := XL.out.cell
    go_wp2_with fail
    refine (HV.out _ G0.out).mono ?_
    rintro r w1 ⟨rfl, g1⟩
    have G1 : Hid (Grows w w1) := G0.out.trans g1
    have XL1 := Lib.hid (XL.out.keep g1)
    have BE1 := Lib.hid (BE.out.keep g1)
    have XR1 := Lib.hid (XR.out.keep g1)
    have S1 : w0.heap.size ≤ w1.heap.size := g1.size
    clear g1 cXL XL BE XR
    have cXL := XL1.out.cell
    go_wp2_with fail
    refine (HCL.out _ G1.out).mono ?_
    rintro r w2 ⟨v, rfl, hv, g2⟩
    have G2 : Hid (Grows w w2) := G1.out.trans g2
    have XR2 := Lib.hid (XR1.out.keep g2)
    have BE2 := Lib.hid (BE1.out.keep g2)
    have HO2 := Lib.hid hv
    have S2 : w1.heap.size ≤ w2.heap.size := g2.size
    clear g2 hv cXL XL1 BE1 XR1 HCL HV
    obtain ⟨A1, c1, hv1, hE1⟩ := OwnE.form HO2.out
    rw [HNN.out] at hv1
    subst hv1
    have HE1 := Lib.hid hE1
    clear hE1
    have HP := Lib.hid (fun x w => placeOf_any x w)
    have HPe := Lib.hid (fun w => placeOf_any e w)
    unfold Ent.agg at HP HPe
    go_wp2_with fail
    go_loopw [17] (fun i wr => ∃ k : Nat, k ≤ n ∧ i = .int .i64 k ∧ Hid (NoneE es e.s e.k k) ∧ Hid (Grows w2 wr)) (fun i _ => n - (intOf i).toNat)
    case atStart => exact ⟨0, Nat.zero_le _, rfl, NoneE.zero _ _ _, Grows.refl _⟩
    case round =>
      obtain ⟨k, hk, rfl, HNO, HG⟩ := hrel
      have BER := Lib.hid (BE2.out.keep HG.out)
      have b0 := BER.out.at0
      have b1 := BER.out.at1
      have b2 := BER.out.at2
      have b3 := BER.out.at3
      by_cases hlt : k < n
      · have hk2 : k < es.length := by rw [HNN.out]; exact hlt
        obtain ⟨bb, oo, rfl, hbb, hcc⟩ := HE1.out (by omega)
        obtain ⟨z0, z1, z2, z3⟩ := (hcc k hk2).keep hbb HG.out
        obtain ⟨x, hx⟩ : ∃ x, es[k] = x := ⟨_, rfl⟩
        rw [hx] at z0 z1 z2 z3
        have HX := Lib.hid hx
        clear hx hcc
        have heq := fun w => eqPlace x.s x.k e.s e.k w
        obtain ⟨of_, hof⟩ : ∃ b, ((x.s.toList == e.s.toList) && (x.k.toList == e.k.toList)) = b := ⟨_, rfl⟩
        rw [hof] at heq
        have HOF : Hid (x.of e.s e.k = of_) := hof
        clear hof
        go_wp2_with fail
        refine wp_region_M 7 (CellsAre [(⟨bb, oo + k * 4, none⟩, .string x.s), (⟨bb, oo + k * 4 + 1, none⟩, .string x.k), (⟨bb, oo + k * 4 + 2, none⟩, .int .i64 x.op), (⟨bb, oo + k * 4 + 3, none⟩, .string x.v), (⟨w.heap.size + 1, 0, none⟩, .string e.s), (⟨w.heap.size + 1, 1, none⟩, .string e.k), (⟨w.heap.size + 1, 2, none⟩, .int .i64 e.op), (⟨w.heap.size + 1, 3, none⟩, .string e.v)]) (by kernel_rfl) (by kernel_rfl) ⟨z0, z1, z2, z3, b0, b1, b2, b3, trivial⟩ (fun hB hS => ?_)
        refine wpAnyM_take (i := 0) (v := ?va0) hB rfl (by kernel_rfl) (fun _ _ _ h => h) (by rfl) ?ya0 hS ?na0
        case ya0 => (intro w9 hSw; obtain ⟨s1, s2, s3, s4, s5, s6, s7, s8, _⟩ := hSw; go_simp; try with_reducible rfl)
        refine wpAnyM_take (i := 1) (v := ?va1) hB rfl (by kernel_rfl) (fun _ _ _ h => h) (by rfl) ?ya1 hS ?na1
        case ya1 => (intro w9 hSw; obtain ⟨s1, s2, s3, s4, s5, s6, s7, s8, _⟩ := hSw; go_simp; try with_reducible rfl)
        refine wpAnyM_take (i := 2) (v := ?va2) hB rfl (by kernel_rfl) (fun _ _ _ h => h) (by rfl) ?ya2 hS ?na2
        case ya2 => (intro w9 hSw; obtain ⟨s1, s2, s3, s4, s5, s6, s7, s8, _⟩ := hSw; go_simp; try with_reducible rfl)
        refine wpAnyM_take (i := 3) (v := ?va3) hB rfl (by kernel_rfl) (fun _ _ _ h => h) (by rfl) ?ya3 hS ?na3
        case ya3 => (intro w9 hSw; obtain ⟨s1, s2, s3, s4, s5, s6, s7, s8, _⟩ := hSw; go_simp; try with_reducible rfl)
        refine wpAnyM_take (i := 5) (v := ?va5) hB rfl (by kernel_rfl) (fun _ _ _ h => h) (by rfl) ?ya5 hS ?na5
        case ya5 => (intro w9 hSw; obtain ⟨s1, s2, s3, s4, s5, s6, s7, s8, _⟩ := hSw; go_simp; try with_reducible rfl)
        have HS := Lib.hid hS
        clear hS b0 b1 b2 b3 z0 z1 z2 z3
        refine wpAnyM_one (i := 4) rfl (by kernel_rfl) rfl ?_
        go_wp2_with fail
        refine (HP.out x _).mono ?_
        rintro r w3 ⟨rfl, g3⟩
        have HS3 := Lib.hid (CellsAre.keep HS.out g3)
        have G3 : Hid (Grows wr w3) := (Grows.refl _).drew.trans g3
        clear g3 HS
        go_wp2_with fail
        refine ⟨HS3.out, ?_⟩
        refine wpAnyM_one (i := 6) rfl (by kernel_rfl) rfl ?_
        go_wp2_with fail
        refine (HPe.out _).mono ?_
        rintro r w4 ⟨rfl, g4⟩
        have HS4 := Lib.hid (CellsAre.keep HS3.out g4)
        have G4 : Hid (Grows wr w4) := G3.out.trans g4
        clear g4 HS3
        go_wp2_with fail
        refine ⟨HS4.out, ?_⟩
        refine wpAnyM_tail (by kernel_rfl) ?_
        clear hB HS4
        have G24 : Hid (Grows w2 w4) := HG.out.trans G4.out
        rcases of_ with _ | _
        · have HNS : Hid (NoneE es e.s e.k (k + 1)) := HNO.out.succ hk2 (by rw [HX.out]; exact HOF.out)
          go_wp2
          go_roundw
          case rel => exact ⟨k + 1, by omega, by go_num, HNS.out, G24.out⟩
          case measure => simp [intOf]; omega
        · have HID : Hid (entIdx es e.s e.k = (k : Int)) := by
            unfold Hid entIdx
            rw [entFrom_at e.s e.k es 0 k HNO.out hk2 (by rw [HX.out]; exact HOF.out), Nat.zero_add]
          have HPV : Hid (putR es e = es.set k e) := by
            unfold Hid putR
            rw [HID.out, if_pos (by omega)]
            rfl
          have BE4 := Lib.hid (BE2.out.keep G24.out)
          have XR4 := Lib.hid (XR2.out.keep G24.out)
          have O4 := Lib.hid (HO2.out.keep G24.out)
          have G4w : Hid (Grows w w4) := G2.out.trans G24.out
          have b0 := BE4.out.at0
          have b1 := BE4.out.at1
          have b2 := BE4.out.at2
          have b3 := BE4.out.at3
          obtain ⟨g, cv, hv9, hg0, hg1⟩ := O4.out.row2 (by omega)
          injection hv9 with hv91 hv92 hv93
          injection hv91 with hv91
          injection hv91 with hv911 hv912
          subst hv911
          subst hv912
          obtain ⟨v0, e0⟩ := O4.out.some_ HNN.out hk2 (d := 0) (by decide)
          obtain ⟨v1, e1⟩ := O4.out.some_ HNN.out hk2 (d := 1) (by decide)
          obtain ⟨v2, e2⟩ := O4.out.some_ HNN.out hk2 (d := 2) (by decide)
          obtain ⟨v3, e3⟩ := O4.out.some_ HNN.out hk2 (d := 3) (by decide)
          rw [Nat.add_zero] at e0
          have f0 := O4.out.free (k * 4)
          have f1 := O4.out.free (k * 4 + 1)
          have f2 := O4.out.free (k * 4 + 2)
          have f3 := O4.out.free (k * 4 + 3)
          have O6 := Lib.hid (O4.out.setEnt HNN.out hk2 e)
          have XR6 := Lib.hid (XR4.out.far (gb_st4 w4 bb (k * 4) e) (by intro q; injection q with q; omega))
          have G6 : Hid (Grows w (st4 w4 bb (k * 4) e)) := G4w.out.mark (gb_st4 w4 bb (k * 4) e) (fun i hi => by injection hi with hi; omega)
          clear hv92 hv93
          go_upto_region 9 with (fail)
          change Code.wp _ _ _ _ (st4 w4 bb (k * 4) e)
          obtain ⟨w6, hw6⟩ : ∃ w6, st4 w4 bb (k * 4) e = w6 := ⟨_, rfl⟩
          rw [hw6] at O6 G6 XR6 ⊢
          clear hw6 e0 e1 e2 e3 f0 f1 f2 f3 b0 b1 b2 b3
          have hO6 := O6.out
          rw [← HPV.out] at hO6
          have HCK := Lib.hid (validEntries_any _ w1.heap.size (putR es e) w6 HFR.out hO6)
          unfold ChkRetE at HCK
          clear hO6
          go_wp2_with fail
          refine (HCK.out).mono ?_
          rintro r w9 ⟨u, rfl, hu, g9⟩
          have G9 : Hid (Grows w w9) := G6.out.trans g9
          have XR9 := Lib.hid (XR6.out.keep g9)
          obtain ⟨A5, n5, c5, hv5⟩ := OwnE.form3 hu
          subst hv5
          have HU := Lib.hid hu
          clear g9 hu
          have h1 := XR9.out.cell
          have h2 := XR9.out.free
          obtain ⟨β, hβ⟩ : ∃ β, vlayer (putR es e) = β := ⟨_, rfl⟩
          rw [hβ] at HPE ⊢
          clear hβ
          go_wp2
          refine bodyPost_ret (v := .tuple #[.agg #[.slice A5 n5 c5], .bool β]) (by simp [results, Tryd.results22, go_sem, h1]) rfl ?_
          rw [HPE.out.1, HPE.out.2]
          exact ⟨_, rfl, (HU.out.setOther (by omega) _).less (by omega), G9.out.setCell (show w.heap.size ≤ w.heap.size + 1 + 1 by omega) _⟩
      · obtain rfl : k = n := by omega
        have HID : Hid (entIdx es e.s e.k = -1) := entFrom_none e.s e.k es 0 (by rw [HNN.out]; exact HNO.out)
        have HPV : Hid (putR es e = es ++ [e]) := by
          unfold Hid putR
          rw [HID.out, if_neg (by omega)]
        have GRw : Hid (Grows w wr) := G2.out.trans HG.out
        have OR := Lib.hid (HO2.out.keep HG.out)
        have XRR := Lib.hid (XR2.out.keep HG.out)
        have hbs : w1.heap.size ≤ wr.heap.size := Nat.le_trans S2 HG.out.size
        have hOal := Lib.hid (OR.out.keep ((Grows.refl wr).alloc (.cells #[.string e.s, .string e.k, .int .i64 e.op, .string e.v] 36)))
        have hkn := HNN.out
        go_wp2_with (at_builtin; refine appEs rfl _ _ rfl w1.heap.size _ es rfl hOal.out ⟨wr.heap.size, 0, none⟩ 1 1 [e] rfl rfl (by omega) (one_newsE wr e _ rfl) (by omega) (by omega) (Nat.le_trans hbs (by simp)) ?_)
        intro v' w6 HO6 HGB HNE
        have G6 : Hid (Grows w w6) := (GRw.out.alloc (.cells #[.string e.s, .string e.k, .int .i64 e.op, .string e.v] 36)).mark HGB.out (fun i hi => by have := (hOal.out.lt i hi).1; omega)
        have XR6 := Lib.hid ((XRR.out.keep ((Grows.refl wr).alloc (.cells #[.string e.s, .string e.k, .int .i64 e.op, .string e.v] 36))).far HGB.out (fun q => by have := (hOal.out.lt _ q).1; omega))
        clear HGB HNE b0 b1 b2 b3
        have hO6 := HO6.out
        rw [← HPV.out] at hO6
        have HCK := Lib.hid (validEntries_any _ w1.heap.size (putR es e) w6 HFR.out hO6)
        unfold ChkRetE at HCK
        clear hO6
        go_wp2_with fail
        refine (HCK.out).mono ?_
        rintro r w9 ⟨u, rfl, hu, g9⟩
        have G9 : Hid (Grows w w9) := G6.out.trans g9
        have XR9 := Lib.hid (XR6.out.keep g9)
        obtain ⟨A5, n5, c5, hv5⟩ := OwnE.form3 hu
        subst hv5
        have HU := Lib.hid hu
        clear g9 hu
        have h1 := XR9.out.cell
        have h2 := XR9.out.free
        obtain ⟨β, hβ⟩ : ∃ β, vlayer (putR es e) = β := ⟨_, rfl⟩
        rw [hβ] at HPE ⊢
        clear hβ
        go_wp2
        refine bodyPost_ret (v := .tuple #[.agg #[.slice A5 n5 c5], .bool β]) (by simp [results, Tryd.results22, go_sem, h1]) rfl ?_
        rw [HPE.out.1, HPE.out.2]
        exact ⟨_, rfl, (HU.out.setOther (by omega) _).less (by omega), G9.out.setCell (show w.heap.size ≤ w.heap.size + 1 + 1 by omega) _⟩
  · have hv' : vlayer es = false := by simpa using hv
    rw [hv'] at HV
    have HPE : Hid (putE es e = [] ∧ putB es e = false) := ⟨by unfold putE; rw [if_neg hv], by unfold putB; rw [hv', Bool.false_and]⟩
    have hn : es.length ≤ 1048576 := hf.1
    clear hv hv' hf he hA
    unfold Ent.agg
    go_enter Tryd.func22, Tryd.ntmps22
    go_upto_region 1 with (fail)
    have XL : Hid (Box (((w.alloc (.cells #[.slice A es.length c] 25)).alloc (.cells #[.string e.s, .string e.k, .int .i64 e.op, .string e.v] 36)).alloc (.cells #[.slice none 0 0] 25)) w.heap.size (.slice A es.length c) 25) := row_grow (row_grow (heap_alloc_new w _) ((Grows.refl _).alloc _)) ((Grows.refl _).alloc _)
    have BE : Hid (BoxE (((w.alloc (.cells #[.slice A es.length c] 25)).alloc (.cells #[.string e.s, .string e.k, .int .i64 e.op, .string e.v] 36)).alloc (.cells #[.slice none 0 0] 25)) (w.heap.size + 1) e 36) := row_grow (alloc_new2 w _ _) ((Grows.refl _).alloc _)
    have XR : Hid (Box (((w.alloc (.cells #[.slice A es.length c] 25)).alloc (.cells #[.string e.s, .string e.k, .int .i64 e.op, .string e.v] 36)).alloc (.cells #[.slice none 0 0] 25)) (w.heap.size + 1 + 1) (.slice none 0 0) 25) := alloc_new3 w _ _ _
    have G0 : Hid (Grows w (((w.alloc (.cells #[.slice A es.length c] 25)).alloc (.cells #[.string e.s, .string e.k, .int .i64 e.op, .string e.v] 36)).alloc (.cells #[.slice none 0 0] 25))) := (((Grows.refl w).alloc _).alloc _).alloc _
    obtain ⟨w0, hw0⟩ : ∃ w0, (((w.alloc (.cells #[.slice A es.length c] 25)).alloc (.cells #[.string e.s, .string e.k, .int .i64 e.op, .string e.v] 36)).alloc (.cells #[.slice none 0 0] 25)) = w0 := ⟨_, rfl⟩
    rw [hw0] at XL BE XR G0 ⊢
    clear hw0
    have S0 : w.heap.size + 1 + 1 < w0.heap.size := XR.out.lt
    obtain ⟨n, hnn⟩ : ∃ n, es.length = n := ⟨_, rfl⟩
    rw [hnn] at HV XL hn ⊢
    have HNN := Lib.hid hnn
    clear hnn
    have cXL := XL.out.cell
    go_wp2_with fail
    refine (HV.out _ G0.out).mono ?_
    rintro r w1 ⟨rfl, g1⟩
    have G1 : Hid (Grows w w1) := G0.out.trans g1
    have XL1 := Lib.hid (XL.out.keep g1)
    have BE1 := Lib.hid (BE.out.keep g1)
    have XR1 := Lib.hid (XR.out.keep g1)
    have S1 : w0.heap.size ≤ w1.heap.size := g1.size
    clear g1 cXL XL BE XR
    have h1 := XR1.out.cell
    have h2 := XR1.out.free
    go_wp2
    refine bodyPost_ret (v := .tuple #[.agg #[.slice none 0 0], .bool false]) (by simp [results, Tryd.results22, go_sem, h1]) rfl ?_
    rw [HPE.out.1, HPE.out.2]
    exact ⟨_, rfl, OwnE.nil _ _, G1.out.setCell (show w.heap.size ≤ w.heap.size + 1 + 1 by omega) _⟩
end Go.Proofs.YtnkggfcibbchdaaDoor
