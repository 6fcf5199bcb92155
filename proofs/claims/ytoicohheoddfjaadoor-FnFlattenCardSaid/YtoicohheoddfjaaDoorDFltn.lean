/-
  The drawn law of Flatten: whatever its bytes, it returns true. Condition: no more bytes than a slice may have.
-/
import Derived.Test.YtoicohheoddfjaaDoorStkG
import Derived.Test.YtoicohheoddfjaaDoorFltX
import Derived.Test.YtoicohheoddfjaaDoorFltS
import Derived.Test.YtoicohheoddfjaaDoorLayH
namespace Go.Proofs.YtoicohheoddfjaaDoor
open Go.RowKit

theorem find_flat (V : PV) (s k : ByteArray) : ∀ F : List Ent, (F.filterMap (flatOne V)).find? (fun x => x.of s k) = if (F.any fun x => x.of s k) = true then (V s k).map (fun v => (⟨s, k, 0, v⟩ : Ent)) else none := by
  intro F
  induction F with
  | nil => rfl
  | cons e t ih =>
    have hfl : flatOne V e = (V e.s e.k).map fun v => (⟨e.s, e.k, 0, v⟩ : Ent) := rfl
    by_cases he : e.of s k = true
    · obtain ⟨h1, h2⟩ := (of_iff e s k).1 he
      rw [if_pos (by rw [List.any_cons, he]; rfl)]
      cases hV : V s k with
      | none =>
        have h3 : flatOne V e = none := by rw [hfl, h1, h2, hV]; rfl
        rw [List.filterMap_cons_none h3, ih, hV]
        split <;> rfl
      | some v =>
        have h3 : flatOne V e = some ⟨s, k, 0, v⟩ := by rw [hfl, h1, h2, hV]; rfl
        rw [List.filterMap_cons_some h3, List.find?_cons_of_pos (p := fun x : Ent => x.of s k) ((of_iff _ s k).2 ⟨rfl, rfl⟩)]
        rfl
    · have he' : e.of s k = false := by simpa using he
      have ha : ((e :: t).any fun x => x.of s k) = t.any fun x => x.of s k := by rw [List.any_cons, he', Bool.false_or]
      rw [ha]
      cases hV : V e.s e.k with
      | none =>
        have h3 : flatOne V e = none := by rw [hfl, hV]; rfl
        rw [List.filterMap_cons_none h3, ih]
      | some v =>
        have h3 : flatOne V e = some ⟨e.s, e.k, 0, v⟩ := by rw [hfl, hV]; rfl
        rw [List.filterMap_cons_some h3, List.find?_cons_of_neg (p := fun x : Ent => x.of s k) (by
          intro h4
          have h5 : e.of s k = true := h4
          rw [h5] at he'
          cases he'), ih]
theorem foldV_none (s k : ByteArray) : ∀ (es : List Ent) (V : PV), (es.any fun x => x.of s k) = false → foldV es V s k = V s k := by
  intro es
  induction es with
  | nil => intro V _; rfl
  | cons e t ih =>
    intro V h
    rw [List.any_cons, Bool.or_eq_false_iff] at h
    have h1 : foldV (e :: t) V = foldV t (layV V e) := rfl
    rw [h1, ih _ h.2]
    unfold layV
    rw [if_neg (by rw [h.1]; simp)]
theorem told_flat {sl : List (List Ent)} (h : distE (flatR sl) = true) (s k : ByteArray) : toldV [flatR sl] s k = toldV sl s k := by
  rw [told_one _ h]
  have h1 : (flatR sl).find? (fun x => x.of s k) = if ((allE sl).any fun x => x.of s k) = true then (toldV sl s k).map (fun v => (⟨s, k, 0, v⟩ : Ent)) else none := by
    unfold flatR
    rw [find_flat, firstsE_any]
  rw [h1]
  by_cases ha : ((allE sl).any fun x => x.of s k) = true
  · rw [if_pos ha]
    cases toldV sl s k <;> rfl
  · have ha' : ((allE sl).any fun x => x.of s k) = false := by simpa using ha
    rw [if_neg ha]
    have h2 : toldV sl s k = none := by
      unfold toldV
      rw [foldV_none s k _ _ ha']
      rfl
    rw [h2]
theorem tell_flat {sl : List (List Ent)} (h : flatB sl = true) (s k : ByteArray) : tellS [flatL sl] s k = tellS sl s k ∧ tellB [flatL sl] s k = tellB sl s k := by
  obtain ⟨h1, h2, h3⟩ := flatB_yes h
  rw [h3]
  obtain ⟨a1, a2⟩ := tell_yes (sl := [flatR sl]) (by rw [vstack_one]; exact h2) s k
  obtain ⟨b1, b2⟩ := tell_yes h1 s k
  rw [a1, a2, b1, b2, told_flat (vlayer_dist h2)]
  exact ⟨rfl, rfl⟩

set_option maxRecDepth 100000 in
set_option maxHeartbeats 8000000 in
theorem dFltn_any (A : Option Addr) (n c : Nat) (w : World) (hn : n ≤ maxLen) (hc : n ≤ c) (h : BytesAt w A n) :
    Calls Tryd.prog 3 #[.slice A n c] w fun e w' => e = .returned (.bool true) ∧ Below w.heap.size w w' := by
  by_cases hbig : 1048576 < n
  · clear h
    unfold maxLen at hn
    go_enter Tryd.func3, Tryd.ntmps3
    go_wp2
    go_ret
    exact ⟨rfl, (Grows.refl _).below⟩
  · have HD := Lib.hid (DrawFlatten_any A n c w hn hc h)
    clear h
    unfold maxLen at hn
    go_enter Tryd.func3, Tryd.ntmps3
    go_wp2_with fail
    refine (HD.out).mono ?_
    rintro e w1 ⟨v, sl, rfl, hS, hO, g1⟩
    obtain ⟨A0, c0, rfl, hSt⟩ := hO.form
    have hf := hS.fit
    have hn6 := hS.1
    have HSK := Lib.hid (fun l (hl : l ∈ sl) x (hx : x ∈ l) => (show x.s.size ≤ 1048576 ∧ x.k.size ≤ 1048576 by have := (hS.2 l hl).1 x hx; unfold Ent.short at this; omega))
    have HLL := Lib.hid (fun l (hl : l ∈ sl) => (hS.2 l hl).2)
    have HI := Lib.hid (fun w2 (h : StackAt w2 A0 sl) => implFlatten_any A0 c0 sl w2 (by omega) hf h)
    have HV := Lib.hid (fun w2 (h : StackAt w2 A0 sl) => specFlatten_any A0 c0 sl w2 (by omega) hf h)
    have HR0 := Lib.hid (fun (s key : ByteArray) w2 (h : StackAt w2 A0 sl) (h3 : s.size ≤ 1048576) (h4 : key.size ≤ 1048576) => implResolve_any A0 c0 sl s key w2 (by omega) hf h h3 h4)
    obtain ⟨P, hP⟩ : ∃ P, flatL sl = P := ⟨_, rfl⟩
    obtain ⟨β, hβ⟩ : ∃ β, flatB sl = β := ⟨_, rfl⟩
    have hfP : EFit P := hP ▸ flatL_fit sl
    have HTE : Hid (β = true → ∀ s k, tellS [P] s k = tellS sl s k ∧ tellB [P] s k = tellB sl s k) := fun e s k => by
      rw [← hP]
      exact tell_flat (hβ.trans e) s k
    have HVP : Hid (β = true → vflat P = true) := fun e => by
      rw [← hP]
      exact flat_flat (hβ.trans e)
    have HR1 := Lib.hid (fun (v : Value) (b g : Nat) (s key : ByteArray) (w2 : World) (h1 : OwnE w2 b v P) (hc : w2.cell? ⟨g, 0, none⟩ = some v) (hg2 : g < w2.heap.size) (h3 : s.size ≤ 1048576) (h4 : key.size ≤ 1048576) => implRes1_own v b g P s key w2 hfP h1 hc hg2 h3 h4)
    have HFV := Lib.hid (fun (v : Value) (b : Nat) (w2 : World) (h1 : OwnE w2 b v P) => implFlat_own v b P w2 hfP h1)
    rw [hP, hβ] at HI HV
    unfold ResEB at HI HV
    have hP20 : P.length ≤ 1048576 := hfP.1
    obtain ⟨n0, hn0⟩ : ∃ n0, sl.length = n0 := ⟨_, rfl⟩
    have HN := Lib.hid hn0
    rw [hn0] at hn6 HI HV HR0 ⊢
    have S0_1 := Lib.hid hSt
    have T1 : Hid (Grows w1 w1) := Grows.refl _
    have HG1 := Lib.hid g1
    clear hS hO hSt g1 hf HD hfP hP hβ hn0
    go_wp2_with fail
    refine (HI.out _ S0_1.out).mono ?_
    rintro e w2 ⟨u, rfl, hu, gq⟩
    have T2 : Hid (Grows w1 w2) := T1.out.trans gq
    have S0_2 := Lib.hid (S0_1.out.keep gq)
    clear S0_1 T1
    clear gq
    obtain ⟨AO4, nO4, cO4, hu'⟩ := OwnE.form3 hu
    subst hu'
    have O4_2 := Lib.hid hu
    clear hu
    go_upto_region 5 with (fail)
    have X5_3 : Hid (Box (w2.alloc (.cells #[(.slice AO4 nO4 cO4)] 27)) w2.heap.size (.slice AO4 nO4 cO4) 27) := heap_alloc_new w2 _
    have gq : Grows w2 (w2.alloc (.cells #[(.slice AO4 nO4 cO4)] 27)) := (Grows.refl _).alloc _
    obtain ⟨w3, hw3⟩ : ∃ w', (w2.alloc (.cells #[(.slice AO4 nO4 cO4)] 27)) = w' := ⟨_, rfl⟩
    rw [hw3] at X5_3 gq ⊢
    clear hw3
    have T3 : Hid (Grows w1 w3) := T2.out.trans gq
    have S0_3 := Lib.hid (S0_2.out.keep gq)
    have O4_3 := Lib.hid (O4_2.out.keep gq)
    clear S0_2 O4_2 T2
    clear gq
    obtain ⟨b_X5, hbb⟩ : ∃ b, w2.heap.size = b := ⟨_, rfl⟩
    rw [hbb] at X5_3 ⊢
    clear hbb
    go_wp2_with fail
    refine (HV.out _ S0_3.out).mono ?_
    rintro e w4 ⟨u, rfl, hu, gq⟩
    have T4 : Hid (Grows w1 w4) := T3.out.trans gq
    have S0_4 := Lib.hid (S0_3.out.keep gq)
    have O4_4 := Lib.hid (O4_3.out.keep gq)
    have X5_4 := Lib.hid (X5_3.out.keep gq)
    clear S0_3 O4_3 X5_3 T3
    clear gq
    obtain ⟨AO5, nO5, cO5, hu'⟩ := OwnE.form3 hu
    subst hu'
    have O5_4 := Lib.hid hu
    clear hu
    go_upto_region 6 with (fail)
    have X7_5 : Hid (Box (w4.alloc (.cells #[(.slice AO5 nO5 cO5)] 27)) w4.heap.size (.slice AO5 nO5 cO5) 27) := heap_alloc_new w4 _
    have gq : Grows w4 (w4.alloc (.cells #[(.slice AO5 nO5 cO5)] 27)) := (Grows.refl _).alloc _
    obtain ⟨w5, hw5⟩ : ∃ w', (w4.alloc (.cells #[(.slice AO5 nO5 cO5)] 27)) = w' := ⟨_, rfl⟩
    rw [hw5] at X7_5 gq ⊢
    clear hw5
    have T5 : Hid (Grows w1 w5) := T4.out.trans gq
    have S0_5 := Lib.hid (S0_4.out.keep gq)
    have O4_5 := Lib.hid (O4_4.out.keep gq)
    have X5_5 := Lib.hid (X5_4.out.keep gq)
    have O5_5 := Lib.hid (O5_4.out.keep gq)
    clear S0_4 O4_4 X5_4 O5_4 T4
    clear gq
    obtain ⟨b_X7, hbb⟩ : ∃ b, w4.heap.size = b := ⟨_, rfl⟩
    rw [hbb] at X7_5 ⊢
    clear hbb
    have cX5 := X5_5.out.cell
    have cX7 := X7_5.out.cell
    go_wp2_with fail
    refine (equalLayer_own _ _ _ _ P _ hP20 O4_5.out O5_5.out).mono ?_
    rintro e w6 ⟨rfl, gq⟩
    clear cX5
    clear cX7
    have T6 : Hid (Grows w1 w6) := T5.out.trans gq
    have S0_6 := Lib.hid (S0_5.out.keep gq)
    have O4_6 := Lib.hid (O4_5.out.keep gq)
    have X5_6 := Lib.hid (X5_5.out.keep gq)
    have O5_6 := Lib.hid (O5_5.out.keep gq)
    have X7_6 := Lib.hid (X7_5.out.keep gq)
    clear S0_5 O4_5 X5_5 O5_5 X7_5 T5
    clear gq
    rcases β with _ | _
    · have cX5 := X5_6.out.cell
      have cX7 := X7_6.out.cell
      go_wp2_with fail
      refine (equalLayer_own _ _ _ _ P _ hP20 O4_6.out O5_6.out).mono ?_
      rintro e w7 ⟨rfl, gq⟩
      clear cX5
      clear cX7
      have T7 : Hid (Grows w1 w7) := T6.out.trans gq
      have S0_7 := Lib.hid (S0_6.out.keep gq)
      have O4_7 := Lib.hid (O4_6.out.keep gq)
      have X5_7 := Lib.hid (X5_6.out.keep gq)
      have O5_7 := Lib.hid (O5_6.out.keep gq)
      have X7_7 := Lib.hid (X7_6.out.keep gq)
      clear S0_6 O4_6 X5_6 O5_6 X7_6 T6
      clear gq
      go_wp2
      go_ret
      exact ⟨rfl, (HG1.out.trans T7.out).below⟩
    · clear X7_6 O5_6 HI HV
      go_wp2_with fail
      go_loopw [8] (fun i wr => ∃ k : Nat, k ≤ n0 ∧ i = .int .i64 k ∧ Hid (Grows w6 wr)) (fun i _ => n0 - (intOf i).toNat)
      case atStart => exact ⟨0, Nat.zero_le _, rfl, Grows.refl _⟩
      case round =>
        obtain ⟨k, hk, rfl, HG⟩ := hrel
        by_cases hlt : k < n0
        · have hk2 : k < sl.length := by rw [HN.out]; exact hlt
          obtain ⟨b, o, hA0, hb, hc⟩ := S0_6.out (by omega)
          subst hA0
          obtain ⟨A', c', h1, h2, h3⟩ := hc k hk2
          have hmem : sl[k] ∈ sl := List.getElem_mem hk2
          have HSL := Lib.hid (HSK.out _ hmem)
          have hll := HLL.out _ hmem
          obtain ⟨L, hL⟩ : ∃ L, sl[k] = L := ⟨_, rfl⟩
          rw [hL] at h1 h3 HSL hll
          obtain ⟨m, hm⟩ : ∃ m, L.length = m := ⟨_, rfl⟩
          have HM := Lib.hid hm
          rw [hm] at h1 hll
          have HCE := Lib.hid h1
          have HEL := Lib.hid h3
          clear hc h1 h2 h3 hmem hL hm
          go_wp2_with fail
          go_loopw [9] (fun i wr => ∃ q : Nat, q ≤ m ∧ i = .int .i64 q ∧ Hid (Grows w6 wr)) (fun i _ => m - (intOf i).toNat)
          case atStart => exact ⟨0, Nat.zero_le _, rfl, HG⟩
          case round =>
            clear HG
            obtain ⟨q, hq, rfl, HG⟩ := hrel
            have c0 := (HG.out.cell (p := ⟨b, o + k, none⟩) hb).trans HCE.out
            by_cases hlq : q < m
            · obtain ⟨b2, o2, rfl, hb2, hc2⟩ := HEL.out (by rw [HM.out]; omega)
              have hq2 : q < L.length := by rw [HM.out]; exact hlq
              have hat := (hc2 q hq2).keep hb2 HG.out
              have hsz := HSL.out L[q] (List.getElem_mem hq2)
              obtain ⟨⟨es, ek, eo, ev⟩, hx⟩ : ∃ x, L[q] = x := ⟨_, rfl⟩
              rw [hx] at hat hsz
              obtain ⟨y0, y1, y2, y3⟩ := hat
              simp only at y0 y1 y2 y3 hsz
              obtain ⟨hs, hkk⟩ := hsz
              obtain ⟨t1, t2⟩ := HTE.out (by simp) es ek
              have HQ0 := Lib.hid (fun w2 h => HR0.out es ek w2 h hs hkk)
              have HQ1 := Lib.hid (fun v b g w2 h1 hc hg2 => HR1.out v b g es ek w2 h1 hc hg2 hs hkk)
              rw [t1, t2] at HQ1
              obtain ⟨τ, hτ⟩ : ∃ τ, tellS sl es ek = τ := ⟨_, rfl⟩
              obtain ⟨π, hπ⟩ : ∃ π, tellB sl es ek = π := ⟨_, rfl⟩
              rw [hτ, hπ] at HQ0 HQ1
              clear hc2 hx t1 t2 hτ hπ
              go_upto_region 15 with (fail)
              have E1 : Hid (BoxE (wr.alloc (.cells #[.string es, .string ek, .int .i64 eo, .string ev] 32)) wr.heap.size ⟨es, ek, eo, ev⟩ 32) := BoxE.new wr ⟨es, ek, eo, ev⟩ _
              have Gr : Hid (Grows w6 (wr.alloc (.cells #[.string es, .string ek, .int .i64 eo, .string ev] 32))) := HG.out.alloc _
              obtain ⟨wa, hwa⟩ : ∃ wa, wr.alloc (.cells #[.string es, .string ek, .int .i64 eo, .string ev] 32) = wa := ⟨_, rfl⟩
              rw [hwa] at E1 Gr ⊢
              clear hwa y0 y1 y2 y3 c0
              obtain ⟨be, hbe⟩ : ∃ be, wr.heap.size = be := ⟨_, rfl⟩
              rw [hbe] at E1 ⊢
              clear hbe
              have t0 := E1.out.at0
              have t1 := E1.out.at1
              simp only at t0 t1
              go_wp2_with fail
              refine (HQ0.out _ (S0_6.out.keep Gr.out)).mono ?_
              rintro e wb ⟨rfl, gq⟩
              have Gb : Hid (Grows w6 wb) := Gr.out.trans gq
              have E2 := Lib.hid (E1.out.keep gq)
              clear gq t0 t1 E1
              have t0 := E2.out.at0
              have t1 := E2.out.at1
              simp only at t0 t1
              have xo := (X5_6.out.keep Gb.out).cell
              go_wp2_with fail
              refine wp_region_M 11 (CellsAre [(⟨b_X5, 0, none⟩, .slice AO4 nO4 cO4), (⟨be, 0, none⟩, .string es), (⟨be, 1, none⟩, .string ek)]) (by kernel_rfl) (by kernel_rfl) ⟨xo, t0, t1, trivial⟩ (fun hB hS => ?_)
              refine wpAnyM_take (i := 0) (v := ?vb0) hB rfl (by kernel_rfl) (fun _ _ _ h => h) (by rfl) ?yb0 hS ?nb0
              case yb0 => (intro w9 hSw; obtain ⟨s1, s2, s3, _⟩ := hSw; go_simp; try with_reducible rfl)
              refine wpAnyM_take (i := 2) (v := ?vb2) hB rfl (by kernel_rfl) (fun _ _ _ h => h) (by rfl) ?yb2 hS ?nb2
              case yb2 => (intro w9 hSw; obtain ⟨s1, s2, s3, _⟩ := hSw; go_simp; try with_reducible rfl)
              refine wpAnyM_take (i := 3) (v := ?vb3) hB rfl (by kernel_rfl) (fun _ _ _ h => h) (by rfl) ?yb3 hS ?nb3
              case yb3 => (intro w9 hSw; obtain ⟨s1, s2, s3, _⟩ := hSw; go_simp; try with_reducible rfl)
              refine wpAnyM_take (i := 4) (v := ?vb4) hB rfl (by kernel_rfl) (fun _ _ _ h => h) (by rfl) ?yb4 hS ?nb4
              case yb4 => (intro w9 hSw; obtain ⟨s1, s2, s3, _⟩ := hSw; go_simp; try with_reducible rfl)
              refine wpAnyM_take (i := 5) (v := ?vb5) hB rfl (by kernel_rfl) (fun _ _ _ h => h) (by rfl) ?yb5 hS ?nb5
              case yb5 => (intro w9 hSw; obtain ⟨s1, s2, s3, _⟩ := hSw; go_simp; try with_reducible rfl)
              refine wpAnyM_one (i := 1) rfl (by kernel_rfl) rfl ?_
              have HS := Lib.hid hS
              clear hS xo t0 t1
              go_wp2_with fail
              refine (oneL_any AO4 nO4 cO4 _).mono ?_
              rintro e wc ⟨ga, rfl, hca, _, hga, gq⟩
              have HSa := Lib.hid (CellsAre.keep HS.out gq)
              have Gc : Hid (Grows wb wc) := (Grows.refl wb).drew.trans gq
              clear gq HS
              go_wp2_with fail
              refine ⟨HSa.out, ?_⟩
              refine wpAnyM_one (i := 6) rfl (by kernel_rfl) rfl ?_
              go_wp2_with fail
              refine (HQ1.out _ _ ga wc ((O4_6.out.keep Gb.out).keep Gc.out) hca hga).mono ?_
              rintro e wd ⟨rfl, gq⟩
              have HSb := Lib.hid (CellsAre.keep HSa.out gq)
              have Gd : Hid (Grows w6 wd) := Gb.out.trans (Gc.out.trans gq)
              clear gq HSa hca hga Gc
              go_wp2_with fail
              refine ⟨HSb.out, ?_⟩
              have hS := HSb.out
              refine wpAnyM_take (i := 7) (v := ?vd7) hB rfl (by kernel_rfl) (fun _ _ _ h => h) (by rfl) ?yd7 hS ?nd7
              case yd7 => (intro w9 hSw; obtain ⟨s1, s2, s3, _⟩ := hSw; go_simp; try with_reducible rfl)
              refine wpAnyM_take (i := 8) (v := ?vd8) hB rfl (by kernel_rfl) (fun _ _ _ h => h) (by rfl) ?yd8 hS ?nd8
              case yd8 => (intro w9 hSw; obtain ⟨s1, s2, s3, _⟩ := hSw; go_simp; try with_reducible rfl)
              refine wpAnyM_take (i := 9) (v := ?vd9) hB rfl (by kernel_rfl) (fun _ _ _ h => h) (by rfl) ?yd9 hS ?nd9
              case yd9 => (intro w9 hSw; obtain ⟨s1, s2, s3, _⟩ := hSw; go_simp; try with_reducible rfl)
              refine wpAnyM_take (i := 10) (v := ?vd10) hB rfl (by kernel_rfl) (fun _ _ _ h => h) (by rfl) ?yd10 hS ?nd10
              case yd10 => (intro w9 hSw; obtain ⟨s1, s2, s3, _⟩ := hSw; go_simp; try with_reducible rfl)
              refine wpAnyM_tail (by kernel_rfl) ?_
              clear hB hS HSb
              rcases π with _ | _
              · go_wp2
                go_roundw
                case rel => exact ⟨q + 1, by omega, by go_num, Gd⟩
                case measure => (simp [intOf]; try omega)
              · go_wp2
                go_roundw
                case rel => exact ⟨q + 1, by omega, by go_num, Gd⟩
                case measure => (simp [intOf]; try omega)
            · go_wp2
              go_roundw
              case rel => exact ⟨k + 1, by omega, by go_num, HG⟩
              case measure => (simp [intOf]; try omega)
        · have HVT : Hid (vflat P = true) := HVP.out (by simp)
          have xo := (X5_6.out.keep HG.out).cell
          go_wp2_with fail
          refine (HFV.out _ _ _ (O4_6.out.keep HG.out)).mono ?_
          rintro e wz ⟨rfl, gq⟩
          have Gz : Hid (Grows w wz) := HG1.out.trans (T6.out.trans (HG.out.trans gq))
          clear gq
          rw [HVT.out]
          go_wp2
          go_ret
          exact ⟨rfl, Gz.out.below⟩
end Go.Proofs.YtoicohheoddfjaaDoor
