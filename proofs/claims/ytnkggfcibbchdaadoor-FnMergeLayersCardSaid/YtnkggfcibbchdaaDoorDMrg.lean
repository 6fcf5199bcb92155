/-
  The drawn law of MergeLayers: whatever its bytes, it returns true. Condition: no more bytes than a slice may have.
-/
import Derived.Test.YtnkggfcibbchdaaDoorDMrg3
import Derived.Test.YtnkggfcibbchdaaDoorOneL
namespace Go.Proofs.YtnkggfcibbchdaaDoor
open Go.RowKit

set_option maxRecDepth 100000 in
set_option maxHeartbeats 8000000 in
theorem dMrg_any (A : Option Addr) (n c : Nat) (w : World) (hn : n ≤ maxLen) (hc : n ≤ c) (h : BytesAt w A n) :
    Calls Tryd.prog 3 #[.slice A n c] w fun e w' => e = .returned (.bool true) ∧ Below w.heap.size w w' := by
  by_cases hbig : 1048576 < n
  · clear h
    unfold maxLen at hn
    go_enter Tryd.func3, Tryd.ntmps3
    go_wp2
    go_ret
    exact ⟨rfl, (Grows.refl _).below⟩
  · have HD := Lib.hid (DrawMergeLayers_any A n c w hn hc h)
    clear h
    unfold maxLen at hn
    go_enter Tryd.func3, Tryd.ntmps3
    go_wp2_with fail
    refine (HD.out).mono ?_
    rintro e w1 ⟨v, K, u, L, rfl, ⟨hS, hK⟩, ⟨hT, hL⟩, hO, hQ, g1⟩
    obtain ⟨A0, n0, c0, rfl⟩ := hO.form3
    obtain ⟨B0, d0, e0, rfl⟩ := hQ.form3
    have hf := hS.fit hK
    have hg := hT.fit hL
    have HSK := Lib.hid (fun x (hx : x ∈ K ++ L) => by
      rcases List.mem_append.1 hx with h | h
      · exact (show x.s.size ≤ 1048576 ∧ x.k.size ≤ 1048576 by have := hS x h; unfold Ent.short at this; omega)
      · exact (show x.s.size ≤ 1048576 ∧ x.k.size ≤ 1048576 by have := hT x h; unfold Ent.short at this; omega))
    obtain ⟨P, hP⟩ : ∃ P, mergeL K L = P := ⟨_, rfl⟩
    obtain ⟨β, hβ⟩ : ∃ β, mergeB K L = β := ⟨_, rfl⟩
    have hfP : EFit P := hP ▸ mergeL_fit K L
    have HM1 := Lib.hid (fun (v u : Value) (b1 b2 : Nat) (w2 : World) (h1 : OwnE w2 b1 v K) (h2 : OwnE w2 b2 u L) => implMrg_own v u b1 b2 K L w2 hf hg h1 h2)
    have HM2 := Lib.hid (fun (v u : Value) (b1 b2 : Nat) (w2 : World) (h1 : OwnE w2 b1 v K) (h2 : OwnE w2 b2 u L) => specMrg_own v u b1 b2 K L w2 hf hg h1 h2)
    have HTE : Hid (β = true → ∀ s k, tellS [P] s k = tellS [K, L] s k ∧ tellB [P] s k = tellB [K, L] s k) := fun e s k => by
      rw [← hP]
      exact tell_merge (hβ.trans e) s k
    have HVP : Hid (β = true → vlayer P = true) := fun e => by
      obtain ⟨_, _, h3, h4⟩ := mergeB_iff (hβ.trans e)
      rw [← hP, h4]
      exact h3
    have HR1 := Lib.hid (fun (v : Value) (b g : Nat) (s key : ByteArray) (w2 : World) (h1 : OwnE w2 b v P) (hc : w2.cell? ⟨g, 0, none⟩ = some v) (hg2 : g < w2.heap.size) (h3 : s.size ≤ 1048576) (h4 : key.size ≤ 1048576) => implRes1_own v b g P s key w2 hfP h1 hc hg2 h3 h4)
    have HR2 := Lib.hid (fun (v u : Value) (b d g : Nat) (s key : ByteArray) (w2 : World) (h1 : OwnE w2 b v K) (h2 : OwnE w2 d u L) (hc : w2.cell? ⟨g, 0, none⟩ = some v) (hd : w2.cell? ⟨g, 1, none⟩ = some u) (hg2 : g < w2.heap.size) (h3 : s.size ≤ 1048576) (h4 : key.size ≤ 1048576) => implRes2_own v u b d g K L s key w2 hf hg h1 h2 hc hd hg2 h3 h4)
    have HVL := Lib.hid (fun (v : Value) (b : Nat) (w2 : World) (h1 : OwnE w2 b v P) => implVL_own v b P w2 hfP h1)
    rw [hP, hβ] at HM1 HM2
    unfold ResEB at HM1 HM2
    have hP20 : P.length ≤ 1048576 := hfP.1
    have O0_1 := Lib.hid hO
    have L0_1 := Lib.hid hQ
    have T1 : Hid (Grows w1 w1) := Grows.refl _
    have HG1 := Lib.hid g1
    clear hS hT hO hQ g1 hf hg HD hfP hP hβ
    go_upto_region 4 with (fail)
    obtain ⟨w2, hw2⟩ : ∃ w', w1.alloc (.cells #[.slice A0 n0 c0] 25) = w' := ⟨_, rfl⟩
    have X3_2 : Hid (Box w2 w1.heap.size (.slice A0 n0 c0) 25) := hw2 ▸ heap_alloc_new w1 _
    have gq : Grows w1 w2 := hw2 ▸ (Grows.refl w1).alloc _
    have hs2 : w2.heap.size = w1.heap.size + 1 := by rw [← hw2]; exact World.size_alloc _ _
    have T2 : Hid (Grows w1 w2) := T1.out.trans gq
    have O0_2 := Lib.hid (O0_1.out.keep gq)
    have L0_2 := Lib.hid (L0_1.out.keep gq)
    clear O0_1 L0_1 T1
    clear gq
    obtain ⟨w3, hw3⟩ : ∃ w', w2.alloc (.cells #[.slice B0 d0 e0] 25) = w' := ⟨_, rfl⟩
    have X4_3 : Hid (Box w3 w2.heap.size (.slice B0 d0 e0) 25) := hw3 ▸ heap_alloc_new w2 _
    have gq : Grows w2 w3 := hw3 ▸ (Grows.refl w2).alloc _
    have T3 : Hid (Grows w1 w3) := T2.out.trans gq
    have O0_3 := Lib.hid (O0_2.out.keep gq)
    have L0_3 := Lib.hid (L0_2.out.keep gq)
    have X3_3 := Lib.hid (X3_2.out.keep gq)
    clear O0_2 L0_2 X3_2 T2
    clear gq
    rw [hw2, hw3]
    rw [hs2] at X4_3
    clear hw2 hw3 hs2
    have cX3 := X3_3.out.cell
    have cX4 := X4_3.out.cell
    go_wp2_with fail
    refine (HM1.out _ _ _ _ _ O0_3.out L0_3.out).mono ?_
    rintro e w4 ⟨u, rfl, hu, gq⟩
    clear cX3
    clear cX4
    have T4 : Hid (Grows w1 w4) := T3.out.trans gq
    have O0_4 := Lib.hid (O0_3.out.keep gq)
    have L0_4 := Lib.hid (L0_3.out.keep gq)
    have X3_4 := Lib.hid (X3_3.out.keep gq)
    have X4_4 := Lib.hid (X4_3.out.keep gq)
    clear O0_3 L0_3 X3_3 X4_3 T3
    clear gq
    obtain ⟨AO4, nO4, cO4, hu'⟩ := OwnE.form3 hu
    subst hu'
    have O4_4 := Lib.hid hu
    clear hu
    go_upto_region 5 with (fail)
    have X5_5 : Hid (Box (w4.alloc (.cells #[(.slice AO4 nO4 cO4)] 25)) w4.heap.size (.slice AO4 nO4 cO4) 25) := heap_alloc_new w4 _
    have gq : Grows w4 (w4.alloc (.cells #[(.slice AO4 nO4 cO4)] 25)) := (Grows.refl _).alloc _
    obtain ⟨w5, hw5⟩ : ∃ w', (w4.alloc (.cells #[(.slice AO4 nO4 cO4)] 25)) = w' := ⟨_, rfl⟩
    rw [hw5] at X5_5 gq ⊢
    clear hw5
    have T5 : Hid (Grows w1 w5) := T4.out.trans gq
    have O0_5 := Lib.hid (O0_4.out.keep gq)
    have L0_5 := Lib.hid (L0_4.out.keep gq)
    have X3_5 := Lib.hid (X3_4.out.keep gq)
    have X4_5 := Lib.hid (X4_4.out.keep gq)
    have O4_5 := Lib.hid (O4_4.out.keep gq)
    clear O0_4 L0_4 X3_4 X4_4 O4_4 T4
    clear gq
    obtain ⟨b_X5, hbb⟩ : ∃ b, w4.heap.size = b := ⟨_, rfl⟩
    rw [hbb] at X5_5 ⊢
    clear hbb
    have cX3 := X3_5.out.cell
    have cX4 := X4_5.out.cell
    go_wp2_with fail
    refine (HM2.out _ _ _ _ _ O0_5.out L0_5.out).mono ?_
    rintro e w6 ⟨u, rfl, hu, gq⟩
    clear cX3
    clear cX4
    have T6 : Hid (Grows w1 w6) := T5.out.trans gq
    have O0_6 := Lib.hid (O0_5.out.keep gq)
    have L0_6 := Lib.hid (L0_5.out.keep gq)
    have X3_6 := Lib.hid (X3_5.out.keep gq)
    have X4_6 := Lib.hid (X4_5.out.keep gq)
    have O4_6 := Lib.hid (O4_5.out.keep gq)
    have X5_6 := Lib.hid (X5_5.out.keep gq)
    clear O0_5 L0_5 X3_5 X4_5 O4_5 X5_5 T5
    clear gq
    obtain ⟨AO5, nO5, cO5, hu'⟩ := OwnE.form3 hu
    subst hu'
    have O5_6 := Lib.hid hu
    clear hu
    go_upto_region 6 with (fail)
    have X7_7 : Hid (Box (w6.alloc (.cells #[(.slice AO5 nO5 cO5)] 25)) w6.heap.size (.slice AO5 nO5 cO5) 25) := heap_alloc_new w6 _
    have gq : Grows w6 (w6.alloc (.cells #[(.slice AO5 nO5 cO5)] 25)) := (Grows.refl _).alloc _
    obtain ⟨w7, hw7⟩ : ∃ w', (w6.alloc (.cells #[(.slice AO5 nO5 cO5)] 25)) = w' := ⟨_, rfl⟩
    rw [hw7] at X7_7 gq ⊢
    clear hw7
    have T7 : Hid (Grows w1 w7) := T6.out.trans gq
    have O0_7 := Lib.hid (O0_6.out.keep gq)
    have L0_7 := Lib.hid (L0_6.out.keep gq)
    have X3_7 := Lib.hid (X3_6.out.keep gq)
    have X4_7 := Lib.hid (X4_6.out.keep gq)
    have O4_7 := Lib.hid (O4_6.out.keep gq)
    have X5_7 := Lib.hid (X5_6.out.keep gq)
    have O5_7 := Lib.hid (O5_6.out.keep gq)
    clear O0_6 L0_6 X3_6 X4_6 O4_6 X5_6 O5_6 T6
    clear gq
    obtain ⟨b_X7, hbb⟩ : ∃ b, w6.heap.size = b := ⟨_, rfl⟩
    rw [hbb] at X7_7 ⊢
    clear hbb
    have cX5 := X5_7.out.cell
    have cX7 := X7_7.out.cell
    go_wp2_with fail
    refine (equalLayer_own _ _ _ _ P _ hP20 O4_7.out O5_7.out).mono ?_
    rintro e w8 ⟨rfl, gq⟩
    clear cX5
    clear cX7
    have T8 : Hid (Grows w1 w8) := T7.out.trans gq
    have O0_8 := Lib.hid (O0_7.out.keep gq)
    have L0_8 := Lib.hid (L0_7.out.keep gq)
    have X3_8 := Lib.hid (X3_7.out.keep gq)
    have X4_8 := Lib.hid (X4_7.out.keep gq)
    have O4_8 := Lib.hid (O4_7.out.keep gq)
    have X5_8 := Lib.hid (X5_7.out.keep gq)
    have O5_8 := Lib.hid (O5_7.out.keep gq)
    have X7_8 := Lib.hid (X7_7.out.keep gq)
    clear O0_7 L0_7 X3_7 X4_7 O4_7 X5_7 O5_7 X7_7 T7
    clear gq
    rcases β with _ | _
    · have cX5 := X5_8.out.cell
      have cX7 := X7_8.out.cell
      go_wp2_with fail
      refine (equalLayer_own _ _ _ _ P _ hP20 O4_8.out O5_8.out).mono ?_
      rintro e w9 ⟨rfl, gq⟩
      clear cX5
      clear cX7
      have T9 : Hid (Grows w1 w9) := T8.out.trans gq
      have O0_9 := Lib.hid (O0_8.out.keep gq)
      have L0_9 := Lib.hid (L0_8.out.keep gq)
      have X3_9 := Lib.hid (X3_8.out.keep gq)
      have X4_9 := Lib.hid (X4_8.out.keep gq)
      have O4_9 := Lib.hid (O4_8.out.keep gq)
      have X5_9 := Lib.hid (X5_8.out.keep gq)
      have O5_9 := Lib.hid (O5_8.out.keep gq)
      have X7_9 := Lib.hid (X7_8.out.keep gq)
      clear O0_8 L0_8 X3_8 X4_8 O4_8 X5_8 O5_8 X7_8 T8
      clear gq
      go_wp2
      go_ret
      exact ⟨rfl, (HG1.out.trans T9.out).below⟩
    · clear X7_8 O5_8 HM1 HM2
      go_upto_region 7 with (fail)
      have hb1 := X3_8.out.cell
      have hb2 := X4_8.out.cell
      refine wp_region_M 7 (CellsAre [(⟨w1.heap.size, 0, none⟩, .slice A0 n0 c0), (⟨w1.heap.size + 1, 0, none⟩, .slice B0 d0 e0)]) (by kernel_rfl) (by kernel_rfl) ⟨hb1, hb2, trivial⟩ (fun hB hS => ?_)
      refine wpAnyM_take (i := 1) (v := ?va1) hB rfl (by kernel_rfl) (fun _ _ _ h => h) (by rfl) ?ya1 hS ?na1
      case ya1 => (intro w9 hSw; obtain ⟨s1, s2, _⟩ := hSw; go_simp; try with_reducible rfl)
      refine wpAnyM_take (i := 2) (v := ?va2) hB rfl (by kernel_rfl) (fun _ _ _ h => h) (by rfl) ?ya2 hS ?na2
      case ya2 => (intro w9 hSw; obtain ⟨s1, s2, _⟩ := hSw; go_simp; try with_reducible rfl)
      refine wpAnyM_take (i := 4) (v := ?va4) hB rfl (by kernel_rfl) (fun _ _ _ h => h) (by rfl) ?ya4 hS ?na4
      case ya4 => (intro w9 hSw; obtain ⟨s1, s2, _⟩ := hSw; go_simp; try with_reducible rfl)
      refine wpAnyM_take (i := 5) (v := ?va5) hB rfl (by kernel_rfl) (fun _ _ _ h => h) (by rfl) ?ya5 hS ?na5
      case ya5 => (intro w9 hSw; obtain ⟨s1, s2, _⟩ := hSw; go_simp; try with_reducible rfl)
      refine wpAnyM_one (i := 0) rfl (by kernel_rfl) rfl ?_
      have HS := Lib.hid hS
      clear hS hb1 hb2
      have GA : Hid (Grows w8 (w8.alloc (.cells #[] 36)).drew) := ((Grows.refl w8).alloc _).drew
      have OA : Hid (OwnE (w8.alloc (.cells #[] 36)).drew w8.heap.size (.slice (some ⟨w8.heap.size, 0, none⟩) 0 0) []) := (OwnE.empty w8 w8.heap.size (Nat.le_refl _)).keep ((Grows.refl _).drew)
      have KA := Lib.hid (O0_8.out.keep GA.out)
      have hsI : w1.heap.size ≤ w8.heap.size := T8.out.size
      go_wp2_with fail
      have HSA : Hid (CellsAre [(⟨w1.heap.size, 0, none⟩, .slice A0 n0 c0), (⟨w1.heap.size + 1, 0, none⟩, .slice B0 d0 e0)] (w8.alloc (.cells #[] 36)).drew) := ⟨(X3_8.out.keep GA.out).cell, (X4_8.out.keep GA.out).cell, trivial⟩
      refine ⟨HSA.out, ?_⟩
      clear HS
      obtain ⟨wA, hwA⟩ : ∃ wA, (w8.alloc (.cells #[] 36)).drew = wA := ⟨_, rfl⟩
      rw [hwA] at OA GA KA HSA ⊢
      clear hwA
      refine wpAnyM_one (i := 3) rfl (by kernel_rfl) rfl ?_
      refine appOwnE rfl (.tmp 56) (.tmp 58) rfl w8.heap.size (.slice (some ⟨w8.heap.size, 0, none⟩) 0 0) [] (by simp [Act.eval]) OA.out (.slice A0 n0 c0) _ K (by simp [Act.eval]) KA.out (by simp) (by omega) GA.out.size ?_
      intro v1 wB hO1 hG1
      have OB : Hid (OwnE wB w8.heap.size v1 K) := hO1
      have GB : Hid (Grows w8 wB) := GA.out.mark hG1.out (fun k hk => by have h' : some w8.heap.size = some k := hk; injection h' with h'; omega)
      have GAB : Hid (Grows wA wB ∨ True) := .inr trivial
      have LB1 := Lib.hid (L0_8.out.keep GB.out)
      have HSB : Hid (CellsAre [(⟨w1.heap.size, 0, none⟩, .slice A0 n0 c0), (⟨w1.heap.size + 1, 0, none⟩, .slice B0 d0 e0)] wB) := ⟨(X3_8.out.keep GB.out).cell, (X4_8.out.keep GB.out).cell, trivial⟩
      clear hO1 hG1 HSA OA KA GA GAB
      go_wp2_with fail
      refine ⟨HSB.out, ?_⟩
      refine wpAnyM_one (i := 6) rfl (by kernel_rfl) rfl ?_
      refine appOwnE rfl (.tmp 59) (.tmp 61) rfl w8.heap.size v1 K (by simp [Act.eval]) OB.out (.slice B0 d0 e0) _ L (by simp [Act.eval]) LB1.out (by omega) (by omega) GB.out.size ?_
      intro v2 w9 hO2 hG2
      have GC : Hid (Grows w8 w9) := GB.out.mark hG2.out (fun k hk => by have := (OB.out.lt k hk).1; omega)
      have OC : Hid (OwnE w9 w8.heap.size v2 (K ++ L)) := hO2
      have HSC : Hid (CellsAre [(⟨w1.heap.size, 0, none⟩, .slice A0 n0 c0), (⟨w1.heap.size + 1, 0, none⟩, .slice B0 d0 e0)] w9) := ⟨(X3_8.out.keep GC.out).cell, (X4_8.out.keep GC.out).cell, trivial⟩
      clear hO2 hG2 OB GB LB1 HSB
      go_wp2_with fail
      refine ⟨HSC.out, ?_⟩
      refine wpAnyM_tail (by kernel_rfl) ?_
      clear hB HSC
      have T9 : Hid (Grows w1 w9) := T8.out.trans GC.out
      have O0_9 := Lib.hid (O0_8.out.keep GC.out)
      have L0_9 := Lib.hid (L0_8.out.keep GC.out)
      have X3_9 := Lib.hid (X3_8.out.keep GC.out)
      have X4_9 := Lib.hid (X4_8.out.keep GC.out)
      have O4_9 := Lib.hid (O4_8.out.keep GC.out)
      have X5_9 := Lib.hid (X5_8.out.keep GC.out)
      clear O0_8 L0_8 X3_8 X4_8 O4_8 X5_8 T8
      clear GC
      obtain ⟨Al, cl, rfl, hcl, hEl⟩ := OC.out.formC
      have HEL := Lib.hid hEl
      obtain ⟨N, hN⟩ : ∃ N, (K ++ L).length = N := ⟨_, rfl⟩
      have HN := Lib.hid hN
      have hN2 : N ≤ 300 := by rw [← hN, List.length_append]; omega
      rw [hN]
      clear hEl hcl hN OC
      go_wp2_with fail
      go_loopw [10] (fun i wr => ∃ k : Nat, k ≤ N ∧ i = .int .i64 k ∧ Hid (Grows w9 wr)) (fun i _ => N - (intOf i).toNat)
      case atStart => exact ⟨0, Nat.zero_le _, rfl, Grows.refl _⟩
      case round =>
        obtain ⟨k, hk, rfl, HG⟩ := hrel
        have xo := (X5_9.out.keep HG.out).cell
        by_cases hlt : k < N
        · obtain ⟨b, o, rfl, hb, hc⟩ := HEL.out (by rw [HN.out]; omega)
          have hk2 : k < (K ++ L).length := by rw [HN.out]; exact hlt
          have hat := (hc k hk2).keep hb HG.out
          have hsz := HSK.out (K ++ L)[k] (List.getElem_mem hk2)
          obtain ⟨⟨xs, xk, xop, xv⟩, hx⟩ : ∃ x, (K ++ L)[k] = x := ⟨_, rfl⟩
          rw [hx] at hat hsz
          obtain ⟨y0, y1, _, _⟩ := hat
          simp only at y0 y1 hsz
          obtain ⟨hs, hkk⟩ := hsz
          obtain ⟨t1, t2⟩ := HTE.out (by simp) xs xk
          have HQ1 := Lib.hid (fun v b g w2 h1 hc hg2 => HR1.out v b g xs xk w2 h1 hc hg2 hs hkk)
          have HQ2 := Lib.hid (fun v u b d g w2 h1 h2 hc hd hg2 => HR2.out v u b d g xs xk w2 h1 h2 hc hd hg2 hs hkk)
          rw [t1, t2] at HQ1
          obtain ⟨τ, hτ⟩ : ∃ τ, tellS [K, L] xs xk = τ := ⟨_, rfl⟩
          obtain ⟨π, hπ⟩ : ∃ π, tellB [K, L] xs xk = π := ⟨_, rfl⟩
          rw [hτ, hπ] at HQ1 HQ2
          clear hc hx t1 t2 hτ hπ
          go_wp2_with fail
          refine wp_region_M 17 (CellsAre [(⟨b_X5, 0, none⟩, .slice AO4 nO4 cO4), (⟨b, o + k * 4, none⟩, .string xs), (⟨b, o + k * 4 + 1, none⟩, .string xk)]) (by kernel_rfl) (by kernel_rfl) ⟨xo, y0, y1, trivial⟩ (fun hB hS => ?_)
          refine wpAnyM_take (i := 0) (v := ?vb0) hB rfl (by kernel_rfl) (fun _ _ _ h => h) (by rfl) ?yb0 hS ?nb0
          case yb0 => (intro w9 hSw; obtain ⟨s1, s2, s3, _⟩ := hSw; go_simp; try with_reducible rfl)
          refine wpAnyM_take (i := 2) (v := ?vb2) hB rfl (by kernel_rfl) (fun _ _ _ h => h) (by rfl) ?yb2 hS ?nb2
          case yb2 => (intro w9 hSw; obtain ⟨s1, s2, s3, _⟩ := hSw; go_simp; try with_reducible rfl)
          refine wpAnyM_take (i := 3) (v := ?vb3) hB rfl (by kernel_rfl) (fun _ _ _ h => h) (by rfl) ?yb3 hS ?nb3
          case yb3 => (intro w9 hSw; obtain ⟨s1, s2, s3, _⟩ := hSw; go_simp; try with_reducible rfl)
          refine wpAnyM_take (i := 4) (v := ?vb4) hB rfl (by kernel_rfl) (fun _ _ _ h => h) (by rfl) ?yb4 hS ?nb4
          case yb4 => (intro w9 hSw; obtain ⟨s1, s2, s3, _⟩ := hSw; go_simp; try with_reducible rfl)
          refine wpAnyM_take (i := 5) (v := ?vb5) hB rfl (by kernel_rfl) (fun _ _ _ h => h) (by rfl) ?yb5 hS ?nb5
          case yb5 => (intro w9 hSw; obtain ⟨s1, s2, s3, _⟩ := hSw; go_simp; try with_reducible rfl)
          refine wpAnyM_take (i := 6) (v := ?vb6) hB rfl (by kernel_rfl) (fun _ _ _ h => h) (by rfl) ?yb6 hS ?nb6
          case yb6 => (intro w9 hSw; obtain ⟨s1, s2, s3, _⟩ := hSw; go_simp; try with_reducible rfl)
          refine wpAnyM_take (i := 7) (v := ?vb7) hB rfl (by kernel_rfl) (fun _ _ _ h => h) (by rfl) ?yb7 hS ?nb7
          case yb7 => (intro w9 hSw; obtain ⟨s1, s2, s3, _⟩ := hSw; go_simp; try with_reducible rfl)
          refine wpAnyM_take (i := 8) (v := ?vb8) hB rfl (by kernel_rfl) (fun _ _ _ h => h) (by rfl) ?yb8 hS ?nb8
          case yb8 => (intro w9 hSw; obtain ⟨s1, s2, s3, _⟩ := hSw; go_simp; try with_reducible rfl)
          refine wpAnyM_take (i := 9) (v := ?vb9) hB rfl (by kernel_rfl) (fun _ _ _ h => h) (by rfl) ?yb9 hS ?nb9
          case yb9 => (intro w9 hSw; obtain ⟨s1, s2, s3, _⟩ := hSw; go_simp; try with_reducible rfl)
          refine wpAnyM_take (i := 10) (v := ?vb10) hB rfl (by kernel_rfl) (fun _ _ _ h => h) (by rfl) ?yb10 hS ?nb10
          case yb10 => (intro w9 hSw; obtain ⟨s1, s2, s3, _⟩ := hSw; go_simp; try with_reducible rfl)
          refine wpAnyM_take (i := 11) (v := ?vb11) hB rfl (by kernel_rfl) (fun _ _ _ h => h) (by rfl) ?yb11 hS ?nb11
          case yb11 => (intro w9 hSw; obtain ⟨s1, s2, s3, _⟩ := hSw; go_simp; try with_reducible rfl)
          refine wpAnyM_one (i := 1) rfl (by kernel_rfl) rfl ?_
          have HS := Lib.hid hS
          clear hS xo y0 y1
          go_wp2_with fail
          refine (oneL_any AO4 nO4 cO4 _).mono ?_
          rintro e wa ⟨ga, rfl, hca, _, hga, gq⟩
          have HSa := Lib.hid (CellsAre.keep HS.out gq)
          have Ga : Hid (Grows wr wa) := (Grows.refl wr).drew.trans gq
          clear gq HS
          go_wp2_with fail
          refine ⟨HSa.out, ?_⟩
          refine wpAnyM_one (i := 12) rfl (by kernel_rfl) rfl ?_
          go_wp2_with fail
          refine (HQ1.out _ _ ga wa ((O4_9.out.keep HG.out).keep Ga.out) hca hga).mono ?_
          rintro e wb ⟨rfl, gq⟩
          have HSb := Lib.hid (CellsAre.keep HSa.out gq)
          have Gb : Hid (Grows wr wb) := Ga.out.trans gq
          clear gq HSa hca hga Ga
          go_wp2_with fail
          refine ⟨HSb.out, ?_⟩
          have hS := HSb.out
          refine wpAnyM_take (i := 13) (v := ?vd13) hB rfl (by kernel_rfl) (fun _ _ _ h => h) (by rfl) ?yd13 hS ?nd13
          case yd13 => (intro w9 hSw; obtain ⟨s1, s2, s3, _⟩ := hSw; go_simp; try with_reducible rfl)
          refine wpAnyM_take (i := 14) (v := ?vd14) hB rfl (by kernel_rfl) (fun _ _ _ h => h) (by rfl) ?yd14 hS ?nd14
          case yd14 => (intro w9 hSw; obtain ⟨s1, s2, s3, _⟩ := hSw; go_simp; try with_reducible rfl)
          refine wpAnyM_take (i := 15) (v := ?vd15) hB rfl (by kernel_rfl) (fun _ _ _ h => h) (by rfl) ?yd15 hS ?nd15
          case yd15 => (intro w9 hSw; obtain ⟨s1, s2, s3, _⟩ := hSw; go_simp; try with_reducible rfl)
          refine wpAnyM_take (i := 16) (v := ?vd16) hB rfl (by kernel_rfl) (fun _ _ _ h => h) (by rfl) ?yd16 hS ?nd16
          case yd16 => (intro w9 hSw; obtain ⟨s1, s2, s3, _⟩ := hSw; go_simp; try with_reducible rfl)
          refine wpAnyM_tail (by kernel_rfl) ?_
          clear hB hS
          have y0 := HSb.out.2.1
          have y1 := HSb.out.2.2.1
          have x3 := (X3_9.out.keep (HG.out.trans Gb.out)).cell
          have x4 := (X4_9.out.keep (HG.out.trans Gb.out)).cell
          clear HSb
          go_wp2_with fail
          refine wp_region_M 18 (CellsAre [(⟨w1.heap.size, 0, none⟩, .slice A0 n0 c0), (⟨w1.heap.size + 1, 0, none⟩, .slice B0 d0 e0), (⟨b, o + k * 4, none⟩, .string xs), (⟨b, o + k * 4 + 1, none⟩, .string xk)]) (by kernel_rfl) (by kernel_rfl) ⟨x3, x4, y0, y1, trivial⟩ (fun hB hS => ?_)
          refine wpAnyM_take (i := 0) (v := ?vc0) hB rfl (by kernel_rfl) (fun _ _ _ h => h) (by rfl) ?yc0 hS ?nc0
          case yc0 => (intro w9 hSw; obtain ⟨s1, s2, s3, s4, _⟩ := hSw; go_simp; try with_reducible rfl)
          refine wpAnyM_take (i := 1) (v := ?vc1) hB rfl (by kernel_rfl) (fun _ _ _ h => h) (by rfl) ?yc1 hS ?nc1
          case yc1 => (intro w9 hSw; obtain ⟨s1, s2, s3, s4, _⟩ := hSw; go_simp; try with_reducible rfl)
          refine wpAnyM_take (i := 3) (v := ?vc3) hB rfl (by kernel_rfl) (fun _ _ _ h => h) (by rfl) ?yc3 hS ?nc3
          case yc3 => (intro w9 hSw; obtain ⟨s1, s2, s3, s4, _⟩ := hSw; go_simp; try with_reducible rfl)
          refine wpAnyM_take (i := 4) (v := ?vc4) hB rfl (by kernel_rfl) (fun _ _ _ h => h) (by rfl) ?yc4 hS ?nc4
          case yc4 => (intro w9 hSw; obtain ⟨s1, s2, s3, s4, _⟩ := hSw; go_simp; try with_reducible rfl)
          refine wpAnyM_take (i := 5) (v := ?vc5) hB rfl (by kernel_rfl) (fun _ _ _ h => h) (by rfl) ?yc5 hS ?nc5
          case yc5 => (intro w9 hSw; obtain ⟨s1, s2, s3, s4, _⟩ := hSw; go_simp; try with_reducible rfl)
          refine wpAnyM_take (i := 6) (v := ?vc6) hB rfl (by kernel_rfl) (fun _ _ _ h => h) (by rfl) ?yc6 hS ?nc6
          case yc6 => (intro w9 hSw; obtain ⟨s1, s2, s3, s4, _⟩ := hSw; go_simp; try with_reducible rfl)
          refine wpAnyM_take (i := 7) (v := ?vc7) hB rfl (by kernel_rfl) (fun _ _ _ h => h) (by rfl) ?yc7 hS ?nc7
          case yc7 => (intro w9 hSw; obtain ⟨s1, s2, s3, s4, _⟩ := hSw; go_simp; try with_reducible rfl)
          refine wpAnyM_take (i := 8) (v := ?vc8) hB rfl (by kernel_rfl) (fun _ _ _ h => h) (by rfl) ?yc8 hS ?nc8
          case yc8 => (intro w9 hSw; obtain ⟨s1, s2, s3, s4, _⟩ := hSw; go_simp; try with_reducible rfl)
          refine wpAnyM_take (i := 9) (v := ?vc9) hB rfl (by kernel_rfl) (fun _ _ _ h => h) (by rfl) ?yc9 hS ?nc9
          case yc9 => (intro w9 hSw; obtain ⟨s1, s2, s3, s4, _⟩ := hSw; go_simp; try with_reducible rfl)
          refine wpAnyM_take (i := 10) (v := ?vc10) hB rfl (by kernel_rfl) (fun _ _ _ h => h) (by rfl) ?yc10 hS ?nc10
          case yc10 => (intro w9 hSw; obtain ⟨s1, s2, s3, s4, _⟩ := hSw; go_simp; try with_reducible rfl)
          refine wpAnyM_take (i := 11) (v := ?vc11) hB rfl (by kernel_rfl) (fun _ _ _ h => h) (by rfl) ?yc11 hS ?nc11
          case yc11 => (intro w9 hSw; obtain ⟨s1, s2, s3, s4, _⟩ := hSw; go_simp; try with_reducible rfl)
          refine wpAnyM_take (i := 12) (v := ?vc12) hB rfl (by kernel_rfl) (fun _ _ _ h => h) (by rfl) ?yc12 hS ?nc12
          case yc12 => (intro w9 hSw; obtain ⟨s1, s2, s3, s4, _⟩ := hSw; go_simp; try with_reducible rfl)
          refine wpAnyM_one (i := 2) rfl (by kernel_rfl) rfl ?_
          have HS := Lib.hid hS
          clear hS x3 x4 y0 y1
          go_wp2_with fail
          have Gc : Hid (Grows wr (wb.alloc (.cells #[.slice A0 n0 c0, .slice B0 d0 e0] 25)).drew) := (Gb.out.alloc _).drew
          have HSc : Hid (CellsAre [(⟨w1.heap.size, 0, none⟩, .slice A0 n0 c0), (⟨w1.heap.size + 1, 0, none⟩, .slice B0 d0 e0), (⟨b, o + k * 4, none⟩, .string xs), (⟨b, o + k * 4 + 1, none⟩, .string xk)] (wb.alloc (.cells #[.slice A0 n0 c0, .slice B0 d0 e0] 25)).drew) := by
            have h := CellsAre.keep HS.out ((Grows.refl _).alloc (.cells #[.slice A0 n0 c0, .slice B0 d0 e0] 25))
            exact h
          have hc0 : (wb.alloc (.cells #[.slice A0 n0 c0, .slice B0 d0 e0] 25)).drew.cell? ⟨wb.heap.size, 0, none⟩ = some (.slice A0 n0 c0) := by simp
          have hc1 : (wb.alloc (.cells #[.slice A0 n0 c0, .slice B0 d0 e0] 25)).drew.cell? ⟨wb.heap.size, 1, none⟩ = some (.slice B0 d0 e0) := by simp
          have hgc : wb.heap.size < (wb.alloc (.cells #[.slice A0 n0 c0, .slice B0 d0 e0] 25)).drew.heap.size := by simp
          refine ⟨HSc.out, ?_⟩
          obtain ⟨wc, hwc⟩ : ∃ wc, (wb.alloc (.cells #[.slice A0 n0 c0, .slice B0 d0 e0] 25)).drew = wc := ⟨_, rfl⟩
          rw [hwc] at Gc HSc hc0 hc1 hgc ⊢
          clear hwc HS
          refine wpAnyM_one (i := 13) rfl (by kernel_rfl) rfl ?_
          go_wp2_with fail
          refine (HQ2.out _ _ _ _ wb.heap.size wc ((O0_9.out.keep HG.out).keep Gc.out) ((L0_9.out.keep HG.out).keep Gc.out) hc0 hc1 hgc).mono ?_
          rintro e wd ⟨rfl, gq⟩
          have HSd := Lib.hid (CellsAre.keep HSc.out gq)
          have Gd : Hid (Grows w9 wd) := HG.out.trans (Gc.out.trans gq)
          clear gq HSc hc0 hc1 hgc Gc
          go_wp2_with fail
          refine ⟨HSd.out, ?_⟩
          have hS := HSd.out
          refine wpAnyM_take (i := 14) (v := ?ve14) hB rfl (by kernel_rfl) (fun _ _ _ h => h) (by rfl) ?ye14 hS ?ne14
          case ye14 => (intro w9 hSw; obtain ⟨s1, s2, s3, s4, _⟩ := hSw; go_simp; try with_reducible rfl)
          refine wpAnyM_take (i := 15) (v := ?ve15) hB rfl (by kernel_rfl) (fun _ _ _ h => h) (by rfl) ?ye15 hS ?ne15
          case ye15 => (intro w9 hSw; obtain ⟨s1, s2, s3, s4, _⟩ := hSw; go_simp; try with_reducible rfl)
          refine wpAnyM_take (i := 16) (v := ?ve16) hB rfl (by kernel_rfl) (fun _ _ _ h => h) (by rfl) ?ye16 hS ?ne16
          case ye16 => (intro w9 hSw; obtain ⟨s1, s2, s3, s4, _⟩ := hSw; go_simp; try with_reducible rfl)
          refine wpAnyM_take (i := 17) (v := ?ve17) hB rfl (by kernel_rfl) (fun _ _ _ h => h) (by rfl) ?ye17 hS ?ne17
          case ye17 => (intro w9 hSw; obtain ⟨s1, s2, s3, s4, _⟩ := hSw; go_simp; try with_reducible rfl)
          refine wpAnyM_tail (by kernel_rfl) ?_
          clear hB HSd hS
          rcases π with _ | _
          · go_wp2
            go_roundw
            case rel => exact ⟨k + 1, by omega, by go_num, Gd⟩
            case measure => (simp [intOf]; try omega)
          · go_wp2
            go_roundw
            case rel => exact ⟨k + 1, by omega, by go_num, Gd⟩
            case measure => (simp [intOf]; try omega)
        · have HVT : Hid (vlayer P = true) := HVP.out (by simp)
          go_wp2_with fail
          refine (HVL.out _ _ _ (O4_9.out.keep HG.out)).mono ?_
          rintro e wz ⟨rfl, gq⟩
          have Gz : Hid (Grows w wz) := HG1.out.trans (T9.out.trans (HG.out.trans gq))
          clear gq
          rw [HVT.out]
          go_wp2
          go_ret
          exact ⟨rfl, Gz.out.below⟩
end Go.Proofs.YtnkggfcibbchdaaDoor
