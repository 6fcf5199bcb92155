/-
  The arguments that the drawn laws of SetValue generate. Conditions: none but that the bytes lie in memory.
-/
import Derived.Test.YtclopcbpelhiaaaDrw
namespace Go.Proofs.Ytclopcbpelhiaaa
open Go.RowKit

set_option maxRecDepth 100000 in
set_option maxHeartbeats 2000000 in
theorem DrawSetValue_any (A : Option Addr) (n c : Nat) (w : World) (hn : n ≤ maxLen) (hc : n ≤ c) (h : BytesAt w A n) :
    Calls Try.prog 7 #[.slice A n c] w (DFileSKT w) := by
  have HB := Lib.hid (fun o => h.keep ((Grows.refl w).alloc o))
  clear h
  go_enter Try.func7, Try.ntmps7
  go_wp2_with fail
  refine (newReader_any A n c _ hn hc (HB.out _)).mono ?_
  rintro e w1 ⟨A1, n1, c1, g, rfl, hn1, hg, r1, k1⟩
  have hg1 := Lib.hid r1.lt
  have hgw : w.heap.size < g := by simp at hg; omega
  have Z1 : Hid (Box w1 w.heap.size (.slice none 0 0) 25) := row_grow (heap_alloc_new w _) k1
  have R1 := Lib.hid r1
  have G1 : Hid (Grows w w1) := ((Grows.refl w).alloc _).trans k1
  have S1 : w.heap.size < w1.heap.size := Z1.out.lt
  clear r1 k1 hg HB
  go_wp2_with fail
  refine (keyIn_any g A1 n1 c1 0 _ (by omega) hn1 R1.out).mono ?_
  rintro e w2 ⟨v, K, s, key, rfl, ⟨hS, hK⟩, hO, ⟨hs, hk⟩, q2, a2, b2, r2, k2⟩
  have HSZ := Lib.hid hs
  have HKZ := Lib.hid hk
  clear hs hk
  have hgv : ∀ k, v.ownBlock = some k → k ≠ g ∧ k < w2.heap.size := fun k hk => by have h1 := (hO.lt k hk).1; have h2 := hg1.out; have h3 := (hO.lt k hk).2; omega
  have Z2 : Hid (Box w2 w.heap.size (.slice none 0 0) 25) := row_keep Z1.out k2 (by omega)
  have R2 := Lib.hid r2
  have O2 : Hid (OwnL w2 (w.heap.size + 1) v K) := hO.less S1
  have G2 : Hid (Grows w w2) := G1.out.mark k2 (fun i hi => by injection hi with hi; omega)
  have SS := Lib.hid hS
  clear hS hO r2 k2
  obtain ⟨A0, c0, rfl, _⟩ := O2.out.form
  obtain ⟨m, hm⟩ : ∃ m, K.length = m := ⟨_, rfl⟩
  rw [hm] at O2 hgv ⊢
  clear hm
  have X3 : Hid (Box (w2.alloc (.cells #[.slice A0 m c0] 25)) w2.heap.size (.slice A0 m c0) 25) := heap_alloc_new w2 _
  have Z3 : Hid (Box (w2.alloc (.cells #[.slice A0 m c0] 25)) w.heap.size (.slice none 0 0) 25) := Z2.out.keep ((Grows.refl _).alloc _)
  have O3 := Lib.hid (O2.out.keep ((Grows.refl w2).alloc (.cells #[.slice A0 m c0] 25)))
  have R3 := Lib.hid (R2.out.keep ((Grows.refl w2).alloc (.cells #[.slice A0 m c0] 25)))
  have G3 : Hid (Grows w (w2.alloc (.cells #[.slice A0 m c0] 25))) := G2.out.alloc _
  have S2 : w.heap.size < w2.heap.size := Z2.out.lt
  have HGV := Lib.hid hgv
  clear hgv
  have hgn : g < w2.heap.size := R2.out.lt
  obtain ⟨w3, hw3⟩ : ∃ w3, w2.alloc (.cells #[.slice A0 m c0] 25) = w3 := ⟨_, rfl⟩
  have hs3 : w3.heap.size = w2.heap.size + 1 := by rw [← hw3]; exact World.size_alloc _ _
  have HW3 := Lib.hid hw3
  rw [hw3] at X3 Z3 O3 R3 G3
  have hs4 : w2.heap.size < w3.heap.size := by omega
  have HNE : Hid (w.heap.size ≠ w2.heap.size) := by unfold Hid; omega
  clear hw3 hs3
  go_upto_region 3 with (fail)
  rw [HW3.out]
  clear HW3
  have hx3 := X3.out.cell
  go_wp2_with fail
  refine (pick_any 16 g A1 n1 c1 q2 _ (by omega) (by omega) (by omega) hn1 R3.out).mono ?_
  rintro e w4 ⟨x, rfl, hx0, hx1, r4, k4⟩
  have X4 := Lib.hid (X3.out.far k4 (by intro e; injection e with e; omega))
  have Z4 := Lib.hid (Z3.out.far k4 (by intro e; injection e with e; omega))
  have O4 := Lib.hid (O3.out.far k4 (fun k hk e => by injection e with e; exact (HGV.out k hk).1 e.symm))
  have G4 : Hid (Grows w w4) := G3.out.mark k4 (fun i hi => by injection hi with hi; omega)
  have R4 := Lib.hid r4
  clear hx1 r4 k4 hx3
  by_cases h0 : x = 0
  · subst h0
    go_wp2_with fail
    refine (anyName_any g A1 n1 c1 (q2 + 1) _ (by omega) hn1 R4.out).mono ?_
    rintro e w5 ⟨nn, rfl, hnn, q5, a5, b5, r5, k5⟩
    have X5 := Lib.hid (X4.out.far k5 (by intro e; injection e with e; omega))
    have Z5 := Lib.hid (Z4.out.far k5 (by intro e; injection e with e; omega))
    have O5 := Lib.hid (O4.out.far k5 (fun k hk e => by injection e with e; exact (HGV.out k hk).1 e.symm))
    have G5 : Hid (Grows w w5) := G4.out.mark k5 (fun i hi => by injection hi with hi; omega)
    have R5 := Lib.hid r5
    have HNN := Lib.hid hnn
    clear r5 k5 hnn
    go_wp2_with fail
    have hx5 := X5.out.cell
    have L5 := Lib.hid (show w5.heap.size ≠ g by have := G5.out.size; have := (R5.out.lt); omega)
    go_region_held3 (fun w' => w'.cell? ⟨w2.heap.size, 0, none⟩ = some (.slice A0 m c0)) (first | exact hx5 | exact x1 | exact y1 | go_keep) (first | (go_at_call 25; have HA1 := anyValue_any g A1 n1 c1 q5 w5.drew (by omega) hn1 (R5.out.keep (Grows.refl w5).drew); refine HA1.mono ?_; rintro e w6 h6; obtain ⟨tt, rfl, htt, q6, a6, b6, r6, k6'⟩ := StrRet.of h6 (Grows.refl w5).drew; clear HA1; have k6 := Lib.hid k6'; clear k6'; have X6 := Lib.hid (X5.out.far k6.out (by intro e; injection e with e; omega)); have Z6 := Lib.hid (Z5.out.far k6.out (by intro e; injection e with e; omega)); have x1 := X6.out.cell; have z0 := Z6.out.cell; have zf := Z6.out.free; have y1 := (World.cell?_setCell_other w6 ⟨w.heap.size, 0, none⟩ ⟨w2.heap.size, 0, none⟩ (.slice A0 m c0) (by intro e; have e1 := congrArg Addr.block e; have e2 := HNE.out; simp only at e1; omega)).trans x1; have Htt := Lib.hid htt; clear htt r6))
    have O6 := Lib.hid (O5.out.far k6.out (fun k hk e => by injection e with e; exact (HGV.out k hk).1 e.symm))
    have G6 : Hid (Grows w w6) := G5.out.mark k6.out (fun i hi => by injection hi with hi; omega)
    clear x1 z0 zf y1
    have HZf : Hid (Box (w6.setCell ⟨w.heap.size, 0, none⟩ (.slice A0 m c0)) w.heap.size (.slice A0 m c0) 25) := Z6.out.set_ _
    have HN9 : Hid ((Value.slice A0 m c0).ownBlock ≠ some w.heap.size) := fun e => by have := (O6.out.lt _ e).1; omega
    have HOF := Lib.hid ((O6.out.setFar (i := 0) HN9.out (.slice A0 m c0)).less (show w.heap.size ≤ w.heap.size + 1 by omega))
    have HGF : Hid (Grows w (w6.setCell ⟨w.heap.size, 0, none⟩ (.slice A0 m c0))) := G6.out.setCell (Nat.le_refl _) _
    obtain ⟨wf, hwf⟩ : ∃ wf, w6.setCell ⟨w.heap.size, 0, none⟩ (.slice A0 m c0) = wf := ⟨_, rfl⟩
    rw [hwf] at HZf HOF HGF ⊢
    clear hwf hx5
    have hz := HZf.out.cell
    go_wp2
    refine bodyPost_ret (v := .tuple #[.agg #[.slice A0 m c0], .string s, .string nn, .string tt]) (by simp [results, Try.results7, go_sem, hz]) rfl ?_
    exact ⟨_, K, s, nn, tt, rfl, ⟨SS.out, hK⟩, HOF.out, ⟨HSZ.out, HNN.out, Htt.out⟩, HGF.out⟩
  · have hd : (x == 0) = false := by rw [beq_eq_false_iff_ne]; exact h0
    clear h0
    by_cases h1 : x = 1
    · subst h1
      go_wp2_with fail
      refine (anyName_any g A1 n1 c1 (q2 + 1) _ (by omega) hn1 R4.out).mono ?_
      rintro e w5 ⟨nn, rfl, hnn, q5, a5, b5, r5, k5⟩
      have X5 := Lib.hid (X4.out.far k5 (by intro e; injection e with e; omega))
      have Z5 := Lib.hid (Z4.out.far k5 (by intro e; injection e with e; omega))
      have O5 := Lib.hid (O4.out.far k5 (fun k hk e => by injection e with e; exact (HGV.out k hk).1 e.symm))
      have G5 : Hid (Grows w w5) := G4.out.mark k5 (fun i hi => by injection hi with hi; omega)
      have R5 := Lib.hid r5
      have HNN := Lib.hid hnn
      clear r5 k5 hnn
      go_wp2_with fail
      have hx5 := X5.out.cell
      have L5 := Lib.hid (show w5.heap.size ≠ g by have := G5.out.size; have := (R5.out.lt); omega)
      go_region_held3 (fun w' => w'.cell? ⟨w2.heap.size, 0, none⟩ = some (.slice A0 m c0)) (first | exact hx5 | exact x1 | exact y1 | go_keep) (first | (go_at_call 25; have HA1 := anyValue_any g A1 n1 c1 q5 w5.drew (by omega) hn1 (R5.out.keep (Grows.refl w5).drew); refine HA1.mono ?_; rintro e w6 h6; obtain ⟨tt, rfl, htt, q6, a6, b6, r6, k6'⟩ := StrRet.of h6 (Grows.refl w5).drew; clear HA1; have k6 := Lib.hid k6'; clear k6'; have X6 := Lib.hid (X5.out.far k6.out (by intro e; injection e with e; omega)); have Z6 := Lib.hid (Z5.out.far k6.out (by intro e; injection e with e; omega)); have x1 := X6.out.cell; have z0 := Z6.out.cell; have zf := Z6.out.free; have y1 := (World.cell?_setCell_other w6 ⟨w.heap.size, 0, none⟩ ⟨w2.heap.size, 0, none⟩ (.slice A0 m c0) (by intro e; have e1 := congrArg Addr.block e; have e2 := HNE.out; simp only at e1; omega)).trans x1; have Htt := Lib.hid htt; clear htt r6))
      have O6 := Lib.hid (O5.out.far k6.out (fun k hk e => by injection e with e; exact (HGV.out k hk).1 e.symm))
      have G6 : Hid (Grows w w6) := G5.out.mark k6.out (fun i hi => by injection hi with hi; omega)
      clear x1 z0 zf y1
      have HZf : Hid (Box (w6.setCell ⟨w.heap.size, 0, none⟩ (.slice A0 m c0)) w.heap.size (.slice A0 m c0) 25) := Z6.out.set_ _
      have HN9 : Hid ((Value.slice A0 m c0).ownBlock ≠ some w.heap.size) := fun e => by have := (O6.out.lt _ e).1; omega
      have HOF := Lib.hid ((O6.out.setFar (i := 0) HN9.out (.slice A0 m c0)).less (show w.heap.size ≤ w.heap.size + 1 by omega))
      have HGF : Hid (Grows w (w6.setCell ⟨w.heap.size, 0, none⟩ (.slice A0 m c0))) := G6.out.setCell (Nat.le_refl _) _
      obtain ⟨wf, hwf⟩ : ∃ wf, w6.setCell ⟨w.heap.size, 0, none⟩ (.slice A0 m c0) = wf := ⟨_, rfl⟩
      rw [hwf] at HZf HOF HGF ⊢
      clear hwf hx5
      have hz := HZf.out.cell
      go_wp2
      refine bodyPost_ret (v := .tuple #[.agg #[.slice A0 m c0], .string nn, .string key, .string tt]) (by simp [results, Try.results7, go_sem, hz]) rfl ?_
      exact ⟨_, K, nn, key, tt, rfl, ⟨SS.out, hK⟩, HOF.out, ⟨HNN.out, HKZ.out, Htt.out⟩, HGF.out⟩
    · have hd2 : (x == 1) = false := by rw [beq_eq_false_iff_ne]; exact h1
      clear h1
      go_wp2_with fail
      have hx4 := X4.out.cell
      have L4 := Lib.hid (show w4.heap.size ≠ g by have := G4.out.size; have := (R4.out.lt); omega)
      go_region_held3 (fun w' => w'.cell? ⟨w2.heap.size, 0, none⟩ = some (.slice A0 m c0)) (first | exact hx4 | exact x1 | exact y1 | go_keep) (first | (go_at_call 25; have HA1 := anyValue_any g A1 n1 c1 (q2 + 1) w4.drew (by omega) hn1 (R4.out.keep (Grows.refl w4).drew); refine HA1.mono ?_; rintro e w5 h5; obtain ⟨tt, rfl, htt, q5, a5, b5, r5, k5'⟩ := StrRet.of h5 (Grows.refl w4).drew; clear HA1; have k5 := Lib.hid k5'; clear k5'; have X5 := Lib.hid (X4.out.far k5.out (by intro e; injection e with e; omega)); have Z5 := Lib.hid (Z4.out.far k5.out (by intro e; injection e with e; omega)); have x1 := X5.out.cell; have z0 := Z5.out.cell; have zf := Z5.out.free; have y1 := (World.cell?_setCell_other w5 ⟨w.heap.size, 0, none⟩ ⟨w2.heap.size, 0, none⟩ (.slice A0 m c0) (by intro e; have e1 := congrArg Addr.block e; have e2 := HNE.out; simp only at e1; omega)).trans x1; have Htt := Lib.hid htt; clear htt r5))
      have O5 := Lib.hid (O4.out.far k5.out (fun k hk e => by injection e with e; exact (HGV.out k hk).1 e.symm))
      have G5 : Hid (Grows w w5) := G4.out.mark k5.out (fun i hi => by injection hi with hi; omega)
      clear x1 z0 zf y1
      have HZf : Hid (Box (w5.setCell ⟨w.heap.size, 0, none⟩ (.slice A0 m c0)) w.heap.size (.slice A0 m c0) 25) := Z5.out.set_ _
      have HN9 : Hid ((Value.slice A0 m c0).ownBlock ≠ some w.heap.size) := fun e => by have := (O5.out.lt _ e).1; omega
      have HOF := Lib.hid ((O5.out.setFar (i := 0) HN9.out (.slice A0 m c0)).less (show w.heap.size ≤ w.heap.size + 1 by omega))
      have HGF : Hid (Grows w (w5.setCell ⟨w.heap.size, 0, none⟩ (.slice A0 m c0))) := G5.out.setCell (Nat.le_refl _) _
      obtain ⟨wf, hwf⟩ : ∃ wf, w5.setCell ⟨w.heap.size, 0, none⟩ (.slice A0 m c0) = wf := ⟨_, rfl⟩
      rw [hwf] at HZf HOF HGF ⊢
      clear hwf hx4
      have hz := HZf.out.cell
      go_wp2
      refine bodyPost_ret (v := .tuple #[.agg #[.slice A0 m c0], .string s, .string key, .string tt]) (by simp [results, Try.results7, go_sem, hz]) rfl ?_
      exact ⟨_, K, s, key, tt, rfl, ⟨SS.out, hK⟩, HOF.out, ⟨HSZ.out, HKZ.out, Htt.out⟩, HGF.out⟩
end Go.Proofs.Ytclopcbpelhiaaa
