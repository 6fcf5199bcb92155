/-
  The arguments that the drawn law of SameLayers generates. Conditions: none but that the bytes lie in memory.
-/
import Derived.Test.YtgjineoiebokhaaDoorDrwL
import Derived.Test.YtgjineoiebokhaaDoorCutS
namespace Go.Proofs.YtgjineoiebokhaaDoor
open Go.RowKit

/-- a call's end: two layers -/
def DLay2 (w : World) (e : Ending) (w' : World) : Prop := ∃ (v : Value) (K : List Ent) (u : Value) (L : List Ent), e = .returned (.tuple #[.agg #[v], .agg #[u]]) ∧ (ShortE K ∧ K.length ≤ 101) ∧ (ShortE L ∧ L.length ≤ 101) ∧ OwnE w' w.heap.size v K ∧ OwnE w' w.heap.size u L ∧ Grows w w'
theorem CellsAre.set_far {w : World} {b j : Nat} {u : Value} : ∀ {l : List (Addr × Value)}, CellsAre l w → (∀ x ∈ l, x.1.block ≠ b) → CellsAre l (w.setCell ⟨b, j, none⟩ u)
  | [], _, _ => trivial
  | (p, v) :: l, h, hne => by
    refine ⟨(World.cell?_setCell_other w ⟨b, j, none⟩ p u (fun e => ?_)).trans h.1, CellsAre.set_far h.2 (fun y hy => hne y (List.mem_cons_of_mem _ hy))⟩
    have h1 := hne (p, v) List.mem_cons_self
    have e1 := congrArg Addr.block e
    simp only at e1 h1
    omega
theorem news_keep {w w' : World} {ad : Addr} {xs : List Value} (h : ∀ j u, xs[j]? = some u → w.cell? (ad.add j) = some u) (g : Grows w w') (hb : ad.block < w.heap.size) : ∀ j u, xs[j]? = some u → w'.cell? (ad.add j) = some u :=
  fun j u hj => (g.cell (p := ad.add j) (by unfold Addr.add; split <;> exact hb)).trans (h j u hj)
theorem ShortE.rot {K : List Ent} (h : ShortE K) {e : Ent} (he : e ∈ K) : ShortE (K.drop 1 ++ [e]) := by
  intro x hx
  rcases List.mem_append.1 hx with h1 | h1
  · exact h x (List.mem_of_mem_drop h1)
  · rw [List.mem_singleton] at h1
    rw [h1]
    exact h e he

set_option maxRecDepth 100000 in
set_option maxHeartbeats 4000000 in
theorem DrawSameLayers_any (A : Option Addr) (n c : Nat) (w : World) (hn : n ≤ maxLen) (hc : n ≤ c) (h : BytesAt w A n) :
    Calls Tryd.prog 23 #[.slice A n c] w (DLay2 w) := by
  have HB := Lib.hid (fun o o2 => h.keep (((Grows.refl w).alloc o).alloc o2))
  clear h
  go_enter Tryd.func23, Tryd.ntmps23
  go_wp2_with fail
  refine (newReader_any A n c _ hn hc (HB.out _ _)).mono ?_
  rintro e w1 ⟨A1, n1, c1, g, rfl, hn1, hg, r1, k1⟩
  have hg1 := Lib.hid r1.lt
  have hgw : w.heap.size + 1 < g := by simp at hg; omega
  have Z1 : Hid (Box w1 w.heap.size (.slice none 0 0) 25) := row_grow (row_grow (heap_alloc_new w _) ((Grows.refl _).alloc _)) k1
  have V1 : Hid (Box w1 (w.heap.size + 1) (.slice none 0 0) 25) := row_grow (alloc_new2 w _ _) k1
  have R1 := Lib.hid r1
  have G1 : Hid (Grows w w1) := (((Grows.refl w).alloc _).alloc _).trans k1
  have S1 : w.heap.size + 1 < w1.heap.size := V1.out.lt
  clear r1 k1 hg HB
  go_wp2_with fail
  refine (someLayer_any g A1 n1 c1 0 _ (by omega) hn1 R1.out).mono ?_
  rintro e w2 ⟨v, K, rfl, hS, hK, hO, q2, a2, b2, r2, k2⟩
  have hgv : ∀ k, v.ownBlock = some k → k ≠ g ∧ k < w2.heap.size := fun k hk => by have h1 := (hO.lt k hk).1; have h2 := hg1.out; have h3 := (hO.lt k hk).2; omega
  have Z2 : Hid (Box w2 w.heap.size (.slice none 0 0) 25) := row_keep Z1.out k2 (by omega)
  have V2 : Hid (Box w2 (w.heap.size + 1) (.slice none 0 0) 25) := row_keep V1.out k2 (by omega)
  have R2 := Lib.hid r2
  have O2 : Hid (OwnE w2 (w.heap.size + 2) v K) := hO.less (by omega)
  have G2 : Hid (Grows w w2) := G1.out.mark k2 (fun i hi => by injection hi with hi; omega)
  have SS := Lib.hid hS
  have S2 : w.heap.size + 1 < w2.heap.size := V2.out.lt
  have hgn : g < w2.heap.size := r2.lt
  clear hS hO r2 k2 Z1 V1 R1 G1 hg1
  obtain ⟨A0, c0, rfl, hc0, _⟩ := OwnE.formC O2.out
  obtain ⟨m, hm⟩ : ∃ m, K.length = m := ⟨_, rfl⟩
  rw [hm] at O2 hgv hc0 ⊢
  have HM := Lib.hid hm
  have hmK : m ≤ 101 := by omega
  clear hm
  have X3 : Hid (Box (w2.alloc (.cells #[.slice A0 m c0] 25)) w2.heap.size (.slice A0 m c0) 25) := heap_alloc_new w2 _
  have Z3 := Lib.hid (Z2.out.keep ((Grows.refl w2).alloc (.cells #[.slice A0 m c0] 25)))
  have V3 := Lib.hid (V2.out.keep ((Grows.refl w2).alloc (.cells #[.slice A0 m c0] 25)))
  have O3 := Lib.hid (O2.out.keep ((Grows.refl w2).alloc (.cells #[.slice A0 m c0] 25)))
  have R3 := Lib.hid (R2.out.keep ((Grows.refl w2).alloc (.cells #[.slice A0 m c0] 25)))
  have G3 : Hid (Grows w (w2.alloc (.cells #[.slice A0 m c0] 25))) := G2.out.alloc _
  have HGV := Lib.hid hgv
  clear hgv
  obtain ⟨w3, hw3⟩ : ∃ w3, w2.alloc (.cells #[.slice A0 m c0] 25) = w3 := ⟨_, rfl⟩
  have hs3 : w3.heap.size = w2.heap.size + 1 := by rw [← hw3]; exact World.size_alloc _ _
  have HW3 := Lib.hid hw3
  rw [hw3] at X3 Z3 V3 O3 R3 G3
  clear hw3 Z2 V2 O2 R2 G2
  go_upto_region 3 with (fail)
  rw [HW3.out]
  clear HW3
  have hx3 := X3.out.cell
  by_cases h1 : 1 < m
  · have hd1 : decide ((1 : Int) < (m : Int)) = true := by simp; omega
    go_wp2_with fail
    refine (pick_any 2 g A1 n1 c1 q2 _ (by omega) (by omega) (by omega) hn1 R3.out).mono ?_
    rintro e w4 ⟨x, rfl, hx0, hx1, r4, k4⟩
    have X4 := Lib.hid (X3.out.far k4 (by intro e; injection e with e; omega))
    have Z4 := Lib.hid (Z3.out.far k4 (by intro e; injection e with e; omega))
    have V4 := Lib.hid (V3.out.far k4 (by intro e; injection e with e; omega))
    have O4 := Lib.hid (O3.out.far k4 (fun k hk e => by injection e with e; exact (HGV.out k hk).1 e.symm))
    have G4 : Hid (Grows w w4) := G3.out.mark k4 (fun i hi => by injection hi with hi; omega)
    have R4 := Lib.hid r4
    clear hx1 r4 k4 hx3 X3 Z3 V3 O3 R3 G3 hd1
    by_cases h0 : x = 0
    · subst h0
      have hk0 : 0 < K.length := by rw [HM.out]; omega
      have O4K := O4.out
      rw [← HM.out] at O4K
      obtain ⟨gv, cv, hv9, hgv0, hgv1⟩ := O4K.row2 hk0
      injection hv9 with hv91 hv92 hv93
      subst hv91
      subst hv93
      clear hv92 O4K
      have h4 := O4.out.at4 HM.out hk0
      have hsh := SS.out.rot (List.getElem_mem hk0)
      obtain ⟨⟨es, ek, eo, ev⟩, hee⟩ : ∃ e, K[0] = e := ⟨_, rfl⟩
      rw [hee] at h4 hsh
      obtain ⟨z0, z1, z2, z3⟩ := h4
      rw [Nat.zero_mul] at z0
      simp only [Nat.zero_mul, Nat.zero_add] at z1 z2 z3
      simp only at z0 z1 z2 z3
      clear hee
      have HSH := Lib.hid hsh
      clear hsh
      have hb1 := X4.out.cell
      have hdl : (K.drop 1).length = m - 1 := by rw [List.length_drop, HM.out]
      have HDL := Lib.hid hdl
      clear hdl
      have HCP := Lib.hid (fun w' (gg : Grows w4 w') => specCopyE_any ⟨gv, 0 + 1 * 4, none⟩ (c0 - 1) (K.drop 1) w' (by rw [HDL.out]; omega) (EntsAt.drop ((OwnE.form (HM.out ▸ O4.out : OwnE w4 (w.heap.size + 2) (.slice (some ⟨gv, 0, none⟩) K.length c0) K)).elim fun A' h' => h'.elim fun c' h'' => by injection h''.1 with e1 e2 e3; rw [e1]; exact h''.2.keep gg) 1))
      unfold RetE at HCP
      rw [HDL.out] at HCP
      have hm1 : (1 : Nat) ≤ m := by omega
      have hm0 : 0 < m := by omega
      have hm1i : (1 : Int) ≤ (m : Int) := by omega
      have hc1i : (m : Int) ≤ (c0 : Int) := by omega
      have hc1 : (1 : Nat) ≤ c0 := by omega
      have hne1 : ¬ m = 1 := by omega
      have hne2 : ¬ c0 = 1 := by omega
      have hne3 : ¬ 1 = m := by omega
      have hne4 : ¬ 1 = c0 := by omega
      have HS0 : Hid (CellsAre [(⟨w2.heap.size, 0, none⟩, .slice (some ⟨gv, 0, none⟩) m c0), (⟨gv, 0, none⟩, .string es), (⟨gv, 1, none⟩, .string ek), (⟨gv, 2, none⟩, .int .i64 eo), (⟨gv, 3, none⟩, .string ev)] w4) := ⟨hb1, z0, z1, z2, z3, trivial⟩
      go_wp2_with fail
      refine wp_region_M 13 (CellsAre [(⟨w2.heap.size, 0, none⟩, .slice (some ⟨gv, 0, none⟩) m c0), (⟨gv, 0, none⟩, .string es), (⟨gv, 1, none⟩, .string ek), (⟨gv, 2, none⟩, .int .i64 eo), (⟨gv, 3, none⟩, .string ev)]) (by kernel_rfl) (by kernel_rfl) ⟨hb1, z0, z1, z2, z3, trivial⟩ (fun hB hS => ?_)
      refine wpAnyM_take (i := 0) (v := ?vr0) hB rfl (by kernel_rfl) (fun _ _ _ h => h) (by rfl) ?yr0 hS ?nr0
      case yr0 => (intro w9 hSw; obtain ⟨s1, s2, s3, s4, s5, _⟩ := hSw; go_simp; try with_reducible rfl)
      refine wpAnyM_take (i := 1) (v := ?vr1) hB rfl (by kernel_rfl) (fun _ _ _ h => h) (by rfl) ?yr1 hS ?nr1
      case yr1 => (intro w9 hSw; obtain ⟨s1, s2, s3, s4, s5, _⟩ := hSw; go_simp; try with_reducible rfl)
      refine wpAnyM_take (i := 2) (v := ?vr2) hB rfl (by kernel_rfl) (fun _ _ _ h => h) (by rfl) ?yr2 hS ?nr2
      case yr2 => (intro w9 hSw; obtain ⟨s1, s2, s3, s4, s5, _⟩ := hSw; go_simp; try with_reducible rfl)
      refine wpAnyM_take (i := 3) (v := ?vr3) hB rfl (by kernel_rfl) (fun _ _ _ h => h) (by rfl) ?yr3 hS ?nr3
      case yr3 => (intro w9 hSw; obtain ⟨s1, s2, s3, s4, s5, _⟩ := hSw; go_simp; try with_reducible rfl)
      refine wpAnyM_take (i := 5) (v := ?vr5) hB rfl (by kernel_rfl) (fun _ _ _ h => h) (by rfl) ?yr5 hS ?nr5
      case yr5 => (intro w9 hSw; obtain ⟨s1, s2, s3, s4, s5, _⟩ := hSw; go_simp; try with_reducible rfl)
      refine wpAnyM_take (i := 6) (v := ?vr6) hB rfl (by kernel_rfl) (fun _ _ _ h => h) (by rfl) ?yr6 hS ?nr6
      case yr6 => (intro w9 hSw; obtain ⟨s1, s2, s3, s4, s5, _⟩ := hSw; go_simp; try with_reducible rfl)
      refine wpAnyM_take (i := 7) (v := ?vr7) hB rfl (by kernel_rfl) (fun _ _ _ h => h) (by rfl) ?yr7 hS ?nr7
      case yr7 => (intro w9 hSw; obtain ⟨s1, s2, s3, s4, s5, _⟩ := hSw; go_simp; try with_reducible rfl)
      refine wpAnyM_take (i := 8) (v := ?vr8) hB rfl (by kernel_rfl) (fun _ _ _ h => h) (by rfl) ?yr8 hS ?nr8
      case yr8 => (intro w9 hSw; obtain ⟨s1, s2, s3, s4, s5, _⟩ := hSw; go_simp; try with_reducible rfl)
      have HS1 := Lib.hid hS
      clear hS hb1 z0 z1 z2 z3
      refine wpAnyM_two (i := 4) (j := 9) rfl rfl (by kernel_rfl) rfl rfl ?_ ?_
      · go_wp2_with fail
        refine (HCP.out _ (Grows.refl w4).drew).mono ?_
        rintro e wy ⟨v1, rfl, hv1, gg⟩
        have HV1 : Hid (∀ k, v1.ownBlock = some k → w4.heap.size ≤ k) := fun k hk => Nat.le_trans ((Grows.refl w4).drew).size (hv1.lt k hk).1
        have H0 : Hid (OwnE wy (w.heap.size + 2) v1 (K.drop 1)) := hv1.less (Nat.le_trans (show w.heap.size + 2 ≤ w4.heap.size by omega) ((Grows.refl w4).drew).size)
        clear hv1
        have GY : Hid (Grows w4 wy) := (Grows.refl w4).drew.trans gg
        have HS2 := Lib.hid (CellsAre.keep HS0.out GY.out)
        clear gg HS1
        go_wp2_with fail
        refine ⟨HS2.out, ?_⟩
        refine wpAnyM_one (i := 9) rfl (by kernel_rfl) rfl ?_
        go_wp2_with fail
        have HSx := Lib.hid (CellsAre.keep HS2.out ((Grows.refl wy).alloc (.cells #[.string es, .string ek, .int .i64 eo, .string ev] 31)))
        have H1 := Lib.hid (H0.out.keep ((Grows.refl wy).alloc (.cells #[.string es, .string ek, .int .i64 eo, .string ev] 31)))
        clear H0 HS2
        refine ⟨HSx.out, ?_⟩
        clear HSx
        have HNEWS := Lib.hid (one_newsE wy ⟨es, ek, eo, ev⟩ 31 rfl)
        have Z5 := Lib.hid (Z4.out.keep (GY.out.alloc (.cells #[.string es, .string ek, .int .i64 eo, .string ev] 31)))
        have V5 := Lib.hid (V4.out.keep (GY.out.alloc (.cells #[.string es, .string ek, .int .i64 eo, .string ev] 31)))
        have O5 := Lib.hid (O4.out.keep (GY.out.alloc (.cells #[.string es, .string ek, .int .i64 eo, .string ev] 31)))
        have G5 : Hid (Grows w (wy.alloc (.cells #[.string es, .string ek, .int .i64 eo, .string ev] 31))) := G4.out.trans (GY.out.alloc (.cells #[.string es, .string ek, .int .i64 eo, .string ev] 31))
        have hbase : w.heap.size + 2 ≤ (wy.alloc (.cells #[.string es, .string ek, .int .i64 eo, .string ev] 31)).heap.size := Nat.le_trans (show w.heap.size + 2 ≤ w4.heap.size by omega) ((GY.out.alloc (.cells #[.string es, .string ek, .int .i64 eo, .string ev] 31))).size
        refine wpAnyM_one (i := 10) rfl (by kernel_rfl) rfl ?_
        refine appEs rfl (.tmp 23) (.tmp 28) rfl (w.heap.size + 2) v1 (K.drop 1) (by simp [Act.eval]) H1.out ⟨wy.heap.size, 0, none⟩ 1 1 [⟨es, ek, eo, ev⟩] (by simp [Act.eval]) rfl (by omega) HNEWS.out (by rw [HDL.out]; omega) (by omega) hbase ?_
        intro v2 w6 HO6 HGB HNE
        obtain ⟨A9, n9, c9, rfl⟩ := OwnE.form3 HO6.out
        have GY6 : Hid (Grows w4 w6) := Grows.mark (GY.out.alloc (.cells #[.string es, .string ek, .int .i64 eo, .string ev] 31)) HGB.out (fun i hi => HV1.out i hi)
        have HS6 := Lib.hid (CellsAre.keep HS0.out GY6.out)
        have Z6 := Lib.hid (Z5.out.far HGB.out (fun e => by have := HV1.out _ e; omega))
        have V6 := Lib.hid (V5.out.far HGB.out (fun e => by have := HV1.out _ e; omega))
        have O6 := Lib.hid (O5.out.far HGB.out (fun k hk e => by have h7 := HV1.out k e; have h8 : some gv = some k := hk; injection h8 with h8; omega))
        have G6 : Hid (Grows w w6) := G5.out.mark HGB.out (fun i hi => by have := HV1.out i hi; omega)
        have Za := Lib.hid (Z6.out.set_ (.slice (some ⟨gv, 0, none⟩) m c0))
        have Va := Lib.hid (V6.out.far (gb_set (World.grownBy.refl w6 (some w.heap.size)) 0 (.slice (some ⟨gv, 0, none⟩) m c0)) (by intro e; injection e with e; omega))
        go_wp2_with fail
        refine ⟨HS6.out, ?_⟩
        have hS := HS6.out
        refine wpAnyM_take (i := 11) (v := ?vqa11) hB rfl (by kernel_rfl) (fun _ _ _ h => h) (by rfl) ?yqa11 hS ?nqa11
        case yqa11 => (intro w9 hSw; obtain ⟨s1, s2, s3, s4, s5, _⟩ := hSw; go_simp; try with_reducible rfl)
        clear hS
        refine wpAnyM_one (i := 12) rfl (by kernel_rfl) rfl ?_
        have z0 := Z6.out.cell
        have zf := Z6.out.free
        go_wp2_with fail
        refine ⟨CellsAre.set_far HS6.out (by intro x hx; simp at hx; rcases hx with rfl | rfl | rfl | rfl | rfl <;> (simp only; omega)), ?_⟩
        clear z0 zf
        refine wpAnyM_tail (by kernel_rfl) ?_
        clear hB HS6 HS0
        have v0 := Va.out.cell
        have vf := Va.out.free
        clear HGB HNE Z5 V5 O5 G5 HNEWS
        have hn1' : ((Value.slice (some ⟨gv, 0, none⟩) m c0).ownBlock ≠ some w.heap.size) := fun e => by have := (O6.out.lt _ e).1; omega
        have hn2' : ((Value.slice (some ⟨gv, 0, none⟩) m c0).ownBlock ≠ some (w.heap.size + 1)) := fun e => by have := (O6.out.lt _ e).1; omega
        have hn3' : ((Value.slice A9 n9 c9).ownBlock ≠ some w.heap.size) := fun e => by have := (HO6.out.lt _ e).1; omega
        have hn4' : ((Value.slice A9 n9 c9).ownBlock ≠ some (w.heap.size + 1)) := fun e => by have := (HO6.out.lt _ e).1; omega
        have OKf := Lib.hid (((O6.out.setFar (i := 0) hn1' (.slice (some ⟨gv, 0, none⟩) m c0)).setFar (i := 0) hn2' (.slice A9 n9 c9)).less (show w.heap.size ≤ w.heap.size + 2 by omega))
        have OLf := Lib.hid (((HO6.out.setFar (i := 0) hn3' (.slice (some ⟨gv, 0, none⟩) m c0)).setFar (i := 0) hn4' (.slice A9 n9 c9)).less (show w.heap.size ≤ w.heap.size + 2 by omega))
        have GF : Hid (Grows w ((w6.setCell ⟨w.heap.size, 0, none⟩ (.slice (some ⟨gv, 0, none⟩) m c0)).setCell ⟨w.heap.size + 1, 0, none⟩ (.slice A9 n9 c9))) := (G6.out.setCell (Nat.le_refl _) _).setCell (Nat.le_succ _) _
        have ZF := Lib.hid (Za.out.far (gb_set (World.grownBy.refl _ (some (w.heap.size + 1))) 0 (.slice A9 n9 c9)) (by intro e; injection e with e; omega))
        have VF := Lib.hid (Va.out.set_ (.slice A9 n9 c9))
        go_wp2
        obtain ⟨wf, hwf⟩ : ∃ wf, (w6.setCell ⟨w.heap.size, 0, none⟩ (.slice (some ⟨gv, 0, none⟩) m c0)).setCell ⟨w.heap.size + 1, 0, none⟩ (.slice A9 n9 c9) = wf := ⟨_, rfl⟩
        rw [hwf] at OKf OLf GF ZF VF ⊢
        clear hwf
        have hz := ZF.out.cell
        have hv := VF.out.cell
        refine bodyPost_ret (v := .tuple #[.agg #[.slice (some ⟨gv, 0, none⟩) m c0], .agg #[.slice A9 n9 c9]]) (by simp [results, Tryd.results23, go_sem, hz, hv]) rfl ?_
        exact ⟨_, K, _, K.drop 1 ++ [(⟨es, ek, eo, ev⟩ : Ent)], rfl, ⟨SS.out, hK⟩, ⟨HSH.out, by rw [List.length_append, HDL.out]; simp; omega⟩, OKf.out, OLf.out, GF.out⟩
      · go_wp2_with fail
        have HS2 := Lib.hid (CellsAre.keep HS0.out ((Grows.refl w4).alloc (.cells #[.string es, .string ek, .int .i64 eo, .string ev] 31)).drew)
        clear HS1
        refine ⟨HS2.out, ?_⟩
        refine wpAnyM_one (i := 4) rfl (by kernel_rfl) rfl ?_
        go_wp2_with fail
        refine (HCP.out _ ((Grows.refl w4).alloc (.cells #[.string es, .string ek, .int .i64 eo, .string ev] 31)).drew).mono ?_
        rintro e wy ⟨v1, rfl, hv1, gg⟩
        have HV1 : Hid (∀ k, v1.ownBlock = some k → w4.heap.size ≤ k) := fun k hk => Nat.le_trans (((Grows.refl w4).alloc (.cells #[.string es, .string ek, .int .i64 eo, .string ev] 31)).drew).size (hv1.lt k hk).1
        have H0 : Hid (OwnE wy (w.heap.size + 2) v1 (K.drop 1)) := hv1.less (Nat.le_trans (show w.heap.size + 2 ≤ w4.heap.size by omega) (((Grows.refl w4).alloc (.cells #[.string es, .string ek, .int .i64 eo, .string ev] 31)).drew).size)
        clear hv1
        have GY : Hid (Grows w4 wy) := ((Grows.refl w4).alloc (.cells #[.string es, .string ek, .int .i64 eo, .string ev] 31)).drew.trans gg
        have HSx := Lib.hid (CellsAre.keep HS2.out gg)
        have H1 := H0
        clear H0 HS2
        have HNW := Lib.hid (news_keep (w := (w4.alloc (.cells #[.string es, .string ek, .int .i64 eo, .string ev] 31)).drew) (one_newsE w4 ⟨es, ek, eo, ev⟩ 31 rfl) gg (by show w4.heap.size < (w4.alloc (.cells #[.string es, .string ek, .int .i64 eo, .string ev] 31)).heap.size; rw [World.size_alloc]; omega))
        clear gg
        go_wp2_with fail
        refine ⟨HSx.out, ?_⟩
        clear HSx
        have HNEWS := Lib.hid (HNW.out)
        have Z5 := Lib.hid (Z4.out.keep GY.out)
        have V5 := Lib.hid (V4.out.keep GY.out)
        have O5 := Lib.hid (O4.out.keep GY.out)
        have G5 : Hid (Grows w wy) := G4.out.trans GY.out
        have hbase : w.heap.size + 2 ≤ wy.heap.size := Nat.le_trans (show w.heap.size + 2 ≤ w4.heap.size by omega) (GY.out).size
        refine wpAnyM_one (i := 10) rfl (by kernel_rfl) rfl ?_
        refine appEs rfl (.tmp 23) (.tmp 28) rfl (w.heap.size + 2) v1 (K.drop 1) (by simp [Act.eval]) H1.out ⟨w4.heap.size, 0, none⟩ 1 1 [⟨es, ek, eo, ev⟩] (by simp [Act.eval]) rfl (by omega) HNEWS.out (by rw [HDL.out]; omega) (by omega) hbase ?_
        intro v2 w6 HO6 HGB HNE
        obtain ⟨A9, n9, c9, rfl⟩ := OwnE.form3 HO6.out
        have GY6 : Hid (Grows w4 w6) := Grows.mark GY.out HGB.out (fun i hi => HV1.out i hi)
        have HS6 := Lib.hid (CellsAre.keep HS0.out GY6.out)
        have Z6 := Lib.hid (Z5.out.far HGB.out (fun e => by have := HV1.out _ e; omega))
        have V6 := Lib.hid (V5.out.far HGB.out (fun e => by have := HV1.out _ e; omega))
        have O6 := Lib.hid (O5.out.far HGB.out (fun k hk e => by have h7 := HV1.out k e; have h8 : some gv = some k := hk; injection h8 with h8; omega))
        have G6 : Hid (Grows w w6) := G5.out.mark HGB.out (fun i hi => by have := HV1.out i hi; omega)
        have Za := Lib.hid (Z6.out.set_ (.slice (some ⟨gv, 0, none⟩) m c0))
        have Va := Lib.hid (V6.out.far (gb_set (World.grownBy.refl w6 (some w.heap.size)) 0 (.slice (some ⟨gv, 0, none⟩) m c0)) (by intro e; injection e with e; omega))
        go_wp2_with fail
        refine ⟨HS6.out, ?_⟩
        have hS := HS6.out
        refine wpAnyM_take (i := 11) (v := ?vqb11) hB rfl (by kernel_rfl) (fun _ _ _ h => h) (by rfl) ?yqb11 hS ?nqb11
        case yqb11 => (intro w9 hSw; obtain ⟨s1, s2, s3, s4, s5, _⟩ := hSw; go_simp; try with_reducible rfl)
        clear hS
        refine wpAnyM_one (i := 12) rfl (by kernel_rfl) rfl ?_
        have z0 := Z6.out.cell
        have zf := Z6.out.free
        go_wp2_with fail
        refine ⟨CellsAre.set_far HS6.out (by intro x hx; simp at hx; rcases hx with rfl | rfl | rfl | rfl | rfl <;> (simp only; omega)), ?_⟩
        clear z0 zf
        refine wpAnyM_tail (by kernel_rfl) ?_
        clear hB HS6 HS0
        have v0 := Va.out.cell
        have vf := Va.out.free
        clear HGB HNE Z5 V5 O5 G5 HNEWS
        have hn1' : ((Value.slice (some ⟨gv, 0, none⟩) m c0).ownBlock ≠ some w.heap.size) := fun e => by have := (O6.out.lt _ e).1; omega
        have hn2' : ((Value.slice (some ⟨gv, 0, none⟩) m c0).ownBlock ≠ some (w.heap.size + 1)) := fun e => by have := (O6.out.lt _ e).1; omega
        have hn3' : ((Value.slice A9 n9 c9).ownBlock ≠ some w.heap.size) := fun e => by have := (HO6.out.lt _ e).1; omega
        have hn4' : ((Value.slice A9 n9 c9).ownBlock ≠ some (w.heap.size + 1)) := fun e => by have := (HO6.out.lt _ e).1; omega
        have OKf := Lib.hid (((O6.out.setFar (i := 0) hn1' (.slice (some ⟨gv, 0, none⟩) m c0)).setFar (i := 0) hn2' (.slice A9 n9 c9)).less (show w.heap.size ≤ w.heap.size + 2 by omega))
        have OLf := Lib.hid (((HO6.out.setFar (i := 0) hn3' (.slice (some ⟨gv, 0, none⟩) m c0)).setFar (i := 0) hn4' (.slice A9 n9 c9)).less (show w.heap.size ≤ w.heap.size + 2 by omega))
        have GF : Hid (Grows w ((w6.setCell ⟨w.heap.size, 0, none⟩ (.slice (some ⟨gv, 0, none⟩) m c0)).setCell ⟨w.heap.size + 1, 0, none⟩ (.slice A9 n9 c9))) := (G6.out.setCell (Nat.le_refl _) _).setCell (Nat.le_succ _) _
        have ZF := Lib.hid (Za.out.far (gb_set (World.grownBy.refl _ (some (w.heap.size + 1))) 0 (.slice A9 n9 c9)) (by intro e; injection e with e; omega))
        have VF := Lib.hid (Va.out.set_ (.slice A9 n9 c9))
        go_wp2
        obtain ⟨wf, hwf⟩ : ∃ wf, (w6.setCell ⟨w.heap.size, 0, none⟩ (.slice (some ⟨gv, 0, none⟩) m c0)).setCell ⟨w.heap.size + 1, 0, none⟩ (.slice A9 n9 c9) = wf := ⟨_, rfl⟩
        rw [hwf] at OKf OLf GF ZF VF ⊢
        clear hwf
        have hz := ZF.out.cell
        have hv := VF.out.cell
        refine bodyPost_ret (v := .tuple #[.agg #[.slice (some ⟨gv, 0, none⟩) m c0], .agg #[.slice A9 n9 c9]]) (by simp [results, Tryd.results23, go_sem, hz, hv]) rfl ?_
        exact ⟨_, K, _, K.drop 1 ++ [(⟨es, ek, eo, ev⟩ : Ent)], rfl, ⟨SS.out, hK⟩, ⟨HSH.out, by rw [List.length_append, HDL.out]; simp; omega⟩, OKf.out, OLf.out, GF.out⟩
    · have hd : (x == 0) = false := by rw [beq_eq_false_iff_ne]; exact h0
      clear h0
      go_wp2_with fail
      have hx4 := X4.out.cell
      have hszi : w2.heap.size < w4.heap.size := X4.out.lt
      go_region_held3 (fun w' => w'.cell? ⟨w2.heap.size, 0, none⟩ = some (.slice A0 m c0)) (first | exact hx4 | exact x1 | exact xa | exact xb | go_keep) (first | (go_at_call 40; have HA1 := someLayer_any g A1 n1 c1 (q2 + 1) w4.drew (by omega) hn1 (R4.out.keep (Grows.refl w4).drew); refine HA1.mono ?_; rintro e w9 ⟨u, L, rfl, hS9, hL9, hO9, q9, a9, b9, r9, k9'⟩; clear HA1; have k9 : Hid (w4.grownBy w9 (some g)) := (gb_of (Grows.refl w4).drew).trans k9'; clear k9' r9; obtain ⟨A9, n9, c9, hu9⟩ := OwnE.form3 hO9; subst hu9; have HS9 := Lib.hid hS9; have HO9 := Lib.hid hO9; clear hS9 hO9; have X9 := Lib.hid (X4.out.far k9.out (by intro e; injection e with e; omega)); have Z9 := Lib.hid (Z4.out.far k9.out (by intro e; injection e with e; omega)); have V9 := Lib.hid (V4.out.far k9.out (by intro e; injection e with e; omega)); have Za := Lib.hid (Z9.out.set_ (.slice A0 m c0)); have Va := Lib.hid (V9.out.far (gb_set (World.grownBy.refl w9 (some w.heap.size)) 0 (.slice A0 m c0)) (by intro e; injection e with e; omega)); have Xa := Lib.hid (X9.out.far (gb_set (World.grownBy.refl w9 (some w.heap.size)) 0 (.slice A0 m c0)) (by intro e; injection e with e; omega)); have Xb := Lib.hid (Xa.out.far (gb_set (World.grownBy.refl _ (some (w.heap.size + 1))) 0 (.slice A9 n9 c9)) (by intro e; injection e with e; omega)); have z0 := Z9.out.cell; have zf := Z9.out.free; have v0 := Va.out.cell; have vf := Va.out.free; have x1 := X9.out.cell; have xa := Xa.out.cell; have xb := Xb.out.cell))
      clear x1 xa xb z0 zf v0 vf hx4
      have OK9 := Lib.hid (O4.out.far k9.out (fun k hk e => by injection e with e; exact (HGV.out k hk).1 e.symm))
      have G9 : Hid (Grows w w9) := G4.out.mark k9.out (fun i hi => by injection hi with hi; omega)
      have hn1' : ((Value.slice A0 m c0).ownBlock ≠ some w.heap.size) := fun e => by have := (OK9.out.lt _ e).1; omega
      have hn2' : ((Value.slice A0 m c0).ownBlock ≠ some (w.heap.size + 1)) := fun e => by have := (OK9.out.lt _ e).1; omega
      have hn3' : ((Value.slice A9 n9 c9).ownBlock ≠ some w.heap.size) := fun e => by have := (HO9.out.lt _ e).1; have h9 : w4.drew.heap.size = w4.heap.size := rfl; omega
      have hn4' : ((Value.slice A9 n9 c9).ownBlock ≠ some (w.heap.size + 1)) := fun e => by have := (HO9.out.lt _ e).1; have h9 : w4.drew.heap.size = w4.heap.size := rfl; omega
      have OKf := Lib.hid (((OK9.out.setFar (i := 0) hn1' (.slice A0 m c0)).setFar (i := 0) hn2' (.slice A9 n9 c9)).less (show w.heap.size ≤ w.heap.size + 2 by omega))
      have OLf := Lib.hid (((HO9.out.setFar (i := 0) hn3' (.slice A0 m c0)).setFar (i := 0) hn4' (.slice A9 n9 c9)).less (show w.heap.size ≤ w4.drew.heap.size by have h9 : w4.drew.heap.size = w4.heap.size := rfl; omega))
      have GF : Hid (Grows w ((w9.setCell ⟨w.heap.size, 0, none⟩ (.slice A0 m c0)).setCell ⟨w.heap.size + 1, 0, none⟩ (.slice A9 n9 c9))) := (G9.out.setCell (Nat.le_refl _) _).setCell (Nat.le_succ _) _
      have ZF := Lib.hid (Za.out.far (gb_set (World.grownBy.refl _ (some (w.heap.size + 1))) 0 (.slice A9 n9 c9)) (by intro e; injection e with e; omega))
      have VF := Lib.hid (Va.out.set_ (.slice A9 n9 c9))
      obtain ⟨wf, hwf⟩ : ∃ wf, (w9.setCell ⟨w.heap.size, 0, none⟩ (.slice A0 m c0)).setCell ⟨w.heap.size + 1, 0, none⟩ (.slice A9 n9 c9) = wf := ⟨_, rfl⟩
      rw [hwf] at OKf OLf GF ZF VF ⊢
      clear hwf
      have hz := ZF.out.cell
      have hv := VF.out.cell
      go_wp2
      refine bodyPost_ret (v := .tuple #[.agg #[.slice A0 m c0], .agg #[.slice A9 n9 c9]]) (by simp [results, Tryd.results23, go_sem, hz, hv]) rfl ?_
      exact ⟨_, K, _, L, rfl, ⟨SS.out, hK⟩, ⟨HS9.out, hL9⟩, OKf.out, OLf.out, GF.out⟩
  · have hd1 : decide ((1 : Int) < (m : Int)) = false := by simp; omega
    go_wp2_with fail
    have hx3 := X3.out.cell
    have hszi : w2.heap.size < w3.heap.size := X3.out.lt
    go_region_held3 (fun w' => w'.cell? ⟨w2.heap.size, 0, none⟩ = some (.slice A0 m c0)) (first | exact hx3 | exact x1 | exact xa | exact xb | go_keep) (first | (go_at_call 40; have HA1 := someLayer_any g A1 n1 c1 q2 w3.drew (by omega) hn1 (R3.out.keep (Grows.refl w3).drew); refine HA1.mono ?_; rintro e w9 ⟨u, L, rfl, hS9, hL9, hO9, q9, a9, b9, r9, k9'⟩; clear HA1; have k9 : Hid (w3.grownBy w9 (some g)) := (gb_of (Grows.refl w3).drew).trans k9'; clear k9' r9; obtain ⟨A9, n9, c9, hu9⟩ := OwnE.form3 hO9; subst hu9; have HS9 := Lib.hid hS9; have HO9 := Lib.hid hO9; clear hS9 hO9; have X9 := Lib.hid (X3.out.far k9.out (by intro e; injection e with e; omega)); have Z9 := Lib.hid (Z3.out.far k9.out (by intro e; injection e with e; omega)); have V9 := Lib.hid (V3.out.far k9.out (by intro e; injection e with e; omega)); have Za := Lib.hid (Z9.out.set_ (.slice A0 m c0)); have Va := Lib.hid (V9.out.far (gb_set (World.grownBy.refl w9 (some w.heap.size)) 0 (.slice A0 m c0)) (by intro e; injection e with e; omega)); have Xa := Lib.hid (X9.out.far (gb_set (World.grownBy.refl w9 (some w.heap.size)) 0 (.slice A0 m c0)) (by intro e; injection e with e; omega)); have Xb := Lib.hid (Xa.out.far (gb_set (World.grownBy.refl _ (some (w.heap.size + 1))) 0 (.slice A9 n9 c9)) (by intro e; injection e with e; omega)); have z0 := Z9.out.cell; have zf := Z9.out.free; have v0 := Va.out.cell; have vf := Va.out.free; have x1 := X9.out.cell; have xa := Xa.out.cell; have xb := Xb.out.cell))
    clear x1 xa xb z0 zf v0 vf hx3
    have OK9 := Lib.hid (O3.out.far k9.out (fun k hk e => by injection e with e; exact (HGV.out k hk).1 e.symm))
    have G9 : Hid (Grows w w9) := G3.out.mark k9.out (fun i hi => by injection hi with hi; omega)
    have hn1' : ((Value.slice A0 m c0).ownBlock ≠ some w.heap.size) := fun e => by have := (OK9.out.lt _ e).1; omega
    have hn2' : ((Value.slice A0 m c0).ownBlock ≠ some (w.heap.size + 1)) := fun e => by have := (OK9.out.lt _ e).1; omega
    have hn3' : ((Value.slice A9 n9 c9).ownBlock ≠ some w.heap.size) := fun e => by have := (HO9.out.lt _ e).1; have h9 : w3.drew.heap.size = w3.heap.size := rfl; omega
    have hn4' : ((Value.slice A9 n9 c9).ownBlock ≠ some (w.heap.size + 1)) := fun e => by have := (HO9.out.lt _ e).1; have h9 : w3.drew.heap.size = w3.heap.size := rfl; omega
    have OKf := Lib.hid (((OK9.out.setFar (i := 0) hn1' (.slice A0 m c0)).setFar (i := 0) hn2' (.slice A9 n9 c9)).less (show w.heap.size ≤ w.heap.size + 2 by omega))
    have OLf := Lib.hid (((HO9.out.setFar (i := 0) hn3' (.slice A0 m c0)).setFar (i := 0) hn4' (.slice A9 n9 c9)).less (show w.heap.size ≤ w3.drew.heap.size by have h9 : w3.drew.heap.size = w3.heap.size := rfl; omega))
    have GF : Hid (Grows w ((w9.setCell ⟨w.heap.size, 0, none⟩ (.slice A0 m c0)).setCell ⟨w.heap.size + 1, 0, none⟩ (.slice A9 n9 c9))) := (G9.out.setCell (Nat.le_refl _) _).setCell (Nat.le_succ _) _
    have ZF := Lib.hid (Za.out.far (gb_set (World.grownBy.refl _ (some (w.heap.size + 1))) 0 (.slice A9 n9 c9)) (by intro e; injection e with e; omega))
    have VF := Lib.hid (Va.out.set_ (.slice A9 n9 c9))
    obtain ⟨wf, hwf⟩ : ∃ wf, (w9.setCell ⟨w.heap.size, 0, none⟩ (.slice A0 m c0)).setCell ⟨w.heap.size + 1, 0, none⟩ (.slice A9 n9 c9) = wf := ⟨_, rfl⟩
    rw [hwf] at OKf OLf GF ZF VF ⊢
    clear hwf
    have hz := ZF.out.cell
    have hv := VF.out.cell
    go_wp2
    refine bodyPost_ret (v := .tuple #[.agg #[.slice A0 m c0], .agg #[.slice A9 n9 c9]]) (by simp [results, Tryd.results23, go_sem, hz, hv]) rfl ?_
    exact ⟨_, K, _, L, rfl, ⟨SS.out, hK⟩, ⟨HS9.out, hL9⟩, OKf.out, OLf.out, GF.out⟩
end Go.Proofs.YtgjineoiebokhaaDoor
