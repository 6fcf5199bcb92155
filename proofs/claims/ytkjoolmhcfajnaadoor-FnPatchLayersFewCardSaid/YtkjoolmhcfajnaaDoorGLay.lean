/-
  What the drawn laws' generator makes of layers that may not be valid: someLayer. Conditions: the reader's place is at most 50000.
-/
import Derived.Test.YtkjoolmhcfajnaaDoorGEnt
import Derived.Test.YtkjoolmhcfajnaaDoorRegM
import Derived.StillTailTactics
namespace Go.Proofs.YtkjoolmhcfajnaaDoor
open Go.RowKit

set_option maxRecDepth 100000 in
set_option maxHeartbeats 4000000 in
theorem someLayer_any (g : Nat) (A : Option Addr) (n c p : Nat) (w : World) (hp : p ≤ 50000) (hn : n ≤ 2000) (h : Rd w g A n c p) :
    Calls Tryd.prog 39 #[.pointer (some ⟨g, 0, none⟩)] w (LayerGen 900 g A n c p w) := by
  have H0 := Lib.hid h
  have HR := Lib.hid (fun o => h.keep ((Grows.refl w).alloc o))
  have hgl := h.lt
  clear h
  go_enter Tryd.func39, Tryd.ntmps39
  go_wp2_with fail
  refine (goodEntries_any g A n c p _ false (by omega) hn (HR.out _)).mono ?_
  rintro e w1 ⟨v, K, rfl, hS, hK1, hO, q1, a1, b1, r1, k1⟩
  rw [World.size_alloc] at hO
  have hs1 : w.heap.size < w1.heap.size := Nat.lt_of_lt_of_le (by simp) k1.size
  have X0 : Hid (Box (w1.alloc (.cells #[v] 25)) w.heap.size (.slice none 0 0) 25) := row_grow (row_keep (heap_alloc_new w _) k1 (by omega)) ((Grows.refl _).alloc _)
  have XX : Hid (Box (w1.alloc (.cells #[v] 25)) w1.heap.size v 25) := heap_alloc_new w1 _
  have O2 : Hid (OwnE (w1.alloc (.cells #[v] 25)) (w.heap.size + 1) v K) := hO.keep ((Grows.refl _).alloc _)
  have R2 : Hid (Rd (w1.alloc (.cells #[v] 25)) g A n c q1) := r1.keep ((Grows.refl _).alloc _)
  have G2 : Hid (w.grownBy (w1.alloc (.cells #[v] 25)) (some g)) := gb_grows ((gb_of ((Grows.refl w).alloc _)).trans k1) ((Grows.refl _).alloc _)
  have SS := Lib.hid hS
  have hgw1 : g < w1.heap.size := by omega
  have VLT : Hid (∀ i, v.ownBlock = some i → w.heap.size + 1 ≤ i ∧ i < w1.heap.size) := hO.lt
  obtain ⟨w2, hw2⟩ : ∃ w2, w1.alloc (.cells #[v] 25) = w2 := ⟨_, rfl⟩
  have HW2 := Lib.hid hw2
  have hs2 : w2.heap.size = w1.heap.size + 1 := by rw [← hw2]; exact World.size_alloc _ _
  have HS2 := Lib.hid hs2
  rw [hw2] at X0 XX O2 R2 G2
  clear hw2 hs2 hS r1 k1
  rcases Nat.eq_zero_or_pos K.length with hK0 | hK0
  · have HSe := SS
    obtain ⟨A8, c8, he, _⟩ := O2.out.form
    rw [hK0] at he
    subst he
    have HRe := R2
    have HGe := G2
    have X0e := X0
    have Xe := XX
    have Oe := O2
    clear hO
    go_upto_region 2 with (fail)
    rw [HW2.out]
    clear HW2
    have h1 := Xe.out.cell
    go_upto_region 13 with (fail)
    obtain ⟨n9, hn9⟩ : ∃ n9, (0 : Nat) = n9 := ⟨_, rfl⟩
    obtain ⟨A9, hA9⟩ : ∃ A9, A8 = A9 := ⟨_, rfl⟩
    obtain ⟨c9, hc9⟩ : ∃ c9, c8 = c9 := ⟨_, rfl⟩
    rw [hA9, hc9] at Oe Xe h1
    rw [hn9] at Oe Xe h1
    clear h1 hA9 hc9 hn9
    have HON : Hid (RdOn g A n c p 900 w w2) := ⟨q1, by omega, by omega, HRe.out, HGe.out⟩
    have h0 := X0e.out.cell
    have h0f := X0e.out.free
    have h1 := Xe.out.cell
    have HZ : Hid (Box (w2.setCell ⟨w.heap.size, 0, none⟩ (.slice A9 n9 c9)) w.heap.size (.slice A9 n9 c9) 25) := X0e.out.set_ _
    have HN9 : Hid ((Value.slice A9 n9 c9).ownBlock ≠ some w.heap.size) := fun e => by have := (Oe.out.lt _ e).1; omega
    have HOF := Lib.hid ((Oe.out.setFar (i := 0) HN9.out (.slice A9 n9 c9)).less (show w.heap.size ≤ w.heap.size + 1 by omega))
    have HRF : Hid (RdOn g A n c p 900 w (w2.setCell ⟨w.heap.size, 0, none⟩ (.slice A9 n9 c9))) := ⟨q1, by omega, by omega, H0.out.setNew HRe.out (Nat.le_refl _) _ _, gb_new HGe.out (Nat.le_refl _) _ _⟩
    go_wp2
    obtain ⟨wf, hwf⟩ : ∃ wf, w2.setCell ⟨w.heap.size, 0, none⟩ (.slice A9 n9 c9) = wf := ⟨_, rfl⟩
    rw [hwf] at HZ HOF HRF ⊢
    clear hwf
    have hz := HZ.out.cell
    refine bodyPost_ret (v := .agg #[.slice A9 n9 c9]) (by simp [results, Tryd.results39, go_sem, hz]) rfl ?_
    exact ⟨_, K, rfl, HSe.out, (by omega), HOF.out, HRF.out⟩
  · obtain ⟨gv, c9, rfl, hgv0', hgv1⟩ := O2.out.row2 hK0
    have hgv2 := (VLT.out gv rfl).2
    have hgv0 : w.heap.size ≤ gv := by omega
    obtain ⟨m, hm⟩ : ∃ m, K.length = m := ⟨_, rfl⟩
    have hm0 : 0 < m := by omega
    have hm1 : m ≤ 100 := by omega
    rw [hm] at XX O2
    have HM := Lib.hid hm
    clear hO VLT hm
    go_upto_region 2 with (fail)
    rw [HM.out]
    rw [HM.out] at HW2
    rw [HW2.out]
    clear HW2
    have h1 := XX.out.cell
    go_wp2_with fail
    refine (pick_any m g A n c q1 _ (by omega) (by omega) (by omega) hn R2.out).mono ?_
    rintro e w3 ⟨x, rfl, hx0, hx1, r3, k3⟩
    obtain ⟨kk, rfl⟩ := Int.eq_ofNat_of_zero_le hx0
    have hkm : kk < m := by have := hx1 (by omega); omega
    have hkk : kk < K.length := by rw [HM.out]; exact hkm
    have R3 := Lib.hid r3
    have K3 := Lib.hid k3
    clear hx1 hx0 r3 k3 h1
    go_wp2_with fail
    refine (pick_any 24 g A n c (q1 + 1) _ (by omega) (by omega) (by omega) hn R3.out).mono ?_
    rintro e wr ⟨x, rfl, hx0, hx1, r4, k4⟩
    have RR' := Lib.hid r4
    have K4 : Hid (w2.grownBy wr (some g)) := K3.out.trans k4
    obtain ⟨q4, hq4⟩ : ∃ q4, q1 + 1 + 1 = q4 := ⟨_, rfl⟩
    have b4 : q4 ≤ p + 803 := by omega
    have a4 : p ≤ q4 := by omega
    rw [hq4] at RR'
    have RR := RR'
    have XX' := Lib.hid (XX.out.far K4.out (by intro e; injection e with e; omega))
    have ZZ := Lib.hid (X0.out.far K4.out (by intro e; injection e with e; omega))
    have OO := Lib.hid (O2.out.far K4.out (fun k hk e => by injection e with e; have := (O2.out.lt k hk).1; omega))
    have GG : Hid (w.grownBy wr (some g)) := G2.out.trans K4.out
    have Lr := Lib.hid (show wr.heap.size ≠ g from Nat.ne_of_gt r4.lt)
    have hszr : w1.heap.size < wr.heap.size := by have := K4.out.size; have := HS2.out; omega
    clear r4 k4 hx1 hq4 RR' XX X0 O2 G2 R2 R3 K3 K4 HS2
    have XX := XX'
    clear XX'
    have hb1 := XX.out.cell
    have hm := HM.out
    have hm' := Lib.hid hm
    clear hm
    by_cases e0 : x = 0
    · subst e0
      go_wp2_with fail
      refine wp_region_M 8 (CellsAre [(⟨w1.heap.size, 0, none⟩, .slice (some ⟨gv, 0, none⟩) m c9)]) (by kernel_rfl) (by kernel_rfl) ⟨hb1, trivial⟩ (fun hB hS => ?_)
      refine wpAnyM_take (i := 0) (v := ?va0) hB rfl (by kernel_rfl) (fun _ _ _ h => h) (by kernel_rfl) ?ya0 hS ?na0
      case ya0 => (intro w9 hSw; obtain ⟨s1, _⟩ := hSw; go_simp; try with_reducible rfl)
      refine wpAnyM_take (i := 1) (v := ?va1) hB rfl (by kernel_rfl) (fun _ _ _ h => h) (by kernel_rfl) ?ya1 hS ?na1
      case ya1 => (intro w9 hSw; obtain ⟨s1, _⟩ := hSw; go_simp; try with_reducible rfl)
      refine wpAnyM_take (i := 2) (v := ?va2) hB rfl (by kernel_rfl) (fun _ _ _ h => h) (by kernel_rfl) ?ya2 hS ?na2
      case ya2 => (intro w9 hSw; obtain ⟨s1, _⟩ := hSw; go_simp; try with_reducible rfl)
      refine wpAnyM_take (i := 3) (v := ?va3) hB rfl (by kernel_rfl) (fun _ _ _ h => h) (by kernel_rfl) ?ya3 hS ?na3
      case ya3 => (intro w9 hSw; obtain ⟨s1, _⟩ := hSw; go_simp; try with_reducible rfl)
      clear hS
      refine wpAnyM_one (i := 4) rfl (by kernel_rfl) rfl ?_
      go_wp2_with fail
      refine ⟨⟨(XX.out.keep ((Grows.refl wr).drew.alloc _)).cell, trivial⟩, ?_⟩
      refine wpAnyM_one (i := 5) rfl (by kernel_rfl) rfl ?_
      go_wp2_with fail
      refine (one_any wr.heap.size 3 _ _ _ g A n c q4 _ (heap_alloc_new wr.drew _) rfl (by decide) (by decide) (by kernel_rfl) Lr.out (by omega) hn (RR.out.keep ((Grows.refl wr).drew.alloc _))).mono ?_
      rintro e w6 h6
      obtain ⟨u, rfl, hu, q6, a6, b6, r6, k6⟩ := IntRet.of h6 ((Grows.refl wr).drew.alloc _)
      clear h6
      have HU := Lib.hid hu
      have K6 := Lib.hid k6
      have R6 := Lib.hid r6
      have X6 := Lib.hid (XX.out.far K6.out (by intro e; injection e with e; omega))
      have Z6 := Lib.hid (ZZ.out.far K6.out (by intro e; injection e with e; omega))
      have O6 := Lib.hid (OO.out.far K6.out (fun k hk e => by injection e with e; have := (OO.out.lt k hk).1; omega))
      have G6 : Hid (w.grownBy w6 (some g)) := GG.out.trans K6.out
      clear hu r6 k6
      go_wp2_with fail
      refine ⟨⟨X6.out.cell, trivial⟩, ?_⟩
      have hS : CellsAre [(⟨w1.heap.size, 0, none⟩, .slice (some ⟨gv, 0, none⟩) m c9)] w6 := ⟨X6.out.cell, trivial⟩
      refine wpAnyM_take (i := 6) (v := ?va6) hB rfl (by kernel_rfl) (fun _ _ _ h => h) (by kernel_rfl) ?ya6 hS ?na6
      case ya6 => (intro w9 hSw; obtain ⟨s1, _⟩ := hSw; go_simp; try with_reducible rfl)
      refine wpAnyM_take (i := 7) (v := ?va7) hB rfl (by kernel_rfl) (fun _ _ _ h => h) (by kernel_rfl) ?ya7 hS ?na7
      case ya7 => (intro w9 hSw; obtain ⟨s1, _⟩ := hSw; go_simp; try with_reducible rfl)
      refine wpAnyM_tail (by kernel_rfl) ?_
      clear hB hb1 hS
      have OF := Lib.hid (O6.out.field hm'.out hkk 2 (by decide) (.int .i64 u) (l := ⟨K[kk].s, K[kk].k, u, K[kk].v⟩) rfl)
      have hfr := O6.out.free (kk * 4 + 2)
      have hcl : ∃ v9, w6.cell? ⟨gv, kk * 4 + 2, none⟩ = some v9 := O6.out.some_ hm'.out hkk (d := 2) (by decide)
      obtain ⟨v9, hv9⟩ := hcl
      have HSe : Hid (ShortE (K.set kk ⟨K[kk].s, K[kk].k, u, K[kk].v⟩)) := SS.out.set_ _ _ ⟨(SS.out K[kk] (List.getElem_mem hkk)).1, (SS.out K[kk] (List.getElem_mem hkk)).2.1, (SS.out K[kk] (List.getElem_mem hkk)).2.2.1, HU.out⟩
      have hKe : (K.set kk ⟨K[kk].s, K[kk].k, u, K[kk].v⟩).length ≤ 101 := by rw [List.length_set]; omega
      have HRe := Lib.hid (H0.out.setNew R6.out hgv0 (kk * 4 + 2) (.int .i64 u))
      have HGe := Lib.hid (gb_new G6.out hgv0 (kk * 4 + 2) (.int .i64 u))
      have Xe := Lib.hid (X6.out.far (row := some gv) (gb_set (World.grownBy.refl _ _) (kk * 4 + 2) (.int .i64 u)) (by intro e; injection e with e; omega))
      have X0e := Lib.hid (Z6.out.far (row := some gv) (gb_set (World.grownBy.refl _ _) (kk * 4 + 2) (.int .i64 u)) (by intro e; injection e with e; omega))
      go_upto_region 13 with (fail)
      obtain ⟨we, hwe⟩ : ∃ we, w6.setCell ⟨gv, kk * 4 + 2, none⟩ (.int .i64 u) = we := ⟨_, rfl⟩
      rw [hwe] at OF HRe HGe Xe X0e ⊢
      clear hwe hv9 hfr
      have Oe := OF
      clear OF
      obtain ⟨A9, hA9⟩ : ∃ A9 : Option Addr, some ⟨gv, 0, none⟩ = A9 := ⟨_, rfl⟩
      obtain ⟨n9, hn9⟩ : ∃ n9, m = n9 := ⟨_, rfl⟩
      rw [hA9, hn9] at Oe Xe
      clear hA9 hn9
      have HON : Hid (RdOn g A n c p 900 w we) := ⟨q6, by omega, by omega, HRe.out, HGe.out⟩
      have h0 := X0e.out.cell
      have h0f := X0e.out.free
      have h1 := Xe.out.cell
      have HZ : Hid (Box (we.setCell ⟨w.heap.size, 0, none⟩ (.slice A9 n9 c9)) w.heap.size (.slice A9 n9 c9) 25) := X0e.out.set_ _
      have HN9 : Hid ((Value.slice A9 n9 c9).ownBlock ≠ some w.heap.size) := fun e => by have := (Oe.out.lt _ e).1; omega
      have HOF := Lib.hid ((Oe.out.setFar (i := 0) HN9.out (.slice A9 n9 c9)).less (show w.heap.size ≤ w.heap.size + 1 by omega))
      have HRF : Hid (RdOn g A n c p 900 w (we.setCell ⟨w.heap.size, 0, none⟩ (.slice A9 n9 c9))) := ⟨q6, by omega, by omega, H0.out.setNew HRe.out (Nat.le_refl _) _ _, gb_new HGe.out (Nat.le_refl _) _ _⟩
      go_wp2
      obtain ⟨wf, hwf⟩ : ∃ wf, we.setCell ⟨w.heap.size, 0, none⟩ (.slice A9 n9 c9) = wf := ⟨_, rfl⟩
      rw [hwf] at HZ HOF HRF ⊢
      clear hwf
      have hz := HZ.out.cell
      refine bodyPost_ret (v := .agg #[.slice A9 n9 c9]) (by simp [results, Tryd.results39, go_sem, hz]) rfl ?_
      exact ⟨_, K.set kk ⟨K[kk].s, K[kk].k, u, K[kk].v⟩, rfl, HSe.out, hKe, HOF.out, HRF.out⟩
    · have d0 : (x == 0) = false := by rw [beq_eq_false_iff_ne]; exact e0
      clear e0
      by_cases e1 : x = 1
      · subst e1
        go_wp2_with fail
        refine wp_region_M 7 (CellsAre [(⟨w1.heap.size, 0, none⟩, .slice (some ⟨gv, 0, none⟩) m c9)]) (by kernel_rfl) (by kernel_rfl) ⟨hb1, trivial⟩ (fun hB hS => ?_)
        refine wpAnyM_take (i := 0) (v := ?vb0) hB rfl (by kernel_rfl) (fun _ _ _ h => h) (by kernel_rfl) ?yb0 hS ?nb0
        case yb0 => (intro w9 hSw; obtain ⟨s1, _⟩ := hSw; go_simp; try with_reducible rfl)
        refine wpAnyM_take (i := 1) (v := ?vb1) hB rfl (by kernel_rfl) (fun _ _ _ h => h) (by kernel_rfl) ?yb1 hS ?nb1
        case yb1 => (intro w9 hSw; obtain ⟨s1, _⟩ := hSw; go_simp; try with_reducible rfl)
        refine wpAnyM_take (i := 2) (v := ?vb2) hB rfl (by kernel_rfl) (fun _ _ _ h => h) (by kernel_rfl) ?yb2 hS ?nb2
        case yb2 => (intro w9 hSw; obtain ⟨s1, _⟩ := hSw; go_simp; try with_reducible rfl)
        refine wpAnyM_take (i := 3) (v := ?vb3) hB rfl (by kernel_rfl) (fun _ _ _ h => h) (by kernel_rfl) ?yb3 hS ?nb3
        case yb3 => (intro w9 hSw; obtain ⟨s1, _⟩ := hSw; go_simp; try with_reducible rfl)
        clear hS
        refine wpAnyM_one (i := 4) rfl (by kernel_rfl) rfl ?_
        go_wp2_with fail
        refine (anyName_any g A n c q4 _ (by omega) hn (RR.out.keep (Grows.refl wr).drew)).mono ?_
        rintro e w6 ⟨u, rfl, hu, q6, a6, b6, r6, k6'⟩
        have k6 : wr.grownBy w6 (some g) := (gb_of (Grows.refl wr).drew).trans k6'
        clear k6'
        have HU := Lib.hid hu
        have K6 := Lib.hid k6
        have R6 := Lib.hid r6
        have X6 := Lib.hid (XX.out.far K6.out (by intro e; injection e with e; omega))
        have Z6 := Lib.hid (ZZ.out.far K6.out (by intro e; injection e with e; omega))
        have O6 := Lib.hid (OO.out.far K6.out (fun k hk e => by injection e with e; have := (OO.out.lt k hk).1; omega))
        have G6 : Hid (w.grownBy w6 (some g)) := GG.out.trans K6.out
        clear hu r6 k6
        go_wp2_with fail
        refine ⟨⟨X6.out.cell, trivial⟩, ?_⟩
        have hS : CellsAre [(⟨w1.heap.size, 0, none⟩, .slice (some ⟨gv, 0, none⟩) m c9)] w6 := ⟨X6.out.cell, trivial⟩
        refine wpAnyM_take (i := 5) (v := ?vb5) hB rfl (by kernel_rfl) (fun _ _ _ h => h) (by kernel_rfl) ?yb5 hS ?nb5
        case yb5 => (intro w9 hSw; obtain ⟨s1, _⟩ := hSw; go_simp; try with_reducible rfl)
        refine wpAnyM_take (i := 6) (v := ?vb6) hB rfl (by kernel_rfl) (fun _ _ _ h => h) (by kernel_rfl) ?yb6 hS ?nb6
        case yb6 => (intro w9 hSw; obtain ⟨s1, _⟩ := hSw; go_simp; try with_reducible rfl)
        refine wpAnyM_tail (by kernel_rfl) ?_
        clear hB hb1 hS
        have OF := Lib.hid (O6.out.field hm'.out hkk 1 (by decide) (.string u) (l := ⟨K[kk].s, u, K[kk].op, K[kk].v⟩) rfl)
        have hfr := O6.out.free (kk * 4 + 1)
        have hcl : ∃ v9, w6.cell? ⟨gv, kk * 4 + 1, none⟩ = some v9 := O6.out.some_ hm'.out hkk (d := 1) (by decide)
        obtain ⟨v9, hv9⟩ := hcl
        have HSe : Hid (ShortE (K.set kk ⟨K[kk].s, u, K[kk].op, K[kk].v⟩)) := SS.out.set_ _ _ ⟨(SS.out K[kk] (List.getElem_mem hkk)).1, HU.out, (SS.out K[kk] (List.getElem_mem hkk)).2.2.1, (SS.out K[kk] (List.getElem_mem hkk)).2.2.2⟩
        have hKe : (K.set kk ⟨K[kk].s, u, K[kk].op, K[kk].v⟩).length ≤ 101 := by rw [List.length_set]; omega
        have HRe := Lib.hid (H0.out.setNew R6.out hgv0 (kk * 4 + 1) (.string u))
        have HGe := Lib.hid (gb_new G6.out hgv0 (kk * 4 + 1) (.string u))
        have Xe := Lib.hid (X6.out.far (row := some gv) (gb_set (World.grownBy.refl _ _) (kk * 4 + 1) (.string u)) (by intro e; injection e with e; omega))
        have X0e := Lib.hid (Z6.out.far (row := some gv) (gb_set (World.grownBy.refl _ _) (kk * 4 + 1) (.string u)) (by intro e; injection e with e; omega))
        go_upto_region 13 with (fail)
        obtain ⟨we, hwe⟩ : ∃ we, w6.setCell ⟨gv, kk * 4 + 1, none⟩ (.string u) = we := ⟨_, rfl⟩
        rw [hwe] at OF HRe HGe Xe X0e ⊢
        clear hwe hv9 hfr
        have Oe := OF
        clear OF
        obtain ⟨A9, hA9⟩ : ∃ A9 : Option Addr, some ⟨gv, 0, none⟩ = A9 := ⟨_, rfl⟩
        obtain ⟨n9, hn9⟩ : ∃ n9, m = n9 := ⟨_, rfl⟩
        rw [hA9, hn9] at Oe Xe
        clear hA9 hn9
        have HON : Hid (RdOn g A n c p 900 w we) := ⟨q6, by omega, by omega, HRe.out, HGe.out⟩
        have h0 := X0e.out.cell
        have h0f := X0e.out.free
        have h1 := Xe.out.cell
        have HZ : Hid (Box (we.setCell ⟨w.heap.size, 0, none⟩ (.slice A9 n9 c9)) w.heap.size (.slice A9 n9 c9) 25) := X0e.out.set_ _
        have HN9 : Hid ((Value.slice A9 n9 c9).ownBlock ≠ some w.heap.size) := fun e => by have := (Oe.out.lt _ e).1; omega
        have HOF := Lib.hid ((Oe.out.setFar (i := 0) HN9.out (.slice A9 n9 c9)).less (show w.heap.size ≤ w.heap.size + 1 by omega))
        have HRF : Hid (RdOn g A n c p 900 w (we.setCell ⟨w.heap.size, 0, none⟩ (.slice A9 n9 c9))) := ⟨q6, by omega, by omega, H0.out.setNew HRe.out (Nat.le_refl _) _ _, gb_new HGe.out (Nat.le_refl _) _ _⟩
        go_wp2
        obtain ⟨wf, hwf⟩ : ∃ wf, we.setCell ⟨w.heap.size, 0, none⟩ (.slice A9 n9 c9) = wf := ⟨_, rfl⟩
        rw [hwf] at HZ HOF HRF ⊢
        clear hwf
        have hz := HZ.out.cell
        refine bodyPost_ret (v := .agg #[.slice A9 n9 c9]) (by simp [results, Tryd.results39, go_sem, hz]) rfl ?_
        exact ⟨_, K.set kk ⟨K[kk].s, u, K[kk].op, K[kk].v⟩, rfl, HSe.out, hKe, HOF.out, HRF.out⟩
      · have d1 : (x == 1) = false := by rw [beq_eq_false_iff_ne]; exact e1
        clear e1
        by_cases e2 : x = 2
        · subst e2
          go_wp2_with fail
          refine wp_region_M 7 (CellsAre [(⟨w1.heap.size, 0, none⟩, .slice (some ⟨gv, 0, none⟩) m c9)]) (by kernel_rfl) (by kernel_rfl) ⟨hb1, trivial⟩ (fun hB hS => ?_)
          refine wpAnyM_take (i := 0) (v := ?vc0) hB rfl (by kernel_rfl) (fun _ _ _ h => h) (by kernel_rfl) ?yc0 hS ?nc0
          case yc0 => (intro w9 hSw; obtain ⟨s1, _⟩ := hSw; go_simp; try with_reducible rfl)
          refine wpAnyM_take (i := 1) (v := ?vc1) hB rfl (by kernel_rfl) (fun _ _ _ h => h) (by kernel_rfl) ?yc1 hS ?nc1
          case yc1 => (intro w9 hSw; obtain ⟨s1, _⟩ := hSw; go_simp; try with_reducible rfl)
          refine wpAnyM_take (i := 2) (v := ?vc2) hB rfl (by kernel_rfl) (fun _ _ _ h => h) (by kernel_rfl) ?yc2 hS ?nc2
          case yc2 => (intro w9 hSw; obtain ⟨s1, _⟩ := hSw; go_simp; try with_reducible rfl)
          refine wpAnyM_take (i := 3) (v := ?vc3) hB rfl (by kernel_rfl) (fun _ _ _ h => h) (by kernel_rfl) ?yc3 hS ?nc3
          case yc3 => (intro w9 hSw; obtain ⟨s1, _⟩ := hSw; go_simp; try with_reducible rfl)
          clear hS
          refine wpAnyM_one (i := 4) rfl (by kernel_rfl) rfl ?_
          go_wp2_with fail
          refine (anyValue_any g A n c q4 _ (by omega) hn (RR.out.keep (Grows.refl wr).drew)).mono ?_
          rintro e w6 ⟨u, rfl, hu, q6, a6, b6, r6, k6'⟩
          have k6 : wr.grownBy w6 (some g) := (gb_of (Grows.refl wr).drew).trans k6'
          clear k6'
          have HU := Lib.hid hu
          have K6 := Lib.hid k6
          have R6 := Lib.hid r6
          have X6 := Lib.hid (XX.out.far K6.out (by intro e; injection e with e; omega))
          have Z6 := Lib.hid (ZZ.out.far K6.out (by intro e; injection e with e; omega))
          have O6 := Lib.hid (OO.out.far K6.out (fun k hk e => by injection e with e; have := (OO.out.lt k hk).1; omega))
          have G6 : Hid (w.grownBy w6 (some g)) := GG.out.trans K6.out
          clear hu r6 k6
          go_wp2_with fail
          refine ⟨⟨X6.out.cell, trivial⟩, ?_⟩
          have hS : CellsAre [(⟨w1.heap.size, 0, none⟩, .slice (some ⟨gv, 0, none⟩) m c9)] w6 := ⟨X6.out.cell, trivial⟩
          refine wpAnyM_take (i := 5) (v := ?vc5) hB rfl (by kernel_rfl) (fun _ _ _ h => h) (by kernel_rfl) ?yc5 hS ?nc5
          case yc5 => (intro w9 hSw; obtain ⟨s1, _⟩ := hSw; go_simp; try with_reducible rfl)
          refine wpAnyM_take (i := 6) (v := ?vc6) hB rfl (by kernel_rfl) (fun _ _ _ h => h) (by kernel_rfl) ?yc6 hS ?nc6
          case yc6 => (intro w9 hSw; obtain ⟨s1, _⟩ := hSw; go_simp; try with_reducible rfl)
          refine wpAnyM_tail (by kernel_rfl) ?_
          clear hB hb1 hS
          have OF := Lib.hid (O6.out.field hm'.out hkk 3 (by decide) (.string u) (l := ⟨K[kk].s, K[kk].k, K[kk].op, u⟩) rfl)
          have hfr := O6.out.free (kk * 4 + 3)
          have hcl : ∃ v9, w6.cell? ⟨gv, kk * 4 + 3, none⟩ = some v9 := O6.out.some_ hm'.out hkk (d := 3) (by decide)
          obtain ⟨v9, hv9⟩ := hcl
          have HSe : Hid (ShortE (K.set kk ⟨K[kk].s, K[kk].k, K[kk].op, u⟩)) := SS.out.set_ _ _ ⟨(SS.out K[kk] (List.getElem_mem hkk)).1, (SS.out K[kk] (List.getElem_mem hkk)).2.1, HU.out, (SS.out K[kk] (List.getElem_mem hkk)).2.2.2⟩
          have hKe : (K.set kk ⟨K[kk].s, K[kk].k, K[kk].op, u⟩).length ≤ 101 := by rw [List.length_set]; omega
          have HRe := Lib.hid (H0.out.setNew R6.out hgv0 (kk * 4 + 3) (.string u))
          have HGe := Lib.hid (gb_new G6.out hgv0 (kk * 4 + 3) (.string u))
          have Xe := Lib.hid (X6.out.far (row := some gv) (gb_set (World.grownBy.refl _ _) (kk * 4 + 3) (.string u)) (by intro e; injection e with e; omega))
          have X0e := Lib.hid (Z6.out.far (row := some gv) (gb_set (World.grownBy.refl _ _) (kk * 4 + 3) (.string u)) (by intro e; injection e with e; omega))
          go_upto_region 13 with (fail)
          obtain ⟨we, hwe⟩ : ∃ we, w6.setCell ⟨gv, kk * 4 + 3, none⟩ (.string u) = we := ⟨_, rfl⟩
          rw [hwe] at OF HRe HGe Xe X0e ⊢
          clear hwe hv9 hfr
          have Oe := OF
          clear OF
          obtain ⟨A9, hA9⟩ : ∃ A9 : Option Addr, some ⟨gv, 0, none⟩ = A9 := ⟨_, rfl⟩
          obtain ⟨n9, hn9⟩ : ∃ n9, m = n9 := ⟨_, rfl⟩
          rw [hA9, hn9] at Oe Xe
          clear hA9 hn9
          have HON : Hid (RdOn g A n c p 900 w we) := ⟨q6, by omega, by omega, HRe.out, HGe.out⟩
          have h0 := X0e.out.cell
          have h0f := X0e.out.free
          have h1 := Xe.out.cell
          have HZ : Hid (Box (we.setCell ⟨w.heap.size, 0, none⟩ (.slice A9 n9 c9)) w.heap.size (.slice A9 n9 c9) 25) := X0e.out.set_ _
          have HN9 : Hid ((Value.slice A9 n9 c9).ownBlock ≠ some w.heap.size) := fun e => by have := (Oe.out.lt _ e).1; omega
          have HOF := Lib.hid ((Oe.out.setFar (i := 0) HN9.out (.slice A9 n9 c9)).less (show w.heap.size ≤ w.heap.size + 1 by omega))
          have HRF : Hid (RdOn g A n c p 900 w (we.setCell ⟨w.heap.size, 0, none⟩ (.slice A9 n9 c9))) := ⟨q6, by omega, by omega, H0.out.setNew HRe.out (Nat.le_refl _) _ _, gb_new HGe.out (Nat.le_refl _) _ _⟩
          go_wp2
          obtain ⟨wf, hwf⟩ : ∃ wf, we.setCell ⟨w.heap.size, 0, none⟩ (.slice A9 n9 c9) = wf := ⟨_, rfl⟩
          rw [hwf] at HZ HOF HRF ⊢
          clear hwf
          have hz := HZ.out.cell
          refine bodyPost_ret (v := .agg #[.slice A9 n9 c9]) (by simp [results, Tryd.results39, go_sem, hz]) rfl ?_
          exact ⟨_, K.set kk ⟨K[kk].s, K[kk].k, K[kk].op, u⟩, rfl, HSe.out, hKe, HOF.out, HRF.out⟩
        · have d2 : (x == 2) = false := by rw [beq_eq_false_iff_ne]; exact e2
          clear e2
          by_cases e3 : x = 3
          · subst e3
            have h4 := OO.out.at4 hm'.out hkk
            have hsh := SS.out K[kk] (List.getElem_mem hkk)
            obtain ⟨⟨es, ek, eo, ev⟩, hee⟩ : ∃ e, K[kk] = e := ⟨_, rfl⟩
            rw [hee] at h4 hsh
            obtain ⟨z0, z1, z2, z3⟩ := h4
            simp only at z0 z1 z2 z3
            clear hee
            have HSH := Lib.hid hsh
            clear hsh
            have HS0 : Hid (CellsAre [(⟨w1.heap.size, 0, none⟩, .slice (some ⟨gv, 0, none⟩) m c9), (⟨gv, kk * 4, none⟩, .string es), (⟨gv, kk * 4 + 1, none⟩, .string ek), (⟨gv, kk * 4 + 2, none⟩, .int .i64 eo), (⟨gv, kk * 4 + 3, none⟩, .string ev)] wr) := ⟨hb1, z0, z1, z2, z3, trivial⟩
            go_wp2_with fail
            refine wp_region_M 8 (CellsAre [(⟨w1.heap.size, 0, none⟩, .slice (some ⟨gv, 0, none⟩) m c9), (⟨gv, kk * 4, none⟩, .string es), (⟨gv, kk * 4 + 1, none⟩, .string ek), (⟨gv, kk * 4 + 2, none⟩, .int .i64 eo), (⟨gv, kk * 4 + 3, none⟩, .string ev)]) (by kernel_rfl) (by kernel_rfl) ⟨hb1, z0, z1, z2, z3, trivial⟩ (fun hB hS => ?_)
            refine wpAnyM_take (i := 0) (v := ?vd0) hB rfl (by kernel_rfl) (fun _ _ _ h => h) (by kernel_rfl) ?yd0 hS ?nd0
            case yd0 => (intro w9 hSw; obtain ⟨s1, s2, s3, s4, s5, _⟩ := hSw; go_simp; try with_reducible rfl)
            refine wpAnyM_take (i := 1) (v := ?vd1) hB rfl (by kernel_rfl) (fun _ _ _ h => h) (by kernel_rfl) ?yd1 hS ?nd1
            case yd1 => (intro w9 hSw; obtain ⟨s1, s2, s3, s4, s5, _⟩ := hSw; go_simp; try with_reducible rfl)
            refine wpAnyM_take (i := 2) (v := ?vd2) hB rfl (by kernel_rfl) (fun _ _ _ h => h) (by kernel_rfl) ?yd2 hS ?nd2
            case yd2 => (intro w9 hSw; obtain ⟨s1, s2, s3, s4, s5, _⟩ := hSw; go_simp; try with_reducible rfl)
            refine wpAnyM_take (i := 3) (v := ?vd3) hB rfl (by kernel_rfl) (fun _ _ _ h => h) (by kernel_rfl) ?yd3 hS ?nd3
            case yd3 => (intro w9 hSw; obtain ⟨s1, s2, s3, s4, s5, _⟩ := hSw; go_simp; try with_reducible rfl)
            refine wpAnyM_take (i := 4) (v := ?vd4) hB rfl (by kernel_rfl) (fun _ _ _ h => h) (by kernel_rfl) ?yd4 hS ?nd4
            case yd4 => (intro w9 hSw; obtain ⟨s1, s2, s3, s4, s5, _⟩ := hSw; go_simp; try with_reducible rfl)
            refine wpAnyM_take (i := 5) (v := ?vd5) hB rfl (by kernel_rfl) (fun _ _ _ h => h) (by kernel_rfl) ?yd5 hS ?nd5
            case yd5 => (intro w9 hSw; obtain ⟨s1, s2, s3, s4, s5, _⟩ := hSw; go_simp; try with_reducible rfl)
            refine wpAnyM_take (i := 6) (v := ?vd6) hB rfl (by kernel_rfl) (fun _ _ _ h => h) (by kernel_rfl) ?yd6 hS ?nd6
            case yd6 => (intro w9 hSw; obtain ⟨s1, s2, s3, s4, s5, _⟩ := hSw; go_simp; try with_reducible rfl)
            clear hS
            refine wpAnyM_one (i := 7) rfl (by kernel_rfl) rfl ?_
            go_wp2_with fail
            refine ⟨CellsAre.keep HS0.out ((Grows.refl wr).alloc _).drew, ?_⟩
            refine wpAnyM_tail (by kernel_rfl) ?_
            clear hB hb1 HS0 z0 z1 z2 z3
            have OA := Lib.hid (OO.out.keep ((Grows.refl wr).alloc (.cells #[.string es, .string ek, .int .i64 eo, .string ev] 33)).drew)
            have XA := Lib.hid (XX.out.keep ((Grows.refl wr).alloc (.cells #[.string es, .string ek, .int .i64 eo, .string ev] 33)).drew)
            have ZA := Lib.hid (ZZ.out.keep ((Grows.refl wr).alloc (.cells #[.string es, .string ek, .int .i64 eo, .string ev] 33)).drew)
            have RA := Lib.hid (RR.out.keep ((Grows.refl wr).alloc (.cells #[.string es, .string ek, .int .i64 eo, .string ev] 33)).drew)
            have GA : Hid (w.grownBy (wr.alloc (.cells #[.string es, .string ek, .int .i64 eo, .string ev] 33)).drew (some g)) := gb_grows GG.out ((Grows.refl wr).alloc (.cells #[.string es, .string ek, .int .i64 eo, .string ev] 33)).drew
            have OAK := OA.out
            rw [← hm'.out] at OAK
            have HOAK := Lib.hid OAK
            clear OAK
            have cXA := XA.out.cell
            have fXA := XA.out.free
            have hbs : w.heap.size + 1 ≤ wr.heap.size := by omega
            have hmm := hm'.out
            go_wp2_with (at_builtin; refine appEs rfl _ _ rfl (w.heap.size + 1) (.slice (some ⟨gv, 0, none⟩) m c9) K rfl OA.out ⟨wr.heap.size, 0, none⟩ 1 1 [⟨es, ek, eo, ev⟩] rfl rfl (by omega) (one_newsE wr ⟨es, ek, eo, ev⟩ _ rfl) (by omega) (by omega) (Nat.le_trans hbs (by simp)) ?_)
            intro v' w6 HO6 HGB HNE
            have X6 := Lib.hid (XA.out.far HGB.out (by intro e; have e2 : some gv = some w1.heap.size := e; injection e2 with e2; omega))
            have Z6 := Lib.hid (ZA.out.far HGB.out (by intro e; have e2 : some gv = some w.heap.size := e; injection e2 with e2; omega))
            have hrow : ∀ i, (Value.slice (some ⟨gv, 0, none⟩) m c9).ownBlock = some i → w.heap.size ≤ i := fun i hi => by have := (OA.out.lt i hi).1; omega
            have R6 := Lib.hid (H0.out.newRow RA.out HGB.out hrow)
            have G6 : Hid (w.grownBy w6 (some g)) := gb_row GA.out HGB.out hrow
            obtain ⟨A9, n9, c9', rfl⟩ := OwnE.form3 HO6.out
            have HNB := Lib.hid (apartBox HO6.out X6.out)
            have cX6 := X6.out.cell
            have fX6 := X6.out.free
            clear HGB HNE hrow cXA fXA
            have HSe : Hid (ShortE (K ++ [⟨es, ek, eo, ev⟩])) := SS.out.snoc HSH.out
            have hKe : (K ++ [(⟨es, ek, eo, ev⟩ : Ent)]).length ≤ 101 := by simp; omega
            have HRe := Lib.hid (H0.out.setNew R6.out (show w.heap.size ≤ w1.heap.size by omega) 0 (.slice A9 n9 c9'))
            have HGe := Lib.hid (gb_new G6.out (show w.heap.size ≤ w1.heap.size by omega) 0 (.slice A9 n9 c9'))
            have Xe := Lib.hid (X6.out.set_ (.slice A9 n9 c9'))
            have X0e := Lib.hid (Z6.out.far (row := some w1.heap.size) (gb_set (World.grownBy.refl _ _) 0 (.slice A9 n9 c9')) (by intro e; injection e with e; omega))
            have Oe := Lib.hid (HO6.out.setFar (i := 0) HNB.out (.slice A9 n9 c9'))
            go_upto_region 13 with (fail)
            obtain ⟨we, hwe⟩ : ∃ we, w6.setCell ⟨w1.heap.size, 0, none⟩ (.slice A9 n9 c9') = we := ⟨_, rfl⟩
            rw [hwe] at Oe HRe HGe Xe X0e ⊢
            clear hwe cX6 fX6
            have HON : Hid (RdOn g A n c p 900 w we) := ⟨q4, by omega, by omega, HRe.out, HGe.out⟩
            have h0 := X0e.out.cell
            have h0f := X0e.out.free
            have h1 := Xe.out.cell
            have HZ : Hid (Box (we.setCell ⟨w.heap.size, 0, none⟩ (.slice A9 n9 c9')) w.heap.size (.slice A9 n9 c9') 25) := X0e.out.set_ _
            have HN9 : Hid ((Value.slice A9 n9 c9').ownBlock ≠ some w.heap.size) := fun e => by have := (Oe.out.lt _ e).1; omega
            have HOF := Lib.hid ((Oe.out.setFar (i := 0) HN9.out (.slice A9 n9 c9')).less (show w.heap.size ≤ w.heap.size + 1 by omega))
            have HRF : Hid (RdOn g A n c p 900 w (we.setCell ⟨w.heap.size, 0, none⟩ (.slice A9 n9 c9'))) := ⟨q4, by omega, by omega, H0.out.setNew HRe.out (Nat.le_refl _) _ _, gb_new HGe.out (Nat.le_refl _) _ _⟩
            go_wp2
            obtain ⟨wf, hwf⟩ : ∃ wf, we.setCell ⟨w.heap.size, 0, none⟩ (.slice A9 n9 c9') = wf := ⟨_, rfl⟩
            rw [hwf] at HZ HOF HRF ⊢
            clear hwf
            have hz := HZ.out.cell
            refine bodyPost_ret (v := .agg #[.slice A9 n9 c9']) (by simp [results, Tryd.results39, go_sem, hz]) rfl ?_
            exact ⟨_, K ++ [⟨es, ek, eo, ev⟩], rfl, HSe.out, hKe, HOF.out, HRF.out⟩
          · have d3 : (x == 3) = false := by rw [beq_eq_false_iff_ne]; exact e3
            clear e3
            have HSe := SS
            have HRe := RR
            have HGe := GG
            have X0e := ZZ
            have Xe := XX
            have Oe := OO
            go_upto_region 13 with (fail)
            obtain ⟨A9, hA9⟩ : ∃ A9 : Option Addr, some ⟨gv, 0, none⟩ = A9 := ⟨_, rfl⟩
            obtain ⟨n9, hn9⟩ : ∃ n9, m = n9 := ⟨_, rfl⟩
            rw [hA9, hn9] at Oe Xe
            clear hA9 hn9 hb1
            have HON : Hid (RdOn g A n c p 900 w wr) := ⟨q4, by omega, by omega, HRe.out, HGe.out⟩
            have h0 := X0e.out.cell
            have h0f := X0e.out.free
            have h1 := Xe.out.cell
            have HZ : Hid (Box (wr.setCell ⟨w.heap.size, 0, none⟩ (.slice A9 n9 c9)) w.heap.size (.slice A9 n9 c9) 25) := X0e.out.set_ _
            have HN9 : Hid ((Value.slice A9 n9 c9).ownBlock ≠ some w.heap.size) := fun e => by have := (Oe.out.lt _ e).1; omega
            have HOF := Lib.hid ((Oe.out.setFar (i := 0) HN9.out (.slice A9 n9 c9)).less (show w.heap.size ≤ w.heap.size + 1 by omega))
            have HRF : Hid (RdOn g A n c p 900 w (wr.setCell ⟨w.heap.size, 0, none⟩ (.slice A9 n9 c9))) := ⟨q4, by omega, by omega, H0.out.setNew HRe.out (Nat.le_refl _) _ _, gb_new HGe.out (Nat.le_refl _) _ _⟩
            go_wp2
            obtain ⟨wf, hwf⟩ : ∃ wf, wr.setCell ⟨w.heap.size, 0, none⟩ (.slice A9 n9 c9) = wf := ⟨_, rfl⟩
            rw [hwf] at HZ HOF HRF ⊢
            clear hwf
            have hz := HZ.out.cell
            refine bodyPost_ret (v := .agg #[.slice A9 n9 c9]) (by simp [results, Tryd.results39, go_sem, hz]) rfl ?_
            exact ⟨_, K, rfl, HSe.out, (by omega), HOF.out, HRF.out⟩
end Go.Proofs.YtkjoolmhcfajnaaDoor
