/-
  Flat layers that the drawn laws' generator makes: flatLayer, someFlat, and the arguments of IsFlat. Conditions: the reader's place is at most 40000.
-/
import Derived.Test.YtkjoolmhcfajnaaDoorDrwL
namespace Go.Proofs.YtkjoolmhcfajnaaDoor
open Go.RowKit

set_option maxRecDepth 100000 in
set_option maxHeartbeats 2000000 in
theorem flatLayer_any (g : Nat) (A : Option Addr) (n c p : Nat) (w : World) (hp : p ≤ 55000) (hn : n ≤ 2000) (h : Rd w g A n c p) :
    Calls Tryd.prog 40 #[.pointer (some ⟨g, 0, none⟩)] w (LayerGen 900 g A n c p w) := by
  have H0 := Lib.hid h
  have hgl := h.lt
  have R1 : Hid (Rd (w.alloc (.cells #[.slice none 0 0] 25)) g A n c p) := h.keep ((Grows.refl w).alloc _)
  have Z1 : Hid (Box (w.alloc (.cells #[.slice none 0 0] 25)) w.heap.size (.slice none 0 0) 25) := heap_alloc_new w _
  have G1 : Hid (w.grownBy (w.alloc (.cells #[.slice none 0 0] 25)) (some g)) := gb_of ((Grows.refl w).alloc _)
  clear h
  go_enter Tryd.func40, Tryd.ntmps40
  go_wp2_with fail
  refine (goodEntries_any g A n c p _ true (by omega) hn R1.out).mono ?_
  rintro e w2 ⟨v, K, rfl, hS, hK, hO, q2, a2, b2, r2, k2⟩
  have Z2 : Hid (Box w2 w.heap.size (.slice none 0 0) 25) := row_keep Z1.out k2 (by omega)
  have R2 := Lib.hid r2
  have O2 : Hid (OwnE w2 (w.heap.size + 1) v K) := hO.less (by simp; try omega)
  have G2 : Hid (w.grownBy w2 (some g)) := G1.out.trans k2
  have SS := Lib.hid hS
  clear hS hO r2 k2
  have z0 := Z2.out.cell
  have zf := Z2.out.free
  obtain ⟨A9, n9, c9, rfl⟩ := O2.out.form3
  have HZf : Hid (Box (w2.setCell ⟨w.heap.size, 0, none⟩ (.slice A9 n9 c9)) w.heap.size (.slice A9 n9 c9) 25) := Z2.out.set_ _
  have HN9 : Hid ((Value.slice A9 n9 c9).ownBlock ≠ some w.heap.size) := fun e => by have := (O2.out.lt _ e).1; omega
  have HOF := Lib.hid ((O2.out.setFar (i := 0) HN9.out (.slice A9 n9 c9)).less (show w.heap.size ≤ w.heap.size + 1 by omega))
  have HGF : Hid (w.grownBy (w2.setCell ⟨w.heap.size, 0, none⟩ (.slice A9 n9 c9)) (some g)) := gb_new G2.out (Nat.le_refl _) 0 _
  have HRF : Hid (Rd (w2.setCell ⟨w.heap.size, 0, none⟩ (.slice A9 n9 c9)) g A n c q2) := H0.out.setNew R2.out (Nat.le_refl _) 0 _
  go_wp2
  obtain ⟨wf, hwf⟩ : ∃ wf, w2.setCell ⟨w.heap.size, 0, none⟩ (.slice A9 n9 c9) = wf := ⟨_, rfl⟩
  rw [hwf] at HZf HOF HGF HRF ⊢
  clear hwf z0 zf
  have hz := HZf.out.cell
  refine bodyPost_ret (v := .agg #[.slice A9 n9 c9]) (by simp [results, Tryd.results40, go_sem, hz]) rfl ?_
  exact ⟨_, K, rfl, SS.out, by omega, HOF.out, ⟨q2, by omega, by omega, HRF.out, HGF.out⟩⟩

set_option maxRecDepth 100000 in
set_option maxHeartbeats 2000000 in
theorem someFlat_any (g : Nat) (A : Option Addr) (n c p : Nat) (w : World) (hp : p ≤ 45000) (hn : n ≤ 2000) (h : Rd w g A n c p) :
    Calls Tryd.prog 29 #[.pointer (some ⟨g, 0, none⟩)] w (LayerGen 910 g A n c p w) := by
  have H0 := Lib.hid h
  have hgl := h.lt
  have R0 : Hid (Rd (w.alloc (.cells #[.slice none 0 0] 25)) g A n c p) := h.keep ((Grows.refl w).alloc _)
  have Z0 : Hid (Box (w.alloc (.cells #[.slice none 0 0] 25)) w.heap.size (.slice none 0 0) 25) := heap_alloc_new w _
  have G0 : Hid (w.grownBy (w.alloc (.cells #[.slice none 0 0] 25)) (some g)) := gb_of ((Grows.refl w).alloc _)
  clear h
  go_enter Tryd.func29, Tryd.ntmps29
  go_wp2_with fail
  refine (pick_any 16 g A n c p _ (by omega) (by omega) (by omega) hn R0.out).mono ?_
  rintro e w1 ⟨x, rfl, hx0, hx1, r1, k1⟩
  have Z1 := Lib.hid (Z0.out.far k1 (by intro e; injection e with e; omega))
  have R1 := Lib.hid r1
  have G1 := Lib.hid (G0.out.trans k1)
  have S1 : w.heap.size < w1.heap.size := Z1.out.lt
  clear r1 k1 Z0 G0 R0
  by_cases hx : x = 0
  · subst hx
    go_wp2_with fail
    refine (someLayer_any g A n c _ _ (by omega) hn R1.out).mono ?_
    rintro e w2 ⟨v, K, rfl, hS, hK, hO, q2, a2, b2, r2, k2⟩
    have Z2 : Hid (Box w2 w.heap.size (.slice none 0 0) 25) := row_keep Z1.out k2 (by omega)
    have R2 := Lib.hid r2
    have O2 : Hid (OwnE w2 (w.heap.size + 1) v K) := hO.less (by omega)
    have G2 : Hid (w.grownBy w2 (some g)) := G1.out.trans k2
    have SS := Lib.hid hS
    clear hS hO r2 k2
    have z0 := Z2.out.cell
    have zf := Z2.out.free
    obtain ⟨A9, n9, c9, rfl⟩ := O2.out.form3
    have HZf : Hid (Box (w2.setCell ⟨w.heap.size, 0, none⟩ (.slice A9 n9 c9)) w.heap.size (.slice A9 n9 c9) 25) := Z2.out.set_ _
    have HN9 : Hid ((Value.slice A9 n9 c9).ownBlock ≠ some w.heap.size) := fun e => by have := (O2.out.lt _ e).1; omega
    have HOF := Lib.hid ((O2.out.setFar (i := 0) HN9.out (.slice A9 n9 c9)).less (show w.heap.size ≤ w.heap.size + 1 by omega))
    have HGF : Hid (w.grownBy (w2.setCell ⟨w.heap.size, 0, none⟩ (.slice A9 n9 c9)) (some g)) := gb_new G2.out (Nat.le_refl _) 0 _
    have HRF : Hid (Rd (w2.setCell ⟨w.heap.size, 0, none⟩ (.slice A9 n9 c9)) g A n c q2) := H0.out.setNew R2.out (Nat.le_refl _) 0 _
    go_wp2
    obtain ⟨wf, hwf⟩ : ∃ wf, w2.setCell ⟨w.heap.size, 0, none⟩ (.slice A9 n9 c9) = wf := ⟨_, rfl⟩
    rw [hwf] at HZf HOF HGF HRF ⊢
    clear hwf z0 zf
    have hz := HZf.out.cell
    refine bodyPost_ret (v := .agg #[.slice A9 n9 c9]) (by simp [results, Tryd.results29, go_sem, hz]) rfl ?_
    exact ⟨_, K, rfl, SS.out, by omega, HOF.out, ⟨q2, by omega, by omega, HRF.out, HGF.out⟩⟩
  · have hd : (x == 0) = false := by rw [beq_eq_false_iff_ne]; exact hx
    clear hx
    go_wp2_with fail
    refine (flatLayer_any g A n c _ _ (by omega) hn R1.out).mono ?_
    rintro e w2 ⟨v, K, rfl, hS, hK, hO, q2, a2, b2, r2, k2⟩
    have Z2 : Hid (Box w2 w.heap.size (.slice none 0 0) 25) := row_keep Z1.out k2 (by omega)
    have R2 := Lib.hid r2
    have O2 : Hid (OwnE w2 (w.heap.size + 1) v K) := hO.less (by omega)
    have G2 : Hid (w.grownBy w2 (some g)) := G1.out.trans k2
    have SS := Lib.hid hS
    clear hS hO r2 k2
    have z0 := Z2.out.cell
    have zf := Z2.out.free
    obtain ⟨A9, n9, c9, rfl⟩ := O2.out.form3
    have HZf : Hid (Box (w2.setCell ⟨w.heap.size, 0, none⟩ (.slice A9 n9 c9)) w.heap.size (.slice A9 n9 c9) 25) := Z2.out.set_ _
    have HN9 : Hid ((Value.slice A9 n9 c9).ownBlock ≠ some w.heap.size) := fun e => by have := (O2.out.lt _ e).1; omega
    have HOF := Lib.hid ((O2.out.setFar (i := 0) HN9.out (.slice A9 n9 c9)).less (show w.heap.size ≤ w.heap.size + 1 by omega))
    have HGF : Hid (w.grownBy (w2.setCell ⟨w.heap.size, 0, none⟩ (.slice A9 n9 c9)) (some g)) := gb_new G2.out (Nat.le_refl _) 0 _
    have HRF : Hid (Rd (w2.setCell ⟨w.heap.size, 0, none⟩ (.slice A9 n9 c9)) g A n c q2) := H0.out.setNew R2.out (Nat.le_refl _) 0 _
    go_wp2
    obtain ⟨wf, hwf⟩ : ∃ wf, w2.setCell ⟨w.heap.size, 0, none⟩ (.slice A9 n9 c9) = wf := ⟨_, rfl⟩
    rw [hwf] at HZf HOF HGF HRF ⊢
    clear hwf z0 zf
    have hz := HZf.out.cell
    refine bodyPost_ret (v := .agg #[.slice A9 n9 c9]) (by simp [results, Tryd.results29, go_sem, hz]) rfl ?_
    exact ⟨_, K, rfl, SS.out, by omega, HOF.out, ⟨q2, by omega, by omega, HRF.out, HGF.out⟩⟩

end Go.Proofs.YtkjoolmhcfajnaaDoor
