/-
  The arguments that the drawn law of CommonLayer generates: two layers. Condition: no more bytes than a slice may have.
-/
import Derived.Test.YtcecjdjfbgmogaaDoorChg
import Derived.Test.YtcecjdjfbgmogaaDoorDrwL
import Derived.Deep.RegionHeld3
namespace Go.Proofs.YtcecjdjfbgmogaaDoor
open Go.RowKit

def DCom2 (w : World) (e : Ending) (w' : World) : Prop := ∃ (v : Value) (K : List Ent) (u : Value) (L : List Ent), e = .returned (.tuple #[.agg #[v], .agg #[u]]) ∧ (ShortE K ∧ K.length ≤ 101) ∧ (ShortE L ∧ L.length ≤ 104) ∧ OwnE w' w.heap.size v K ∧ OwnE w' w.heap.size u L ∧ Grows w w'

set_option maxRecDepth 100000 in
set_option maxHeartbeats 4000000 in
theorem DrawCommonLayer_any (A : Option Addr) (n c : Nat) (w : World) (hn : n ≤ maxLen) (hc : n ≤ c) (h : BytesAt w A n) :
    Calls Tryd.prog 14 #[.slice A n c] w (DCom2 w) := by
  have HB := Lib.hid (fun o o2 => h.keep (((Grows.refl w).alloc o).alloc o2))
  clear h
  go_enter Tryd.func14, Tryd.ntmps14
  go_wp2_with fail
  refine (newReader_any A n c _ hn hc (HB.out _ _)).mono ?_
  rintro e w1 ⟨A1, n1, c1, g, rfl, hn1, hg, r1, k1⟩
  have hg1 := Lib.hid r1.lt
  have hgw : w.heap.size + 1 < g := by simp at hg; omega
  have Z1 : Hid (Box w1 w.heap.size (.slice none 0 0) 25) := row_grow (row_grow (heap_alloc_new w _) ((Grows.refl _).alloc _)) k1
  have V1 : Hid (Box w1 (w.heap.size + 1) (.slice none 0 0) 25) := row_grow (alloc_new2 w _ _) k1
  have R1 := Lib.hid r1
  have G1 : Hid (Grows w w1) := (((Grows.refl w).alloc _).alloc _).trans k1
  have S1 : w.heap.size + 1 < w1.heap.size := V1.out.lt
  clear r1 k1 hg HB
  go_wp2_with fail
  refine (someLayer_any g A1 n1 c1 0 _ (by omega) hn1 R1.out).mono ?_
  rintro e w2 ⟨v, K, rfl, hS, hK, hO, q2, a2, b2, r2, k2⟩
  have hgv : ∀ k, v.ownBlock = some k → k ≠ g ∧ k < w2.heap.size := fun k hk => by have h1 := (hO.lt k hk).1; have h2 := hg1.out; have h3 := (hO.lt k hk).2; omega
  have Z2 : Hid (Box w2 w.heap.size (.slice none 0 0) 25) := row_keep Z1.out k2 (by omega)
  have V2 : Hid (Box w2 (w.heap.size + 1) (.slice none 0 0) 25) := row_keep V1.out k2 (by omega)
  have R2 := Lib.hid r2
  have O2 : Hid (OwnE w2 (w.heap.size + 2) v K) := hO.less (by omega)
  have G2 : Hid (Grows w w2) := G1.out.mark k2 (fun i hi => by injection hi with hi; omega)
  have SS := Lib.hid hS
  have S2 : w.heap.size + 1 < w2.heap.size := V2.out.lt
  have hgn : g < w2.heap.size := r2.lt
  clear hS hO r2 k2 Z1 V1 R1 G1 hg1
  obtain ⟨A0, c0, rfl, hc0, _⟩ := OwnE.formC O2.out
  obtain ⟨m, hm⟩ : ∃ m, K.length = m := ⟨_, rfl⟩
  rw [hm] at O2 hgv hc0 ⊢
  have HM := Lib.hid hm
  have hmK : m ≤ 101 := by omega
  clear hm
  have X3 : Hid (Box (w2.alloc (.cells #[.slice A0 m c0] 25)) w2.heap.size (.slice A0 m c0) 25) := heap_alloc_new w2 _
  have Z3 := Lib.hid (Z2.out.keep ((Grows.refl w2).alloc (.cells #[.slice A0 m c0] 25)))
  have V3 := Lib.hid (V2.out.keep ((Grows.refl w2).alloc (.cells #[.slice A0 m c0] 25)))
  have O3 := Lib.hid (O2.out.keep ((Grows.refl w2).alloc (.cells #[.slice A0 m c0] 25)))
  have R3 := Lib.hid (R2.out.keep ((Grows.refl w2).alloc (.cells #[.slice A0 m c0] 25)))
  have G3 : Hid (Grows w (w2.alloc (.cells #[.slice A0 m c0] 25))) := G2.out.alloc _
  have HGV := Lib.hid hgv
  clear hgv
  obtain ⟨w3, hw3⟩ : ∃ w3, w2.alloc (.cells #[.slice A0 m c0] 25) = w3 := ⟨_, rfl⟩
  have hs3 : w3.heap.size = w2.heap.size + 1 := by rw [← hw3]; exact World.size_alloc _ _
  have HW3 := Lib.hid hw3
  rw [hw3] at X3 Z3 V3 O3 R3 G3
  clear hw3 Z2 V2 O2 R2 G2
  go_upto_region 3 with (fail)
  rw [HW3.out]
  clear HW3
  go_wp2_with fail
  refine (pick_any 2 g A1 n1 c1 q2 _ (by omega) (by omega) (by omega) hn1 R3.out).mono ?_
  rintro e w4 ⟨x, rfl, hx0, hx1, r4, k4⟩
  have hgw2 : g < w2.heap.size := by omega
  have X4 := Lib.hid (X3.out.far k4 (by intro e; injection e with e; omega))
  have Z4 := Lib.hid (Z3.out.far k4 (by intro e; injection e with e; omega))
  have V4 := Lib.hid (V3.out.far k4 (by intro e; injection e with e; omega))
  have O4 := Lib.hid (O3.out.far k4 (fun k hk e => by injection e with e; exact (HGV.out k hk).1 e.symm))
  have R4 := Lib.hid r4
  have G4 : Hid (Grows w w4) := G3.out.mark k4 (fun i hi => by injection hi with hi; omega)
  clear r4 k4 hx1 X3 Z3 V3 O3 R3 G3
  have hszi : w2.heap.size < w4.heap.size := X4.out.lt
  have HEA := Lib.hid (fun w' (gg : Grows w4 w') => (O4.out.keep gg).at_.2)
  by_cases hx : x = 0
  · subst hx
    clear hx0
    go_wp2_with fail
    have hx4 := X4.out.cell
    have HCH := Lib.hid (changed_any g A1 n1 c1 (q2 + 1) A0 c0 K w4.drew (by omega) hn1 (R4.out.keep (Grows.refl w4).drew) SS.out hK (HEA.out _ (Grows.refl w4).drew))
    rw [HM.out] at HCH
    go_region_held3 (fun w' => w'.cell? ⟨w2.heap.size, 0, none⟩ = some (.slice A0 m c0)) (first | exact hx4 | exact x1 | exact xa | exact xb | go_keep) (first | (go_at_call 50; have HA1 := HCH.out; refine HA1.mono ?_; rintro e w9 ⟨u, L, rfl, hS9, hL9, hO9, q9, a9, b9, r9, k9'⟩; clear HA1; have k9 : Hid (w4.grownBy w9 (some g)) := (gb_of (Grows.refl w4).drew).trans k9'; clear k9' r9; obtain ⟨A9, n9, c9, hu9⟩ := OwnE.form3 hO9; subst hu9; have HS9 := Lib.hid hS9; have HO9 := Lib.hid hO9; clear hS9 hO9; have X9 := Lib.hid (X4.out.far k9.out (by intro e; injection e with e; omega)); have Z9 := Lib.hid (Z4.out.far k9.out (by intro e; injection e with e; omega)); have V9 := Lib.hid (V4.out.far k9.out (by intro e; injection e with e; omega)); have Za := Lib.hid (Z9.out.set_ (.slice A0 m c0)); have Va := Lib.hid (V9.out.far (gb_set (World.grownBy.refl w9 (some w.heap.size)) 0 (.slice A0 m c0)) (by intro e; injection e with e; omega)); have Xa := Lib.hid (X9.out.far (gb_set (World.grownBy.refl w9 (some w.heap.size)) 0 (.slice A0 m c0)) (by intro e; injection e with e; omega)); have Xb := Lib.hid (Xa.out.far (gb_set (World.grownBy.refl _ (some (w.heap.size + 1))) 0 (.slice A9 n9 c9)) (by intro e; injection e with e; omega)); have z0 := Z9.out.cell; have zf := Z9.out.free; have v0 := Va.out.cell; have vf := Va.out.free; have x1 := X9.out.cell; have xa := Xa.out.cell; have xb := Xb.out.cell))
    clear x1 xa xb z0 zf v0 vf hx4
    have OK9 := Lib.hid (O4.out.far k9.out (fun k hk e => by injection e with e; exact (HGV.out k hk).1 e.symm))
    have G9 : Hid (Grows w w9) := G4.out.mark k9.out (fun i hi => by injection hi with hi; omega)
    have hn1' : ((Value.slice A0 m c0).ownBlock ≠ some w.heap.size) := fun e => by have := (OK9.out.lt _ e).1; omega
    have hn2' : ((Value.slice A0 m c0).ownBlock ≠ some (w.heap.size + 1)) := fun e => by have := (OK9.out.lt _ e).1; omega
    have hn3' : ((Value.slice A9 n9 c9).ownBlock ≠ some w.heap.size) := fun e => by have := (HO9.out.lt _ e).1; have h9 : w4.drew.heap.size = w4.heap.size := rfl; omega
    have hn4' : ((Value.slice A9 n9 c9).ownBlock ≠ some (w.heap.size + 1)) := fun e => by have := (HO9.out.lt _ e).1; have h9 : w4.drew.heap.size = w4.heap.size := rfl; omega
    have OKf := Lib.hid (((OK9.out.setFar (i := 0) hn1' (.slice A0 m c0)).setFar (i := 0) hn2' (.slice A9 n9 c9)).less (show w.heap.size ≤ w.heap.size + 2 by omega))
    have OLf := Lib.hid (((HO9.out.setFar (i := 0) hn3' (.slice A0 m c0)).setFar (i := 0) hn4' (.slice A9 n9 c9)).less (show w.heap.size ≤ w4.drew.heap.size by have h9 : w4.drew.heap.size = w4.heap.size := rfl; omega))
    have GF : Hid (Grows w ((w9.setCell ⟨w.heap.size, 0, none⟩ (.slice A0 m c0)).setCell ⟨w.heap.size + 1, 0, none⟩ (.slice A9 n9 c9))) := (G9.out.setCell (Nat.le_refl _) _).setCell (Nat.le_succ _) _
    have ZF := Lib.hid (Za.out.far (gb_set (World.grownBy.refl _ (some (w.heap.size + 1))) 0 (.slice A9 n9 c9)) (by intro e; injection e with e; omega))
    have VF := Lib.hid (Va.out.set_ (.slice A9 n9 c9))
    obtain ⟨wf, hwf⟩ : ∃ wf, (w9.setCell ⟨w.heap.size, 0, none⟩ (.slice A0 m c0)).setCell ⟨w.heap.size + 1, 0, none⟩ (.slice A9 n9 c9) = wf := ⟨_, rfl⟩
    rw [hwf] at OKf OLf GF ZF VF ⊢
    clear hwf
    have hz := ZF.out.cell
    have hv := VF.out.cell
    go_wp2
    refine bodyPost_ret (v := .tuple #[.agg #[.slice A0 m c0], .agg #[.slice A9 n9 c9]]) (by simp [results, Tryd.results14, go_sem, hz, hv]) rfl ?_
    exact ⟨_, K, _, L, rfl, ⟨SS.out, hK⟩, ⟨HS9.out, hL9⟩, OKf.out, OLf.out, GF.out⟩
  · have hb : (x == 0) = false := beq_eq_false_iff_ne.2 hx
    clear hx hx0
    go_wp2_with fail
    have hx4 := X4.out.cell
    go_region_held3 (fun w' => w'.cell? ⟨w2.heap.size, 0, none⟩ = some (.slice A0 m c0)) (first | exact hx4 | exact x1 | exact xa | exact xb | go_keep) (first | (go_at_call 48; have HA1 := someLayer_any g A1 n1 c1 (q2 + 1) w4.drew (by omega) hn1 (R4.out.keep (Grows.refl w4).drew); refine HA1.mono ?_; rintro e w9 ⟨u, L, rfl, hS9, hL9, hO9, q9, a9, b9, r9, k9'⟩; clear HA1; have k9 : Hid (w4.grownBy w9 (some g)) := (gb_of (Grows.refl w4).drew).trans k9'; clear k9' r9; obtain ⟨A9, n9, c9, hu9⟩ := OwnE.form3 hO9; subst hu9; have HS9 := Lib.hid hS9; have HO9 := Lib.hid hO9; clear hS9 hO9; have X9 := Lib.hid (X4.out.far k9.out (by intro e; injection e with e; omega)); have Z9 := Lib.hid (Z4.out.far k9.out (by intro e; injection e with e; omega)); have V9 := Lib.hid (V4.out.far k9.out (by intro e; injection e with e; omega)); have Za := Lib.hid (Z9.out.set_ (.slice A0 m c0)); have Va := Lib.hid (V9.out.far (gb_set (World.grownBy.refl w9 (some w.heap.size)) 0 (.slice A0 m c0)) (by intro e; injection e with e; omega)); have Xa := Lib.hid (X9.out.far (gb_set (World.grownBy.refl w9 (some w.heap.size)) 0 (.slice A0 m c0)) (by intro e; injection e with e; omega)); have Xb := Lib.hid (Xa.out.far (gb_set (World.grownBy.refl _ (some (w.heap.size + 1))) 0 (.slice A9 n9 c9)) (by intro e; injection e with e; omega)); have z0 := Z9.out.cell; have zf := Z9.out.free; have v0 := Va.out.cell; have vf := Va.out.free; have x1 := X9.out.cell; have xa := Xa.out.cell; have xb := Xb.out.cell))
    clear x1 xa xb z0 zf v0 vf hx4
    have OK9 := Lib.hid (O4.out.far k9.out (fun k hk e => by injection e with e; exact (HGV.out k hk).1 e.symm))
    have G9 : Hid (Grows w w9) := G4.out.mark k9.out (fun i hi => by injection hi with hi; omega)
    have hn1' : ((Value.slice A0 m c0).ownBlock ≠ some w.heap.size) := fun e => by have := (OK9.out.lt _ e).1; omega
    have hn2' : ((Value.slice A0 m c0).ownBlock ≠ some (w.heap.size + 1)) := fun e => by have := (OK9.out.lt _ e).1; omega
    have hn3' : ((Value.slice A9 n9 c9).ownBlock ≠ some w.heap.size) := fun e => by have := (HO9.out.lt _ e).1; have h9 : w4.drew.heap.size = w4.heap.size := rfl; omega
    have hn4' : ((Value.slice A9 n9 c9).ownBlock ≠ some (w.heap.size + 1)) := fun e => by have := (HO9.out.lt _ e).1; have h9 : w4.drew.heap.size = w4.heap.size := rfl; omega
    have OKf := Lib.hid (((OK9.out.setFar (i := 0) hn1' (.slice A0 m c0)).setFar (i := 0) hn2' (.slice A9 n9 c9)).less (show w.heap.size ≤ w.heap.size + 2 by omega))
    have OLf := Lib.hid (((HO9.out.setFar (i := 0) hn3' (.slice A0 m c0)).setFar (i := 0) hn4' (.slice A9 n9 c9)).less (show w.heap.size ≤ w4.drew.heap.size by have h9 : w4.drew.heap.size = w4.heap.size := rfl; omega))
    have GF : Hid (Grows w ((w9.setCell ⟨w.heap.size, 0, none⟩ (.slice A0 m c0)).setCell ⟨w.heap.size + 1, 0, none⟩ (.slice A9 n9 c9))) := (G9.out.setCell (Nat.le_refl _) _).setCell (Nat.le_succ _) _
    have ZF := Lib.hid (Za.out.far (gb_set (World.grownBy.refl _ (some (w.heap.size + 1))) 0 (.slice A9 n9 c9)) (by intro e; injection e with e; omega))
    have VF := Lib.hid (Va.out.set_ (.slice A9 n9 c9))
    obtain ⟨wf, hwf⟩ : ∃ wf, (w9.setCell ⟨w.heap.size, 0, none⟩ (.slice A0 m c0)).setCell ⟨w.heap.size + 1, 0, none⟩ (.slice A9 n9 c9) = wf := ⟨_, rfl⟩
    rw [hwf] at OKf OLf GF ZF VF ⊢
    clear hwf
    have hz := ZF.out.cell
    have hv := VF.out.cell
    go_wp2
    refine bodyPost_ret (v := .tuple #[.agg #[.slice A0 m c0], .agg #[.slice A9 n9 c9]]) (by simp [results, Tryd.results14, go_sem, hz, hv]) rfl ?_
    exact ⟨_, K, _, L, rfl, ⟨SS.out, hK⟩, ⟨HS9.out, by omega⟩, OKf.out, OLf.out, GF.out⟩
end Go.Proofs.YtcecjdjfbgmogaaDoor
