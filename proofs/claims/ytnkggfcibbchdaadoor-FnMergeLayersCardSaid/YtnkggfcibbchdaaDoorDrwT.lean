/-
  The arguments that the drawn laws of MergeLayers generate: two layers. Conditions: none but that the bytes lie in memory.
-/
import Derived.Test.YtnkggfcibbchdaaDoorDrwL
import Derived.Test.YtnkggfcibbchdaaDoorPutE
import Derived.RegionTactic
namespace Go.Proofs.YtnkggfcibbchdaaDoor
open Go.RowKit

/-- a call's end: two layers of short texts -/
def DTwo (w : World) (e : Ending) (w' : World) : Prop := ∃ (v : Value) (K : List Ent) (u : Value) (L : List Ent), e = .returned (.tuple #[.agg #[v], .agg #[u]]) ∧ (ShortE K ∧ K.length ≤ 101) ∧ (ShortE L ∧ L.length ≤ 101) ∧ OwnE w' w.heap.size v K ∧ OwnE w' w.heap.size u L ∧ Grows w w'
/-- the same, with a reader -/
def TwoGen (g : Nat) (w : World) (e : Ending) (w' : World) : Prop := ∃ (v : Value) (K : List Ent) (u : Value) (L : List Ent), e = .returned (.tuple #[.agg #[v], .agg #[u]]) ∧ (ShortE K ∧ K.length ≤ 101) ∧ (ShortE L ∧ L.length ≤ 101) ∧ OwnE w' w.heap.size v K ∧ OwnE w' w.heap.size u L ∧ w.grownBy w' (some g)
def Fin2 (w : World) (v : Value) (K : List Ent) (u : Value) (L : List Ent) (g : Nat) (W : World) : Prop := Box W w.heap.size v 25 ∧ Box W (w.heap.size + 1) u 25 ∧ OwnE W w.heap.size v K ∧ OwnE W w.heap.size u L ∧ w.grownBy W (some g)

set_option maxRecDepth 100000 in
set_option maxHeartbeats 8000000 in
theorem twoLayers_any (g : Nat) (A : Option Addr) (n c p : Nat) (w : World) (hp : p ≤ 40000) (hn : n ≤ 2000) (h : Rd w g A n c p) :
    Calls Tryd.prog 33 #[.pointer (some ⟨g, 0, none⟩)] w (TwoGen g w) := by
  have H0 := Lib.hid h
  have hg0 := h.lt
  have R1 : Hid (Rd ((w.alloc (.cells #[.slice none 0 0] 25)).alloc (.cells #[.slice none 0 0] 25)) g A n c p) := h.keep (((Grows.refl w).alloc _).alloc _)
  have Z1 : Hid (Box ((w.alloc (.cells #[.slice none 0 0] 25)).alloc (.cells #[.slice none 0 0] 25)) w.heap.size (.slice none 0 0) 25) := row_grow (heap_alloc_new w _) ((Grows.refl _).alloc _)
  have V1 : Hid (Box ((w.alloc (.cells #[.slice none 0 0] 25)).alloc (.cells #[.slice none 0 0] 25)) (w.heap.size + 1) (.slice none 0 0) 25) := alloc_new2 w _ _
  have G1 : Hid (w.grownBy ((w.alloc (.cells #[.slice none 0 0] 25)).alloc (.cells #[.slice none 0 0] 25)) (some g)) := gb_of (((Grows.refl w).alloc _).alloc _)
  clear h
  go_enter Tryd.func33, Tryd.ntmps33
  go_upto_region 1 with (fail)
  obtain ⟨w1, hw1⟩ : ∃ w1, (w.alloc (.cells #[.slice none 0 0] 25)).alloc (.cells #[.slice none 0 0] 25) = w1 := ⟨_, rfl⟩
  rw [hw1] at R1 Z1 V1 G1 ⊢
  clear hw1
  have S1 : w.heap.size + 1 < w1.heap.size := V1.out.lt
  go_wp2_with fail
  refine (someLayer_any g A n c p _ (by omega) hn R1.out).mono ?_
  rintro e w2 ⟨v, K, rfl, hS, hK, hO, q2, a2, b2, r2, k2⟩
  have Z2 : Hid (Box w2 w.heap.size (.slice none 0 0) 25) := row_keep Z1.out k2 (by omega)
  have V2 : Hid (Box w2 (w.heap.size + 1) (.slice none 0 0) 25) := row_keep V1.out k2 (by omega)
  have R2 := Lib.hid r2
  have O2 : Hid (OwnE w2 (w.heap.size + 2) v K) := hO.less (by omega)
  have G2 : Hid (w.grownBy w2 (some g)) := G1.out.trans k2
  have hgv : ∀ k, v.ownBlock = some k → k ≠ g := fun k hk => by have h1 := (hO.lt k hk).1; omega
  have HGV := Lib.hid hgv
  have SS := Lib.hid hS
  have S2 : w.heap.size + 1 < w2.heap.size := V2.out.lt
  obtain ⟨A9, n9, c9, rfl⟩ := O2.out.form3
  clear hS hO r2 k2 Z1 V1 R1 G1 hgv
  go_wp2_with fail
  refine (someLayer_any g A n c q2 _ (by omega) hn R2.out).mono ?_
  rintro e w3 ⟨u, L, rfl, hS, hL, hO, q3, a3, b3, r3, k3⟩
  have Z3 : Hid (Box w3 w.heap.size (.slice none 0 0) 25) := row_keep Z2.out k3 (by omega)
  have V3 : Hid (Box w3 (w.heap.size + 1) (.slice none 0 0) 25) := row_keep V2.out k3 (by omega)
  have O3 := Lib.hid (O2.out.far k3 (fun k hk e => by injection e with e; exact HGV.out k hk e.symm))
  have P3 : Hid (OwnE w3 (w.heap.size + 2) u L) := hO.less (by omega)
  have G3 : Hid (w.grownBy w3 (some g)) := G2.out.trans k3
  have ST := Lib.hid hS
  obtain ⟨A8, n8, c8, rfl⟩ := P3.out.form3
  clear hS hO r3 k3 Z2 V2 R2 G2 O2
  have z0 := Z3.out.cell
  have zf := Z3.out.free
  have v0 := V3.out.cell
  have vf := V3.out.free
  have HN0 : Hid ((Value.slice A9 n9 c9).ownBlock ≠ some w.heap.size) := fun e => by have := (O3.out.lt _ e).1; omega
  have HN1 : Hid ((Value.slice A9 n9 c9).ownBlock ≠ some (w.heap.size + 1)) := fun e => by have := (O3.out.lt _ e).1; omega
  have HM0 : Hid ((Value.slice A8 n8 c8).ownBlock ≠ some w.heap.size) := fun e => by have := (P3.out.lt _ e).1; omega
  have HM1 : Hid ((Value.slice A8 n8 c8).ownBlock ≠ some (w.heap.size + 1)) := fun e => by have := (P3.out.lt _ e).1; omega
  have F1 : Hid (Fin2 w (.slice A9 n9 c9) K (.slice A8 n8 c8) L g ((w3.setCell ⟨w.heap.size, 0, none⟩ (.slice A9 n9 c9)).setCell ⟨w.heap.size + 1, 0, none⟩ (.slice A8 n8 c8))) := by
    refine ⟨Box.far (row := some (w.heap.size + 1)) (Z3.out.set_ _) (gb_set (World.grownBy.refl _ _) _ _) (by intro e; injection e with e; omega), Box.set_ (Box.far (row := some w.heap.size) V3.out (gb_set (World.grownBy.refl _ _) _ _) (by intro e; injection e with e; omega)) _, ?_, ?_, ?_⟩
    · exact ((O3.out.setFar HN0.out _).setFar HN1.out _).less (by omega)
    · exact ((P3.out.setFar HM0.out _).setFar HM1.out _).less (by omega)
    · exact gb_new (gb_new G3.out (Nat.le_refl _) 0 _) (by omega) 0 _
  go_wp2
  obtain ⟨wf, hwf⟩ : ∃ wf, (w3.setCell ⟨w.heap.size, 0, none⟩ (.slice A9 n9 c9)).setCell ⟨w.heap.size + 1, 0, none⟩ (.slice A8 n8 c8) = wf := ⟨_, rfl⟩
  rw [hwf] at F1 ⊢
  clear hwf z0 zf v0 vf
  obtain ⟨f0, f1, f2, f3, f4⟩ := F1.out
  have p0 := f0.cell
  have p1 := f1.cell
  refine bodyPost_ret (v := .tuple #[.agg #[.slice A9 n9 c9], .agg #[.slice A8 n8 c8]]) (by simp [results, Tryd.results33, go_sem, p0, p1]) rfl ?_
  exact ⟨_, K, _, L, rfl, ⟨SS.out, hK⟩, ⟨ST.out, hL⟩, f2, f3, f4⟩

set_option maxRecDepth 100000 in
set_option maxHeartbeats 8000000 in
theorem DrawMergeLayers_any (A : Option Addr) (n c : Nat) (w : World) (hn : n ≤ maxLen) (hc : n ≤ c) (h : BytesAt w A n) :
    Calls Tryd.prog 8 #[.slice A n c] w (DTwo w) := by
  have HB := Lib.hid (fun o o2 => h.keep (((Grows.refl w).alloc o).alloc o2))
  clear h
  go_enter Tryd.func8, Tryd.ntmps8
  go_wp2_with fail
  refine (newReader_any A n c _ hn hc (HB.out _ _)).mono ?_
  rintro e w1 ⟨A1, n1, c1, g, rfl, hn1, hg, r1, k1⟩
  have hgw : w.heap.size + 1 < g := by simp at hg; omega
  have Z1 : Hid (Box w1 w.heap.size (.slice none 0 0) 25) := row_grow (row_grow (heap_alloc_new w _) ((Grows.refl _).alloc _)) k1
  have V1 : Hid (Box w1 (w.heap.size + 1) (.slice none 0 0) 25) := row_grow (alloc_new2 w _ _) k1
  have R1 := Lib.hid r1
  have G1 : Hid (Grows w w1) := (((Grows.refl w).alloc _).alloc _).trans k1
  have S1 : w.heap.size + 1 < w1.heap.size := V1.out.lt
  clear r1 k1 hg HB
  go_wp2_with fail
  refine (twoLayers_any g A1 n1 c1 0 _ (by omega) hn1 R1.out).mono ?_
  rintro e w3 ⟨v, K, u, L, rfl, ⟨hS, hK⟩, ⟨hT, hL⟩, hO, hP, k3⟩
  have Z3 : Hid (Box w3 w.heap.size (.slice none 0 0) 25) := row_keep Z1.out k3 (by omega)
  have V3 : Hid (Box w3 (w.heap.size + 1) (.slice none 0 0) 25) := row_keep V1.out k3 (by omega)
  have O3 : Hid (OwnE w3 (w.heap.size + 2) v K) := hO.less (by omega)
  have P3 : Hid (OwnE w3 (w.heap.size + 2) u L) := hP.less (by omega)
  have G3 : Hid (Grows w w3) := G1.out.mark k3 (fun i hi => by injection hi with hi; omega)
  have SS := Lib.hid hS
  have ST := Lib.hid hT
  obtain ⟨A9, n9, c9, rfl⟩ := O3.out.form3
  obtain ⟨A8, n8, c8, rfl⟩ := P3.out.form3
  clear hS hT hO hP k3 Z1 V1 R1 G1
  have z0 := Z3.out.cell
  have zf := Z3.out.free
  have v0 := V3.out.cell
  have vf := V3.out.free
  have HN0 : Hid ((Value.slice A9 n9 c9).ownBlock ≠ some w.heap.size) := fun e => by have := (O3.out.lt _ e).1; omega
  have HN1 : Hid ((Value.slice A9 n9 c9).ownBlock ≠ some (w.heap.size + 1)) := fun e => by have := (O3.out.lt _ e).1; omega
  have HM0 : Hid ((Value.slice A8 n8 c8).ownBlock ≠ some w.heap.size) := fun e => by have := (P3.out.lt _ e).1; omega
  have HM1 : Hid ((Value.slice A8 n8 c8).ownBlock ≠ some (w.heap.size + 1)) := fun e => by have := (P3.out.lt _ e).1; omega
  have F0 : Hid (Box ((w3.setCell ⟨w.heap.size, 0, none⟩ (.slice A9 n9 c9)).setCell ⟨w.heap.size + 1, 0, none⟩ (.slice A8 n8 c8)) w.heap.size (.slice A9 n9 c9) 25) := Box.far (row := some (w.heap.size + 1)) (Z3.out.set_ _) (gb_set (World.grownBy.refl _ _) _ _) (by intro e; injection e with e; omega)
  have F1 : Hid (Box ((w3.setCell ⟨w.heap.size, 0, none⟩ (.slice A9 n9 c9)).setCell ⟨w.heap.size + 1, 0, none⟩ (.slice A8 n8 c8)) (w.heap.size + 1) (.slice A8 n8 c8) 25) := Box.set_ (Box.far (row := some w.heap.size) V3.out (gb_set (World.grownBy.refl _ _) _ _) (by intro e; injection e with e; omega)) _
  have F2 := Lib.hid (((O3.out.setFar (i := 0) HN0.out (.slice A9 n9 c9)).setFar (i := 0) HN1.out (.slice A8 n8 c8)).less (show w.heap.size ≤ w.heap.size + 2 by omega))
  have F3 := Lib.hid (((P3.out.setFar (i := 0) HM0.out (.slice A9 n9 c9)).setFar (i := 0) HM1.out (.slice A8 n8 c8)).less (show w.heap.size ≤ w.heap.size + 2 by omega))
  have F4 : Hid (Grows w ((w3.setCell ⟨w.heap.size, 0, none⟩ (.slice A9 n9 c9)).setCell ⟨w.heap.size + 1, 0, none⟩ (.slice A8 n8 c8))) := (G3.out.setCell (Nat.le_refl _) _).setCell (show w.heap.size ≤ w.heap.size + 1 by omega) _
  go_wp2
  obtain ⟨wf, hwf⟩ : ∃ wf, (w3.setCell ⟨w.heap.size, 0, none⟩ (.slice A9 n9 c9)).setCell ⟨w.heap.size + 1, 0, none⟩ (.slice A8 n8 c8) = wf := ⟨_, rfl⟩
  rw [hwf] at F0 F1 F2 F3 F4 ⊢
  clear hwf z0 zf v0 vf
  have p0 := F0.out.cell
  have p1 := F1.out.cell
  refine bodyPost_ret (v := .tuple #[.agg #[.slice A9 n9 c9], .agg #[.slice A8 n8 c8]]) (by simp [results, Tryd.results8, go_sem, p0, p1]) rfl ?_
  exact ⟨_, K, _, L, rfl, ⟨SS.out, hK⟩, ⟨ST.out, hL⟩, F2.out, F3.out, F4.out⟩
end Go.Proofs.YtnkggfcibbchdaaDoor
