/-
  The arguments that the drawn law of PatchLayers generates: two flat layers. Conditions: the reader's place is at most 20000.
  What the drawn laws of layers compare: equalLayer. Condition: at most 1048576 entries.
  Merging goes in either order: the entries of three layers, whichever two come first. Conditions: all layers are valid.
  What two layers have in common, both ways: pure. Conditions: both layers are valid.
  A patch over a flat layer tells what the other layer tells; flat layers that tell the same are the same. No program, no condition.
  CountChanges of the specification. Conditions: parts of at most 1048576 bytes.
  Pure: counted changes the other way round, their sum, and the numbers of entries.
  Stacks that calls make: of one layer, of two layers; rows put behind rows; Resolve of both sides at them. Conditions: parts of at most 1048576 bytes.
  Flat layers are their own flat layers; what is flattened is flat; Flatten and IsFlat at rows that calls have made. Conditions: parts of at most 1048576 bytes.
  A layer patched to itself needs no entry; a patch is empty exactly where both layers are the same. No program, no condition.
  Pure: without one of its entries a patch leads elsewhere, and it has as many entries as there are changes.
  A patch, as the program puts it together. Conditions: parts of at most 1048576 bytes.
  A patch, as the specification puts it together. Conditions: parts of at most 1048576 bytes.
  PatchLayers of the specification. Conditions: parts of at most 1048576 bytes.
  The drawn law of patches that have no entry too many: whatever its bytes, it returns true. Condition: no more bytes than a slice may have.
-/
import Derived.Test.YtkjoolmhcfajnaaDoorChg
import Derived.Test.YtkjoolmhcfajnaaDoorGFlat
import Derived.Test.YtkjoolmhcfajnaaDoorDrwL
import Derived.Deep.RegionHeld3
import Derived.Test.YtkjoolmhcfajnaaDoorLawH
import Derived.Test.YtkjoolmhcfajnaaDoorEqE
import Derived.Test.YtkjoolmhcfajnaaDoorLayX
import Derived.Test.YtkjoolmhcfajnaaDoorPutX
import Derived.Test.YtkjoolmhcfajnaaDoorSameL
import Derived.Test.YtkjoolmhcfajnaaDoorRslX
import Derived.Test.YtkjoolmhcfajnaaDoorPatP
import Derived.Test.YtkjoolmhcfajnaaDoorLawVL
import Derived.Test.YtkjoolmhcfajnaaDoorCnt
import Derived.Test.YtkjoolmhcfajnaaDoorRslI
import Derived.Test.YtkjoolmhcfajnaaDoorCutE
import Derived.Deep.Upon
import Derived.Test.YtkjoolmhcfajnaaDoorFltI
import Derived.Test.YtkjoolmhcfajnaaDoorApartB
namespace Go.Proofs.YtkjoolmhcfajnaaDoor
open Go.RowKit

def TwoFl (g : Nat) (w : World) (e : Ending) (w' : World) : Prop := ∃ (v : Value) (K : List Ent) (u : Value) (L : List Ent), e = .returned (.tuple #[.agg #[v], .agg #[u]]) ∧ (ShortE K ∧ K.length ≤ 101) ∧ (ShortE L ∧ L.length ≤ 104) ∧ OwnE w' w.heap.size v K ∧ OwnE w' w.heap.size u L ∧ w.grownBy w' (some g)

set_option maxRecDepth 100000 in
set_option maxHeartbeats 8000000 in
theorem twoFlats_any (g : Nat) (A1 : Option Addr) (n1 c1 p : Nat) (w : World) (hp : p ≤ 20000) (hn1 : n1 ≤ 2000) (h : Rd w g A1 n1 c1 p) :
    Calls Tryd.prog 12 #[.pointer (some ⟨g, 0, none⟩)] w (TwoFl g w) := by
  have hgl := h.lt
  have R1 : Hid (Rd ((w.alloc (.cells #[.slice none 0 0] 25)).alloc (.cells #[.slice none 0 0] 25)) g A1 n1 c1 p) := h.keep (((Grows.refl w).alloc _).alloc _)
  have Z1 : Hid (Box ((w.alloc (.cells #[.slice none 0 0] 25)).alloc (.cells #[.slice none 0 0] 25)) w.heap.size (.slice none 0 0) 25) := row_grow (heap_alloc_new w _) ((Grows.refl _).alloc _)
  have V1 : Hid (Box ((w.alloc (.cells #[.slice none 0 0] 25)).alloc (.cells #[.slice none 0 0] 25)) (w.heap.size + 1) (.slice none 0 0) 25) := alloc_new2 w _ _
  have G1 : Hid (w.grownBy ((w.alloc (.cells #[.slice none 0 0] 25)).alloc (.cells #[.slice none 0 0] 25)) (some g)) := gb_of (((Grows.refl w).alloc _).alloc _)
  clear h
  go_enter Tryd.func12, Tryd.ntmps12
  go_upto_region 1 with (fail)
  obtain ⟨w1, hw1⟩ : ∃ w1, (w.alloc (.cells #[.slice none 0 0] 25)).alloc (.cells #[.slice none 0 0] 25) = w1 := ⟨_, rfl⟩
  rw [hw1] at R1 Z1 V1 G1 ⊢
  clear hw1
  have S1 : w.heap.size + 1 < w1.heap.size := V1.out.lt
  go_wp2_with fail
  refine (someFlat_any g A1 n1 c1 p _ (by omega) hn1 R1.out).mono ?_
  rintro e w2 ⟨v, K, rfl, hS, hK, hO, q2, a2, b2, r2, k2⟩
  have hgv : ∀ k, v.ownBlock = some k → k ≠ g ∧ k < w2.heap.size := fun k hk => by have h1 := (hO.lt k hk).1; have h3 := (hO.lt k hk).2; omega
  have Z2 : Hid (Box w2 w.heap.size (.slice none 0 0) 25) := row_keep Z1.out k2 (by omega)
  have V2 : Hid (Box w2 (w.heap.size + 1) (.slice none 0 0) 25) := row_keep V1.out k2 (by omega)
  have R2 := Lib.hid r2
  have O2 : Hid (OwnE w2 (w.heap.size + 2) v K) := hO.less (by omega)
  have G2 : Hid (w.grownBy w2 (some g)) := G1.out.trans k2
  have SS := Lib.hid hS
  have S2 : w.heap.size + 1 < w2.heap.size := V2.out.lt
  clear hS hO r2 k2 Z1 V1 R1 G1
  obtain ⟨A0, c0, rfl, hc0, _⟩ := OwnE.formC O2.out
  obtain ⟨m, hm⟩ : ∃ m, K.length = m := ⟨_, rfl⟩
  rw [hm] at O2 hgv hc0 ⊢
  have HM := Lib.hid hm
  have hmK : m ≤ 101 := by omega
  clear hm
  have X3 : Hid (Box (w2.alloc (.cells #[.slice A0 m c0] 25)) w2.heap.size (.slice A0 m c0) 25) := heap_alloc_new w2 _
  have Z3 := Lib.hid (Z2.out.keep ((Grows.refl w2).alloc (.cells #[.slice A0 m c0] 25)))
  have V3 := Lib.hid (V2.out.keep ((Grows.refl w2).alloc (.cells #[.slice A0 m c0] 25)))
  have O3 := Lib.hid (O2.out.keep ((Grows.refl w2).alloc (.cells #[.slice A0 m c0] 25)))
  have R3 := Lib.hid (R2.out.keep ((Grows.refl w2).alloc (.cells #[.slice A0 m c0] 25)))
  have G3 : Hid (w.grownBy (w2.alloc (.cells #[.slice A0 m c0] 25)) (some g)) := gb_grows G2.out ((Grows.refl _).alloc _)
  have HGV := Lib.hid hgv
  clear hgv
  go_upto_region 2 with (fail)
  obtain ⟨w3, hw3⟩ : ∃ w3, w2.alloc (.cells #[.slice A0 m c0] 25) = w3 := ⟨_, rfl⟩
  have hs3 : w3.heap.size = w2.heap.size + 1 := by rw [← hw3]; exact World.size_alloc _ _
  rw [hw3] at X3 Z3 V3 O3 R3 G3 ⊢
  clear hw3 Z2 V2 O2 R2 G2
  go_wp2_with fail
  refine (pick_any 3 g A1 n1 c1 q2 _ (by omega) (by omega) (by omega) hn1 R3.out).mono ?_
  rintro e w4 ⟨x, rfl, hx0, hx1, r4, k4⟩
  have hgw2 : g < w2.heap.size := by omega
  have X4 := Lib.hid (X3.out.far k4 (by intro e; injection e with e; omega))
  have Z4 := Lib.hid (Z3.out.far k4 (by intro e; injection e with e; omega))
  have V4 := Lib.hid (V3.out.far k4 (by intro e; injection e with e; omega))
  have O4 := Lib.hid (O3.out.far k4 (fun k hk e => by injection e with e; exact (HGV.out k hk).1 e.symm))
  have R4 := Lib.hid r4
  have G4 : Hid (w.grownBy w4 (some g)) := G3.out.trans k4
  clear r4 k4 hx1 X3 Z3 V3 O3 R3 G3
  have hszi : w2.heap.size < w4.heap.size := X4.out.lt
  have HEA := Lib.hid (fun w' (gg : Grows w4 w') => (O4.out.keep gg).at_.2)
  by_cases hx : 0 < x
  · go_wp2_with fail
    have hx4 := X4.out.cell
    have HCH := Lib.hid (changed_any g A1 n1 c1 (q2 + 1) A0 c0 K w4.drew (by omega) hn1 (R4.out.keep (Grows.refl w4).drew) SS.out hK (HEA.out _ (Grows.refl w4).drew))
    rw [HM.out] at HCH
    go_region_held3 (fun w' => w'.cell? ⟨w2.heap.size, 0, none⟩ = some (.slice A0 m c0)) (first | exact hx4 | exact x1 | exact xa | exact xb | go_keep) (first | (go_at_call 31; have HA1 := HCH.out; refine HA1.mono ?_; rintro e w9 ⟨u, L, rfl, hS9, hL9, hO9, q9, a9, b9, r9, k9'⟩; clear HA1; have k9 : Hid (w4.grownBy w9 (some g)) := (gb_of (Grows.refl w4).drew).trans k9'; clear k9' r9; obtain ⟨A9, n9, c9, hu9⟩ := OwnE.form3 hO9; subst hu9; have HS9 := Lib.hid hS9; have HO9 := Lib.hid hO9; clear hS9 hO9; have X9 := Lib.hid (X4.out.far k9.out (by intro e; injection e with e; omega)); have Z9 := Lib.hid (Z4.out.far k9.out (by intro e; injection e with e; omega)); have V9 := Lib.hid (V4.out.far k9.out (by intro e; injection e with e; omega)); have Za := Lib.hid (Z9.out.set_ (.slice A0 m c0)); have Va := Lib.hid (V9.out.far (gb_set (World.grownBy.refl w9 (some w.heap.size)) 0 (.slice A0 m c0)) (by intro e; injection e with e; omega)); have Xa := Lib.hid (X9.out.far (gb_set (World.grownBy.refl w9 (some w.heap.size)) 0 (.slice A0 m c0)) (by intro e; injection e with e; omega)); have Xb := Lib.hid (Xa.out.far (gb_set (World.grownBy.refl _ (some (w.heap.size + 1))) 0 (.slice A9 n9 c9)) (by intro e; injection e with e; omega)); have z0 := Z9.out.cell; have zf := Z9.out.free; have v0 := Va.out.cell; have vf := Va.out.free; have x1 := X9.out.cell; have xa := Xa.out.cell; have xb := Xb.out.cell))
    clear x1 xa xb z0 zf v0 vf hx4
    have OK9 := Lib.hid (O4.out.far k9.out (fun k hk e => by injection e with e; exact (HGV.out k hk).1 e.symm))
    have G9 : Hid (w.grownBy w9 (some g)) := G4.out.trans k9.out
    have hn1' : ((Value.slice A0 m c0).ownBlock ≠ some w.heap.size) := fun e => by have := (OK9.out.lt _ e).1; omega
    have hn2' : ((Value.slice A0 m c0).ownBlock ≠ some (w.heap.size + 1)) := fun e => by have := (OK9.out.lt _ e).1; omega
    have hn3' : ((Value.slice A9 n9 c9).ownBlock ≠ some w.heap.size) := fun e => by have := (HO9.out.lt _ e).1; have h9 : w4.drew.heap.size = w4.heap.size := rfl; omega
    have hn4' : ((Value.slice A9 n9 c9).ownBlock ≠ some (w.heap.size + 1)) := fun e => by have := (HO9.out.lt _ e).1; have h9 : w4.drew.heap.size = w4.heap.size := rfl; omega
    have OKf := Lib.hid (((OK9.out.setFar (i := 0) hn1' (.slice A0 m c0)).setFar (i := 0) hn2' (.slice A9 n9 c9)).less (show w.heap.size ≤ w.heap.size + 2 by omega))
    have OLf := Lib.hid (((HO9.out.setFar (i := 0) hn3' (.slice A0 m c0)).setFar (i := 0) hn4' (.slice A9 n9 c9)).less (show w.heap.size ≤ w4.drew.heap.size by have h9 : w4.drew.heap.size = w4.heap.size := rfl; omega))
    have GF : Hid (w.grownBy ((w9.setCell ⟨w.heap.size, 0, none⟩ (.slice A0 m c0)).setCell ⟨w.heap.size + 1, 0, none⟩ (.slice A9 n9 c9)) (some g)) := gb_new (gb_new G9.out (Nat.le_refl _) 0 _) (Nat.le_succ _) 0 _
    have ZF := Lib.hid (Za.out.far (gb_set (World.grownBy.refl _ (some (w.heap.size + 1))) 0 (.slice A9 n9 c9)) (by intro e; injection e with e; omega))
    have VF := Lib.hid (Va.out.set_ (.slice A9 n9 c9))
    obtain ⟨wf, hwf⟩ : ∃ wf, (w9.setCell ⟨w.heap.size, 0, none⟩ (.slice A0 m c0)).setCell ⟨w.heap.size + 1, 0, none⟩ (.slice A9 n9 c9) = wf := ⟨_, rfl⟩
    rw [hwf] at OKf OLf GF ZF VF ⊢
    clear hwf
    have hz := ZF.out.cell
    have hv := VF.out.cell
    go_wp2
    refine bodyPost_ret (v := .tuple #[.agg #[.slice A0 m c0], .agg #[.slice A9 n9 c9]]) (by simp [results, Tryd.results12, go_sem, hz, hv]) rfl ?_
    exact ⟨_, K, _, L, rfl, ⟨SS.out, hK⟩, ⟨HS9.out, hL9⟩, OKf.out, OLf.out, GF.out⟩
  · have hx2 : ¬ 0 < x := hx
    go_wp2_with fail
    have hx4 := X4.out.cell
    go_region_held3 (fun w' => w'.cell? ⟨w2.heap.size, 0, none⟩ = some (.slice A0 m c0)) (first | exact hx4 | exact x1 | exact xa | exact xb | go_keep) (first | (go_at_call 29; have HA1 := someFlat_any g A1 n1 c1 (q2 + 1) w4.drew (by omega) hn1 (R4.out.keep (Grows.refl w4).drew); refine HA1.mono ?_; rintro e w9 ⟨u, L, rfl, hS9, hL9, hO9, q9, a9, b9, r9, k9'⟩; clear HA1; have k9 : Hid (w4.grownBy w9 (some g)) := (gb_of (Grows.refl w4).drew).trans k9'; clear k9' r9; obtain ⟨A9, n9, c9, hu9⟩ := OwnE.form3 hO9; subst hu9; have HS9 := Lib.hid hS9; have HO9 := Lib.hid hO9; clear hS9 hO9; have X9 := Lib.hid (X4.out.far k9.out (by intro e; injection e with e; omega)); have Z9 := Lib.hid (Z4.out.far k9.out (by intro e; injection e with e; omega)); have V9 := Lib.hid (V4.out.far k9.out (by intro e; injection e with e; omega)); have Za := Lib.hid (Z9.out.set_ (.slice A0 m c0)); have Va := Lib.hid (V9.out.far (gb_set (World.grownBy.refl w9 (some w.heap.size)) 0 (.slice A0 m c0)) (by intro e; injection e with e; omega)); have Xa := Lib.hid (X9.out.far (gb_set (World.grownBy.refl w9 (some w.heap.size)) 0 (.slice A0 m c0)) (by intro e; injection e with e; omega)); have Xb := Lib.hid (Xa.out.far (gb_set (World.grownBy.refl _ (some (w.heap.size + 1))) 0 (.slice A9 n9 c9)) (by intro e; injection e with e; omega)); have z0 := Z9.out.cell; have zf := Z9.out.free; have v0 := Va.out.cell; have vf := Va.out.free; have x1 := X9.out.cell; have xa := Xa.out.cell; have xb := Xb.out.cell))
    clear x1 xa xb z0 zf v0 vf hx4
    have OK9 := Lib.hid (O4.out.far k9.out (fun k hk e => by injection e with e; exact (HGV.out k hk).1 e.symm))
    have G9 : Hid (w.grownBy w9 (some g)) := G4.out.trans k9.out
    have hn1' : ((Value.slice A0 m c0).ownBlock ≠ some w.heap.size) := fun e => by have := (OK9.out.lt _ e).1; omega
    have hn2' : ((Value.slice A0 m c0).ownBlock ≠ some (w.heap.size + 1)) := fun e => by have := (OK9.out.lt _ e).1; omega
    have hn3' : ((Value.slice A9 n9 c9).ownBlock ≠ some w.heap.size) := fun e => by have := (HO9.out.lt _ e).1; have h9 : w4.drew.heap.size = w4.heap.size := rfl; omega
    have hn4' : ((Value.slice A9 n9 c9).ownBlock ≠ some (w.heap.size + 1)) := fun e => by have := (HO9.out.lt _ e).1; have h9 : w4.drew.heap.size = w4.heap.size := rfl; omega
    have OKf := Lib.hid (((OK9.out.setFar (i := 0) hn1' (.slice A0 m c0)).setFar (i := 0) hn2' (.slice A9 n9 c9)).less (show w.heap.size ≤ w.heap.size + 2 by omega))
    have OLf := Lib.hid (((HO9.out.setFar (i := 0) hn3' (.slice A0 m c0)).setFar (i := 0) hn4' (.slice A9 n9 c9)).less (show w.heap.size ≤ w4.drew.heap.size by have h9 : w4.drew.heap.size = w4.heap.size := rfl; omega))
    have GF : Hid (w.grownBy ((w9.setCell ⟨w.heap.size, 0, none⟩ (.slice A0 m c0)).setCell ⟨w.heap.size + 1, 0, none⟩ (.slice A9 n9 c9)) (some g)) := gb_new (gb_new G9.out (Nat.le_refl _) 0 _) (Nat.le_succ _) 0 _
    have ZF := Lib.hid (Za.out.far (gb_set (World.grownBy.refl _ (some (w.heap.size + 1))) 0 (.slice A9 n9 c9)) (by intro e; injection e with e; omega))
    have VF := Lib.hid (Va.out.set_ (.slice A9 n9 c9))
    obtain ⟨wf, hwf⟩ : ∃ wf, (w9.setCell ⟨w.heap.size, 0, none⟩ (.slice A0 m c0)).setCell ⟨w.heap.size + 1, 0, none⟩ (.slice A9 n9 c9) = wf := ⟨_, rfl⟩
    rw [hwf] at OKf OLf GF ZF VF ⊢
    clear hwf
    have hz := ZF.out.cell
    have hv := VF.out.cell
    go_wp2
    refine bodyPost_ret (v := .tuple #[.agg #[.slice A0 m c0], .agg #[.slice A9 n9 c9]]) (by simp [results, Tryd.results12, go_sem, hz, hv]) rfl ?_
    exact ⟨_, K, _, L, rfl, ⟨SS.out, hK⟩, ⟨HS9.out, by omega⟩, OKf.out, OLf.out, GF.out⟩
end Go.Proofs.YtkjoolmhcfajnaaDoor
namespace Go.Proofs.YtkjoolmhcfajnaaDoor
open Go.RowKit

set_option maxRecDepth 100000 in
set_option maxHeartbeats 1000000 in
theorem equalLayer_any (A B : Option Addr) (c d : Nat) (ls : List Ent) (w : World) (hn : ls.length ≤ maxLen) (hA : EntsAt w A ls) (hB : EntsAt w B ls) :
    Calls Tryd.prog 7 #[.agg #[.slice A ls.length c], .agg #[.slice B ls.length d]] w fun e w' => e = .returned (.bool true) ∧ Grows w w' := by
  have HA := Lib.hid hA
  have HB := Lib.hid hB
  clear hA hB
  obtain ⟨n, hnn⟩ : ∃ n, ls.length = n := ⟨_, rfl⟩
  rw [hnn] at hn
  rw [hnn]
  have HN := Lib.hid hnn
  clear hnn
  unfold maxLen at hn
  go_enter Tryd.func7, Tryd.ntmps7
  go_wp2
  go_loopw [5] (fun i wr => ∃ (k : Nat), k ≤ n ∧ i = .int .i64 k ∧ Hid (Grows ((w.alloc (lbox A n c)).alloc (lbox B n d)) wr)) (fun i _ => n - (intOf i).toNat)
  case atStart => exact ⟨0, Nat.zero_le _, rfl, Grows.refl _⟩
  case round =>
    obtain ⟨k, hk, rfl, HG⟩ := hrel
    have hx : wr.cell? ⟨w.heap.size, 0, none⟩ = some (.slice A n c) := (HG.out.cell (p := ⟨w.heap.size, 0, none⟩) (by simp; omega)).trans (by simp [lbox])
    have hy : wr.cell? ⟨w.heap.size + 1, 0, none⟩ = some (.slice B n d) := (HG.out.cell (p := ⟨w.heap.size + 1, 0, none⟩) (by simp)).trans (by simp [lbox])
    have HGw : Hid (Grows w wr) := (((Grows.refl _).alloc _).alloc _).trans HG.out
    by_cases hlt : k < n
    · obtain ⟨b, o, rfl, hb, hc⟩ := HA.out (by rw [HN.out]; omega)
      obtain ⟨b2, o2, rfl, hb2, hc2⟩ := HB.out (by rw [HN.out]; omega)
      have hk2 : k < ls.length := by rw [HN.out]; exact hlt
      obtain ⟨l, hl⟩ : ∃ l, ls[k] = l := ⟨_, rfl⟩
      have hat := (hc k hk2).keep hb HGw.out
      have hat2 := (hc2 k hk2).keep hb2 HGw.out
      rw [hl] at hat hat2
      obtain ⟨c0, c1, c2, c3⟩ := hat
      obtain ⟨d0, d1, d2, d3⟩ := hat2
      have hs := neEnt l l
      rw [Ent.same_self] at hs
      unfold Ent.agg at hs
      clear hl hc hc2
      go_wp2_with fail
      go_quiet (fail)
      clear hs
      go_wp2
      go_roundw
      case rel => exact ⟨k + 1, by omega, by go_num, HG.out.drewN _⟩
      case measure => simp [intOf]; omega
    · go_wp2
      go_ret
      exact ⟨rfl, HGw.out⟩

theorem equalLayer_own (v u : Value) (b1 b2 : Nat) (xs : List Ent) (w : World) (hn : xs.length ≤ 1048576) (h1 : OwnE w b1 v xs) (h2 : OwnE w b2 u xs) :
    Calls Tryd.prog 7 #[.agg #[v], .agg #[u]] w fun e w' => e = .returned (.bool true) ∧ Grows w w' := by
  obtain ⟨A, c, rfl, hA⟩ := h1.form
  obtain ⟨B, d, rfl, hB⟩ := h2.form
  exact equalLayer_any A B c d xs w (by unfold maxLen; omega) hA hB
end Go.Proofs.YtkjoolmhcfajnaaDoor
namespace Go.Proofs.YtkjoolmhcfajnaaDoor
open Go.RowKit

theorem keysM_of_distE : ∀ es : List Ent, distE es = true → (es.map Ent.key).Nodup
  | [], _ => List.nodup_nil
  | e :: t, h => by
    unfold distE at h
    rw [Bool.and_eq_true, List.all_eq_true] at h
    rw [List.map_cons, List.nodup_cons]
    refine ⟨fun hm => ?_, keysM_of_distE t h.2⟩
    obtain ⟨x, hx, e1⟩ := List.mem_map.1 hm
    have h1 := h.1 x hx
    obtain ⟨e2, e3⟩ := key_inj e1
    have h2 : e.of x.s x.k = true := (of_iff e x.s x.k).2 ⟨e2.symm, e3.symm⟩
    rw [h2] at h1
    cases h1
theorem vlayer_keysM {es : List Ent} (h : vlayer es = true) : (es.map Ent.key).Nodup := keysM_of_distE es (vlayer_dist h)
theorem overE_op {t l : Ent} (h : t.op ≠ 2) : overE t l = t := by unfold overE; rw [if_neg h]
theorem overE_drop {t l : Ent} (h : t.op = 2) (h1 : l.op = 1) : overE t l = ⟨t.s, t.k, 0, t.v⟩ := by unfold overE; rw [if_pos h, if_pos h1]
theorem overE_add {t l : Ent} (h : t.op = 2) (h1 : l.op ≠ 1) : overE t l = ⟨l.s, l.k, l.op, l.v ++ ⟨#[44]⟩ ++ t.v⟩ := by unfold overE; rw [if_pos h, if_neg h1]
theorem overE_assoc (t u l : Ent) : overE t (overE u l) = overE (overE t u) l := by
  by_cases ht : t.op = 2
  · by_cases hu : u.op = 2
    · have hu1 : u.op ≠ 1 := by omega
      rw [overE_add ht hu1]
      by_cases hl : l.op = 1
      · rw [overE_drop hu hl, overE_add (l := ⟨u.s, u.k, 0, u.v⟩) ht (by show (0 : Int) ≠ 1; omega), overE_drop (t := ⟨u.s, u.k, u.op, u.v ++ ⟨#[44]⟩ ++ t.v⟩) hu hl]
      · rw [overE_add hu hl, overE_add (l := ⟨l.s, l.k, l.op, l.v ++ ⟨#[44]⟩ ++ u.v⟩) ht hl, overE_add (t := ⟨u.s, u.k, u.op, u.v ++ ⟨#[44]⟩ ++ t.v⟩) hu hl]
        simp only [ByteArray.append_assoc]
    · rw [overE_op hu]
      by_cases hu1 : u.op = 1
      · rw [overE_drop ht hu1, overE_op (t := ⟨t.s, t.k, 0, t.v⟩) (by show (0 : Int) ≠ 2; omega)]
      · rw [overE_add ht hu1, overE_op (t := ⟨u.s, u.k, u.op, u.v ++ ⟨#[44]⟩ ++ t.v⟩) hu]
  · rw [overE_op ht, overE_op ht, overE_op ht]
theorem overE_of {t l : Ent} {s k : ByteArray} (h1 : t.of s k = true) (h2 : l.of s k = true) : (overE t l).of s k = true := by
  unfold overE
  split
  · split
    · exact h1
    · exact h2
  · exact h1
/-- what one layer over another one has at a place -/
def comb : Option Ent → Option Ent → Option Ent
  | some t, some l => some (overE t l)
  | some t, none => some t
  | none, x => x
theorem comb_assoc (a b c : Option Ent) : comb a (comb b c) = comb (comb a b) c := by
  rcases a with _ | a
  · rfl
  · rcases b with _ | b
    · rcases c with _ | c <;> rfl
    · rcases c with _ | c
      · rfl
      · show some (overE a (overE b c)) = some (overE (overE a b) c)
        rw [overE_assoc]
theorem last_iff {P : List Ent} (hd : distE P = true) (s k : ByteArray) (e : Ent) : lastE P s k = some e ↔ e ∈ P ∧ e.of s k = true := by
  constructor
  · intro h
    obtain ⟨h1, h2⟩ := lastE_mem h
    exact ⟨h1, (of_iff _ _ _).2 h2⟩
  · rintro ⟨h1, h2⟩
    obtain ⟨rfl, rfl⟩ := (of_iff _ _ _).1 h2
    obtain ⟨j, hj, h3, h4⟩ := idx_self hd h1
    rcases last_idx hd e.s e.k with ⟨h5, _⟩ | ⟨j', hj', h5, h6⟩
    · omega
    · have : j' = j := by omega
      subst this
      rw [h6, h4]
theorem merge_last {X Y : List Ent} (hx : distE X = true) (hy : distE Y = true) (hm : distE (mergeR X Y) = true) (s k : ByteArray) : lastE (mergeR X Y) s k = comb (lastE X s k) (lastE Y s k) := by
  rcases hX : lastE X s k with _ | t
  · rcases hY : lastE Y s k with _ | l
    · rcases hM : lastE (mergeR X Y) s k with _ | e
      · rfl
      · exfalso
        obtain ⟨h1, h2⟩ := (last_iff hm s k e).1 hM
        unfold mergeR at h1
        rcases List.mem_append.1 h1 with h3 | h3
        · obtain ⟨l, hl, rfl⟩ := List.mem_map.1 h3
          have h4 : l.of s k = true := by
            unfold ovr at h2
            split at h2
            · rename_i t ht
              unfold overE at h2
              obtain ⟨_, h5, h6⟩ := lastE_mem ht
              have h7 : t.of s k = true → l.of s k = true := fun h8 => by
                obtain ⟨h9, h10⟩ := (of_iff _ _ _).1 h8
                exact (of_iff _ _ _).2 ⟨h5.symm.trans h9, h6.symm.trans h10⟩
              split at h2
              · split at h2
                · exact h7 h2
                · exact h2
              · exact h7 h2
            · exact h2
          have h5 := (last_iff hy s k l).2 ⟨hl, h4⟩
          rw [hY] at h5
          cases h5
        · have h5 := (last_iff hx s k e).2 ⟨(List.mem_filter.1 h3).1, h2⟩
          rw [hX] at h5
          cases h5
    · obtain ⟨h1, h2⟩ := (last_iff hy s k l).1 hY
      refine (last_iff hm s k l).2 ⟨?_, h2⟩
      unfold mergeR
      refine List.mem_append.2 (.inl (List.mem_map.2 ⟨l, h1, ?_⟩))
      obtain ⟨rfl, rfl⟩ := (of_iff _ _ _).1 h2
      unfold ovr
      rw [hX]
  · obtain ⟨h3, h4⟩ := (last_iff hx s k t).1 hX
    rcases hY : lastE Y s k with _ | l
    · refine (last_iff hm s k t).2 ⟨?_, h4⟩
      unfold mergeR
      refine List.mem_append.2 (.inr (List.mem_filter.2 ⟨h3, ?_⟩))
      obtain ⟨rfl, rfl⟩ := (of_iff _ _ _).1 h4
      unfold freshIn
      rw [← lastE_isSome, hY]
      rfl
    · obtain ⟨h1, h2⟩ := (last_iff hy s k l).1 hY
      refine (last_iff hm s k _).2 ⟨?_, overE_of h4 h2⟩
      unfold mergeR
      refine List.mem_append.2 (.inl (List.mem_map.2 ⟨l, h1, ?_⟩))
      obtain ⟨rfl, rfl⟩ := (of_iff _ _ _).1 h2
      unfold ovr
      rw [hX]
/-- merged in either order: the same entries -/
theorem merge3 {T U L : List Ent} (hT : vlayer T = true) (hU : vlayer U = true) (hL : vlayer L = true) (h1 : vlayer (mergeR U L) = true) (h2 : vlayer (mergeR T (mergeR U L)) = true) (h3 : vlayer (mergeR T U) = true) (h4 : vlayer (mergeR (mergeR T U) L) = true) :
    sameL (mergeR T (mergeR U L)) (mergeR (mergeR T U) L) = true := by
  have key : ∀ s k, lastE (mergeR T (mergeR U L)) s k = lastE (mergeR (mergeR T U) L) s k := fun s k => by
    rw [merge_last (vlayer_dist hT) (vlayer_dist h1) (vlayer_dist h2), merge_last (vlayer_dist hU) (vlayer_dist hL) (vlayer_dist h1), merge_last (vlayer_dist h3) (vlayer_dist hL) (vlayer_dist h4), merge_last (vlayer_dist hT) (vlayer_dist hU) (vlayer_dist h3), comb_assoc]
  have hmem : ∀ e, e ∈ mergeR T (mergeR U L) ↔ e ∈ mergeR (mergeR T U) L := fun e => by
    constructor
    · intro h
      have h5 := (last_iff (vlayer_dist h2) e.s e.k e).2 ⟨h, of_self e⟩
      rw [key] at h5
      exact ((last_iff (vlayer_dist h4) e.s e.k e).1 h5).1
    · intro h
      have h5 := (last_iff (vlayer_dist h4) e.s e.k e).2 ⟨h, of_self e⟩
      rw [← key] at h5
      exact ((last_iff (vlayer_dist h2) e.s e.k e).1 h5).1
  unfold sameL
  rw [h2, h4, Bool.true_and, Bool.true_and]
  exact sameE_of (vlayer_keysM h2) (vlayer_keysM h4) hmem
theorem merge_yes {X Y : List Ent} (h : mergeB X Y = true) : vlayer X = true ∧ vlayer Y = true ∧ vlayer (mergeR X Y) = true ∧ mergeL X Y = mergeR X Y := by
  unfold mergeB at h
  simp only [Bool.and_eq_true] at h
  refine ⟨h.1, h.2.1, h.2.2, ?_⟩
  unfold mergeL chkE
  rw [if_pos ⟨h.1, h.2.1⟩, if_pos h.2.2]
/-- the promise, as the law asks it -/
theorem merge3_told {T U L : List Ent} (h0 : mergeB U L = true) (h1 : mergeB T (mergeL U L) = true) (h2 : mergeB T U = true) (h3 : mergeB (mergeL T U) L = true) : sameL (mergeL T (mergeL U L)) (mergeL (mergeL T U) L) = true := by
  obtain ⟨a1, a2, a3, a4⟩ := merge_yes h0
  obtain ⟨b1, _, b3, b4⟩ := merge_yes h2
  have c := merge_yes h1
  have d := merge_yes h3
  rw [c.2.2.2, d.2.2.2]
  have c3 := c.2.2.1
  have d3 := d.2.2.1
  rw [a4] at c3 ⊢
  rw [b4] at d3 ⊢
  exact merge3 b1 a1 a2 a3 c3 b3 d3
end Go.Proofs.YtkjoolmhcfajnaaDoor
namespace Go.Proofs.YtkjoolmhcfajnaaDoor
open Go.RowKit

theorem inM_iff {bs : List Ent} (hb : vlayer bs = true) (e : Ent) : inE bs e = true ↔ e ∈ bs := by
  constructor
  · intro h
    unfold inE at h
    split at h
    · rename_i x hx
      rw [Bool.and_eq_true] at h
      have h2 := h.2
      unfold Ent.same at h2
      simp only [Bool.and_eq_true, beq_iff_eq] at h2
      obtain ⟨h1, h3, h4, h5⟩ := h2
      have hxe : x = e := by
        obtain ⟨a1, a2, a3, a4⟩ := x
        obtain ⟨b1, b2, b3, b4⟩ := e
        simp only at h1 h3 h4 h5
        rw [toList_inj h1, toList_inj h3, h4, toList_inj h5]
      rw [← hxe]
      exact List.mem_of_getElem? hx
    · cases h
  · exact fun h => inE_mem (vlayer_keysM hb) h
theorem keysM_filter {es : List Ent} (p : Ent → Bool) (h : (es.map Ent.key).Nodup) : ((es.filter p).map Ent.key).Nodup :=
  List.Nodup.sublist (List.Sublist.map _ List.filter_sublist) h
theorem vlayerM_filter {es : List Ent} (p : Ent → Bool) (h : vlayer es = true) : vlayer (es.filter p) = true := by
  have h1 := vlayer_keysM h
  have h2 := vlayer_20 h
  have h3 := List.length_filter_le p es
  unfold vlayer okE
  simp only [Bool.and_eq_true, decide_eq_true_eq, List.all_eq_true]
  refine ⟨⟨fun x hx => vlayer_vent h x (List.mem_filter.1 hx).1, distE_keys _ (keysM_filter p h1)⟩, by omega⟩
/-- the same either way -/
theorem com_flip {K L : List Ent} (h1 : vlayer K = true) (h2 : vlayer L = true) : sameL (comE L K) (comE K L) = true := by
  rw [comE_yes h2 h1, comE_yes h1 h2]
  have v1 := vlayerM_filter (inE K) h2
  have v2 := vlayerM_filter (inE L) h1
  unfold sameL
  rw [v1, v2, Bool.true_and, Bool.true_and]
  refine sameE_of (vlayer_keysM v1) (vlayer_keysM v2) (fun e => ?_)
  rw [List.mem_filter, List.mem_filter, inM_iff h1, inM_iff h2]
  exact And.comm
/-- common with what is common -/
theorem com_again {K L : List Ent} (h1 : vlayer K = true) (h2 : vlayer L = true) : comE K (comE K L) = comE K L := by
  have v2 := vlayerM_filter (inE L) h1
  rw [comE_yes h1 h2, comE_yes h1 v2]
  refine List.filter_congr (fun e he => ?_)
  rw [Bool.eq_iff_iff, inM_iff v2, List.mem_filter]
  exact ⟨fun h => h.2, fun h => ⟨he, h⟩⟩
theorem com_self {K : List Ent} (h1 : vlayer K = true) : comE K K = K := by
  rw [comE_yes h1 h1, List.filter_eq_self]
  exact fun e he => (inM_iff h1 e).2 he
end Go.Proofs.YtkjoolmhcfajnaaDoor
namespace Go.Proofs.YtkjoolmhcfajnaaDoor
open Go.RowKit

theorem keysU_of_distE : ∀ es : List Ent, distE es = true → (es.map Ent.key).Nodup
  | [], _ => List.nodup_nil
  | e :: t, h => by
    unfold distE at h
    rw [Bool.and_eq_true, List.all_eq_true] at h
    rw [List.map_cons, List.nodup_cons]
    refine ⟨fun hm => ?_, keysU_of_distE t h.2⟩
    obtain ⟨x, hx, e1⟩ := List.mem_map.1 hm
    have h1 := h.1 x hx
    obtain ⟨e2, e3⟩ := key_inj e1
    have h2 : e.of x.s x.k = true := (of_iff e x.s x.k).2 ⟨e2.symm, e3.symm⟩
    rw [h2] at h1
    cases h1
theorem vlayer_keysU {es : List Ent} (h : vlayer es = true) : (es.map Ent.key).Nodup := keysU_of_distE es (vlayer_dist h)
theorem find_and (q : Ent → Bool) (s k : ByteArray) : ∀ H : List Ent, distE H = true → H.find? (fun a => q a && a.of s k) = match H.find? (fun x => x.of s k) with
    | some e => if q e = true then some e else none
    | none => none := by
  intro H
  induction H with
  | nil => intro _; rfl
  | cons a t ih =>
    intro hd
    rw [distE, Bool.and_eq_true] at hd
    by_cases ha : a.of s k = true
    · rw [List.find?_cons_of_pos (p := fun x : Ent => x.of s k) ha]
      have hn : t.find? (fun x => x.of s k) = none := by
        rw [List.find?_eq_none]
        intro x hx h2
        have h3 := hd.1
        rw [List.all_eq_true] at h3
        have h4 := h3 x hx
        rw [of_sym ha h2] at h4
        cases h4
      by_cases hq : q a = true
      · rw [List.find?_cons_of_pos (p := fun x : Ent => q x && x.of s k) (by rw [hq, ha]; rfl)]
        simp [hq]
      · have hq' : q a = false := by simpa using hq
        rw [List.find?_cons_of_neg (p := fun x : Ent => q x && x.of s k) (by rw [hq']; simp), ih hd.2, hn]
        simp [hq']
    · have ha' : a.of s k = false := by simpa using ha
      rw [List.find?_cons_of_neg (p := fun x : Ent => q x && x.of s k) (by rw [ha']; simp), List.find?_cons_of_neg (p := fun x : Ent => x.of s k) ha, ih hd.2]
theorem find_filt (p q : Ent → Bool) : ∀ l : List Ent, (l.filter p).find? q = l.find? (fun a => p a && q a) := by
  intro l
  induction l with
  | nil => rfl
  | cons a t ih =>
    cases hp : p a <;> cases hq : q a <;> simp [hp, hq, ih]
theorem patch_find (N H : List Ent) (hH : distE H = true) (s k : ByteArray) : (patchR N H).find? (fun x => x.of s k) = match H.find? (fun x => x.of s k) with
    | some e => if newIn N e = true then some e else none
    | none => (N.find? (fun x => x.of s k)).map dropE := by
  unfold patchR
  rw [List.find?_append, List.find?_map, find_filt, find_filt, find_and (newIn N) s k H hH]
  have hc : ((fun x : Ent => x.of s k) ∘ dropE) = fun x : Ent => x.of s k := rfl
  rw [hc]
  cases hb : H.find? (fun x => x.of s k) with
  | some e =>
    have hem := List.mem_of_find?_eq_some hb
    have hep : e.of s k = true := by have h9 := List.find?_some hb; exact h9
    obtain ⟨e1, e2⟩ := (of_iff e s k).1 hep
    have h0 : N.find? (fun a => freshIn H a && a.of s k) = none := by
      rw [List.find?_eq_none]
      intro a _ h1
      rw [Bool.and_eq_true] at h1
      obtain ⟨a1, a2⟩ := (of_iff a s k).1 h1.2
      have h2 := h1.1
      unfold freshIn at h2
      rw [a1, a2] at h2
      have h3 : (H.any fun y => y.of s k) = true := by
        rw [List.any_eq_true]
        exact ⟨e, hem, hep⟩
      rw [h3] at h2
      cases h2
    rw [h0]
    rfl
  | none =>
    have h0 : (fun a : Ent => freshIn H a && a.of s k) = fun a : Ent => a.of s k := by
      funext a
      by_cases ha : a.of s k = true
      · obtain ⟨a1, a2⟩ := (of_iff a s k).1 ha
        have h2 : freshIn H a = true := by
          unfold freshIn
          rw [a1, a2]
          rw [List.find?_eq_none] at hb
          rw [Bool.not_eq_true', ← Bool.not_eq_true, List.any_eq_true]
          rintro ⟨y, hy, h5⟩
          exact hb y hy h5
        simp [h2, ha]
      · have ha' : a.of s k = false := by simpa using ha
        simp [ha']
    rw [h0]
    cases N.find? (fun x => x.of s k) <;> rfl
theorem flat_op {X : List Ent} (h : vflat X = true) : ∀ e ∈ X, e.op = 0 := by
  unfold vflat at h
  rw [Bool.and_eq_true] at h
  have hf : flatE X = true := by first | exact h.1 | exact h.2
  unfold flatE at hf
  rw [List.all_eq_true] at hf
  exact fun e he => of_decide_eq_true (hf e he)
theorem step_set {e : Ent} (h : e.op = 0) (cur : Option ByteArray) : stepV cur e = some e.v := by
  unfold stepV
  rw [if_pos h]
theorem told_undo {N H : List Ent} (hN : vflat N = true) (hH : vflat H = true) (hU : vlayer (patchR N H) = true) (s k : ByteArray) : toldV [patchR N H, N] s k = toldV [H] s k := by
  have dN := vlayer_dist (vflat_vlayer hN)
  have dH := vlayer_dist (vflat_vlayer hH)
  rw [told_two _ _ (vlayer_dist hU), told_one _ dN, told_one _ dH, patch_find N H dH]
  cases hb : H.find? (fun x => x.of s k) with
  | some e =>
    have hem := List.mem_of_find?_eq_some hb
    have hep : e.of s k = true := by have h9 := List.find?_some hb; exact h9
    obtain ⟨e1, e2⟩ := (of_iff e s k).1 hep
    simp only []
    rw [step_set (flat_op hH e hem)]
    have hl : lastE N e.s e.k = N.find? (fun x => x.of s k) := by rw [find_last N dN, e1, e2]
    unfold newIn
    rw [hl]
    cases hx : N.find? (fun x => x.of s k) with
    | none => simp [step_set (flat_op hH e hem)]
    | some t =>
      have htm := List.mem_of_find?_eq_some hx
      simp only []
      by_cases hv : (t.v.toList == e.v.toList) = true
      · have hve : t.v = e.v := toList_inj (by simpa using hv)
        rw [if_neg (by rw [hv]; simp)]
        simp only []
        rw [step_set (flat_op hN t htm), hve]
      · rw [if_pos (by simpa using hv)]
        simp only []
        rw [step_set (flat_op hH e hem)]
  | none =>
    simp only []
    cases hx : N.find? (fun x => x.of s k) with
    | none => rfl
    | some t => rfl
theorem findU_dist : ∀ (es : List Ent), distE es = true → ∀ e ∈ es, es.find? (fun x => x.of e.s e.k) = some e := by
  intro es
  induction es with
  | nil => intro _ e he; cases he
  | cons a t ih =>
    intro h e he
    rw [distE, Bool.and_eq_true] at h
    rcases List.mem_cons.1 he with rfl | he
    · rw [List.find?_cons_of_pos (p := fun x : Ent => x.of e.s e.k) ((of_iff e e.s e.k).2 ⟨rfl, rfl⟩)]
    · have h1 := h.1
      rw [List.all_eq_true] at h1
      have h2 := h1 e he
      rw [List.find?_cons_of_neg (p := fun x : Ent => x.of e.s e.k) (by
        intro h3
        rw [h3] at h2
        cases h2)]
      exact ih h.2 e he
theorem same_half {X H : List Ent} (hX : vflat X = true) (hH : vflat H = true) (h : ∀ s k, toldV [X] s k = toldV [H] s k) : ∀ e ∈ X, e ∈ H := fun e he => by
  have h1 := h e.s e.k
  rw [told_one _ (vlayer_dist (vflat_vlayer hX)), told_one _ (vlayer_dist (vflat_vlayer hH)), findU_dist X (vlayer_dist (vflat_vlayer hX)) e he] at h1
  simp only [] at h1
  rw [step_set (flat_op hX e he)] at h1
  cases hb : H.find? (fun x => x.of e.s e.k) with
  | none => rw [hb] at h1; cases h1
  | some y =>
    rw [hb] at h1
    have hym := List.mem_of_find?_eq_some hb
    have hyp : y.of e.s e.k = true := by have h9 := List.find?_some hb; exact h9
    obtain ⟨y1, y2⟩ := (of_iff y e.s e.k).1 hyp
    simp only [] at h1
    rw [step_set (flat_op hH y hym)] at h1
    injection h1 with h1
    have hy0 := flat_op hH y hym
    have he0 := flat_op hX e he
    obtain ⟨ys, yk, yo, yv⟩ := y
    obtain ⟨es, ek, eo, ev⟩ := e
    simp only at y1 y2 h1 hy0 he0
    subst y1 y2 h1 hy0 he0
    exact hym
theorem same_told {X H : List Ent} (hX : vflat X = true) (hH : vflat H = true) (h : ∀ s k, toldV [X] s k = toldV [H] s k) : sameL X H = true := by
  unfold sameL
  rw [vflat_vlayer hX, vflat_vlayer hH]
  exact sameE_of (vlayer_keysU (vflat_vlayer hX)) (vlayer_keysU (vflat_vlayer hH)) (fun e => ⟨same_half hX hH h e, same_half hH hX (fun s k => (h s k).symm) e⟩)
end Go.Proofs.YtkjoolmhcfajnaaDoor
namespace Go.Proofs.YtkjoolmhcfajnaaDoor
open Go.RowKit

theorem CellsAre.set_farC {w : World} {b j : Nat} {u : Value} : ∀ {l : List (Addr × Value)}, CellsAre l w → (∀ x ∈ l, x.1.block ≠ b) → CellsAre l (w.setCell ⟨b, j, none⟩ u)
  | [], _, _ => trivial
  | (p, v) :: l, h, hne => by
    refine ⟨(World.cell?_setCell_other w ⟨b, j, none⟩ p u (fun e => ?_)).trans h.1, CellsAre.set_farC h.2 (fun y hy => hne y (List.mem_cons_of_mem _ hy))⟩
    have h1 := hne (p, v) List.mem_cons_self
    have e1 := congrArg Addr.block e
    simp only at e1 h1
    omega
theorem BoxE.st4eC {w : World} {b : Nat} {e : Ent} {T : TypeId} (h : BoxE w b e T) (z : Ent) : BoxE ((((w.setCell ⟨b, 0, none⟩ (.string z.s)).setCell ⟨b, 1, none⟩ (.string z.k)).setCell ⟨b, 2, none⟩ (.int .i64 z.op)).setCell ⟨b, 3, none⟩ (.string z.v)) b z T := by
  unfold BoxE
  unfold BoxE at h
  simp [World.setCell, Array.getElem?_modify, h]


end Go.Proofs.YtkjoolmhcfajnaaDoor
namespace Go.Proofs.YtkjoolmhcfajnaaDoor
open Go.RowKit

theorem len_or (p q : Ent → Bool) : ∀ l : List Ent, (∀ y ∈ l, p y = true → q y = true → False) → (l.filter (fun y => p y || q y)).length = (l.filter p).length + (l.filter q).length := by
  intro l
  induction l with
  | nil => intro _; rfl
  | cons y l ih =>
    intro h
    have ih := ih (fun z hz => h z (List.mem_cons_of_mem _ hz))
    have h0 := h y (List.mem_cons_self ..)
    cases hp : p y <;> cases hq : q y
    · rw [List.filter_cons_of_neg (by simp [hp, hq]), List.filter_cons_of_neg (by simp [hp]), List.filter_cons_of_neg (by simp [hq]), ih]
    · rw [List.filter_cons_of_pos (by simp [hq]), List.filter_cons_of_neg (by simp [hp]), List.filter_cons_of_pos hq, List.length_cons, List.length_cons, ih]; omega
    · rw [List.filter_cons_of_pos (by simp [hp]), List.filter_cons_of_pos hp, List.filter_cons_of_neg (by simp [hq]), List.length_cons, List.length_cons, ih]; omega
    · exact (h0 hp hq).elim
theorem len_one (R : Ent → Bool) (k : List UInt8 × List UInt8) (hR : ∀ y, R y = true → y.key = k) : ∀ l : List Ent, (l.map Ent.key).Nodup → (l.filter R).length = if l.any R = true then 1 else 0 := by
  intro l
  induction l with
  | nil => intro _; rfl
  | cons y l ih =>
    intro h
    rw [List.map_cons, List.nodup_cons] at h
    have ih := ih h.2
    cases hy : R y with
    | false =>
      rw [List.filter_cons_of_neg (by simp [hy]), ih, List.any_cons, hy, Bool.false_or]
    | true =>
      have hn : l.any R = false := by
        rw [List.any_eq_false]
        intro z hz hzR
        exact h.1 (List.mem_map.2 ⟨z, hz, (hR z hzR).trans (hR y hy).symm⟩)
      rw [hn, if_neg (by simp)] at ih
      rw [List.filter_cons_of_pos hy, List.length_cons, ih, List.any_cons, hy, Bool.true_or, if_pos rfl]
theorem len_flip (R : Ent → Ent → Bool) (hR : ∀ x y, R x y = true → x.key = y.key) (L : List Ent) (hL : (L.map Ent.key).Nodup) : ∀ K : List Ent, (K.map Ent.key).Nodup → (K.filter (fun x => L.any (R x))).length = (L.filter (fun y => K.any (fun x => R x y))).length := by
  intro K
  induction K with
  | nil =>
    intro _
    have h0 : L.filter (fun y => ([] : List Ent).any (fun x => R x y)) = [] := by
      rw [List.filter_eq_nil_iff]
      intro a _
      simp
    rw [h0]; rfl
  | cons x K ih =>
    intro h
    rw [List.map_cons, List.nodup_cons] at h
    have ih := ih h.2
    have h1 : (L.filter (fun y => (x :: K).any (fun x => R x y))).length = (L.filter (R x)).length + (L.filter (fun y => K.any (fun x => R x y))).length := by
      simp only [List.any_cons]
      refine len_or _ _ L (fun y _ hp hq => ?_)
      obtain ⟨z, hz, hzy⟩ := List.any_eq_true.1 hq
      exact h.1 (List.mem_map.2 ⟨z, hz, (hR z y hzy).trans (hR x y hp).symm⟩)
    rw [h1, len_one (R x) x.key (fun y hy => (hR x y hy).symm) L hL, ← ih]
    cases hx : L.any (R x)
    · rw [List.filter_cons_of_neg (p := fun x => L.any (R x)) (by simp [hx]), if_neg (by simp)]; omega
    · rw [List.filter_cons_of_pos (p := fun x => L.any (R x)) hx, List.length_cons, if_pos rfl]; omega

theorem ofC_key {y x : Ent} (h : y.of x.s x.k = true) : x.key = y.key := by
  obtain ⟨h1, h2⟩ := (of_iff _ _ _).1 h
  unfold Ent.key
  rw [h1, h2]
theorem ofC_comm (x y : Ent) : y.of x.s x.k = x.of y.s y.k := by
  rw [Bool.eq_iff_iff, of_iff, of_iff]
  exact ⟨fun h => ⟨h.1.symm, h.2.symm⟩, fun h => ⟨h.1.symm, h.2.symm⟩⟩
theorem sameC_comm (x y : Ent) : y.same x = x.same y := by
  rw [Bool.eq_iff_iff, same_iff, same_iff]
  exact ⟨fun h => ⟨h.1.symm, h.2.1.symm, h.2.2.1.symm, h.2.2.2.symm⟩, fun h => ⟨h.1.symm, h.2.1.symm, h.2.2.1.symm, h.2.2.2.symm⟩⟩
theorem sameC_eq {x y : Ent} (h : x.same y = true) : x = y := by
  obtain ⟨h1, h2, h3, h4⟩ := (same_iff _ _).1 h
  cases x; cases y
  simp only at h1 h2 h3 h4
  rw [h1, h2, h3, h4]

/-- the places of two layers -/
theorem foldC (L : List Ent) : ∀ m : List Ent, distE L = true → L.foldl (fun m e => if (m.any fun y => y.of e.s e.k) = true then m else m ++ [e]) m = m ++ L.filter (freshIn m) := by
  induction L with
  | nil => intro m _; simp
  | cons e L ih =>
    intro m h
    rw [distE, Bool.and_eq_true] at h
    rw [List.foldl_cons]
    by_cases he : (m.any fun y => y.of e.s e.k) = true
    · rw [if_pos he, ih m h.2, List.filter_cons_of_neg (by unfold freshIn; rw [he]; simp)]
    · rw [if_neg he, ih (m ++ [e]) h.2, List.filter_cons_of_pos (by unfold freshIn; simpa using he), List.append_assoc]
      congr 1
      rw [List.singleton_append]
      congr 1
      refine List.filter_congr (fun x hx => ?_)
      have h2 := List.all_eq_true.1 h.1 x hx
      unfold freshIn
      rw [List.any_append]
      simp at h2
      simp [h2]
theorem firstsC {K L : List Ent} (hK : distE K = true) (hL : distE L = true) : firstsE (K ++ L) = K ++ L.filter (freshIn K) := by
  have h0 : K.foldl (fun m e => if (m.any fun y => y.of e.s e.k) = true then m else m ++ [e]) [] = K := by
    rw [foldC K [] hK, List.nil_append, List.filter_eq_self]
    intro a _
    rfl
  unfold firstsE
  rw [List.foldl_append, h0, foldC L K hL]

def difR (x y : Ent) : Bool := y.of x.s x.k && !(x.same y)
def isR (x y : Ent) : Bool := y.of x.s x.k

theorem findC {L : List Ent} (hL : distE L = true) {e y : Ent} (hy : y ∈ L) (h : y.of e.s e.k = true) : L.find? (fun x => x.of e.s e.k) = some y := by
  have h1 := findU_dist L hL y hy
  obtain ⟨h2, h3⟩ := (of_iff _ _ _).1 h
  rw [h2, h3] at h1
  exact h1
theorem freshC_none {L : List Ent} {e : Ent} : freshIn L e = true ↔ L.find? (fun x => x.of e.s e.k) = none := by
  unfold freshIn
  rw [List.find?_eq_none]
  simp
theorem catC1 {K L : List Ent} (hK : distE K = true) {e : Ent} (he : e ∈ K) : (catE K L e == 1) = freshIn L e ∧ (catE K L e == 0) = false := by
  have h := findU_dist K hK e he
  cases h2 : L.find? (fun x => x.of e.s e.k) with
  | none => rw [cat_less h h2, freshC_none.2 h2]; exact ⟨rfl, rfl⟩
  | some y =>
    have h3 : freshIn L e = false := by
      cases h4 : freshIn L e with
      | false => rfl
      | true => rw [freshC_none.1 h4] at h2; cases h2
    rw [cat_both h h2, h3]
    split <;> exact ⟨rfl, rfl⟩
theorem catC2 {K L : List Ent} (hK : distE K = true) (hL : distE L = true) {e : Ent} (he : e ∈ K) : (catE K L e == 2) = L.any (difR e) := by
  have h := findU_dist K hK e he
  cases h2 : L.find? (fun x => x.of e.s e.k) with
  | none =>
    rw [cat_less h h2]
    have h3 : L.any (difR e) = false := by
      rw [List.any_eq_false]
      intro y hy hd
      unfold difR at hd
      rw [Bool.and_eq_true] at hd
      rw [findC hL hy hd.1] at h2
      cases h2
    rw [h3]; rfl
  | some y =>
    have hy := List.mem_of_find?_eq_some h2
    have ho : y.of e.s e.k = true := by simpa using List.find?_some h2
    rw [cat_both h h2]
    by_cases hs : e.same y = true
    · rw [if_pos hs]
      have h3 : L.any (difR e) = false := by
        rw [List.any_eq_false]
        intro z hz hd
        unfold difR at hd
        rw [Bool.and_eq_true] at hd
        have h5 := findC hL hz hd.1
        rw [h2] at h5
        injection h5 with h5
        rw [← h5, hs] at hd
        simp at hd
      rw [h3]; rfl
    · rw [if_neg hs]
      have h3 : L.any (difR e) = true := List.any_eq_true.2 ⟨y, hy, by unfold difR; rw [ho]; simpa using hs⟩
      rw [h3]; rfl
theorem catC0 {K L : List Ent} {e : Ent} (he : freshIn K e = true) : catE K L e = 0 := cat_none (freshC_none.1 he)

theorem cntC {K L : List Ent} (hK : distE K = true) (hL : distE L = true) : cntE K L (chgL K L) 0 = (L.filter (freshIn K)).length ∧ cntE K L (chgL K L) 1 = (K.filter (freshIn L)).length ∧ cntE K L (chgL K L) 2 = (K.filter (fun x => L.any (difR x))).length := by
  unfold cntE chgL
  rw [firstsC hK hL]
  simp only [List.filter_append, List.length_append]
  have e0 : K.filter (fun e => catE K L e == 0) = [] := by
    rw [List.filter_eq_nil_iff]
    intro e he
    rw [(catC1 hK he).2]
    simp
  have e1 : K.filter (fun e => catE K L e == 1) = K.filter (freshIn L) := List.filter_congr (fun e he => (catC1 hK he).1)
  have e2 : K.filter (fun e => catE K L e == 2) = K.filter (fun x => L.any (difR x)) := List.filter_congr (fun e he => catC2 hK hL he)
  have f0 : (L.filter (freshIn K)).filter (fun e => catE K L e == 0) = L.filter (freshIn K) := by
    rw [List.filter_eq_self]
    intro e he
    rw [catC0 (List.mem_filter.1 he).2]; rfl
  have f1 : ∀ j, j ≠ 0 → (L.filter (freshIn K)).filter (fun e => catE K L e == j) = [] := by
    intro j hj
    rw [List.filter_eq_nil_iff]
    intro e he
    rw [catC0 (List.mem_filter.1 he).2]
    simp only [beq_iff_eq]
    omega
  rw [e0, e1, e2, f0, f1 1 (by omega), f1 2 (by omega)]
  simp

theorem len_not (p : Ent → Bool) (l : List Ent) : (l.filter p).length + (l.filter (fun x => !p x)).length = l.length := by
  induction l with
  | nil => rfl
  | cons a l ih =>
    cases h : p a
    · rw [List.filter_cons_of_neg (by simp [h]), List.filter_cons_of_pos (by simp [h]), List.length_cons, List.length_cons]; omega
    · rw [List.filter_cons_of_pos h, List.filter_cons_of_neg (by simp [h]), List.length_cons, List.length_cons]; omega
theorem lenC {K L : List Ent} (hK : vlayer K = true) (hL : vlayer L = true) : L.length + (K.filter (freshIn L)).length = K.length + (L.filter (freshIn K)).length := by
  have h := len_flip isR (fun x y h => ofC_key h) L (vlayer_keysU hL) K (vlayer_keysU hK)
  have h1 := len_not (freshIn L) K
  have h2 := len_not (freshIn K) L
  have e1 : K.filter (fun x => !freshIn L x) = K.filter (fun x => L.any (isR x)) := List.filter_congr (fun x _ => by unfold freshIn; rw [Bool.not_not]; rfl)
  have e2 : L.filter (fun x => !freshIn K x) = L.filter (fun y => K.any (fun x => isR x y)) := List.filter_congr (fun y _ => by
    unfold freshIn; rw [Bool.not_not]
    congr 1
    funext x
    exact (ofC_comm x y).symm)
  rw [e1] at h1
  rw [e2] at h2
  omega
theorem difC {K L : List Ent} (hK : vlayer K = true) (hL : vlayer L = true) : (L.filter (fun x => K.any (difR x))).length = (K.filter (fun x => L.any (difR x))).length := by
  have h := len_flip difR (fun x y h => by unfold difR at h; rw [Bool.and_eq_true] at h; exact ofC_key h.1) L (vlayer_keysU hL) K (vlayer_keysU hK)
  rw [h]
  congr 1
  refine List.filter_congr (fun y _ => ?_)
  congr 1
  funext x
  unfold difR
  rw [ofC_comm x y, sameC_comm x y]
theorem sumC {K L : List Ent} (hK : vlayer K = true) (hL : vlayer L = true) : ((L.filter (freshIn K)).length = 0 ∧ (K.filter (freshIn L)).length = 0 ∧ (K.filter (fun x => L.any (difR x))).length = 0) ↔ sameL K L = true := by
  have hl := lenC hK hL
  unfold sameL sameE
  rw [hK, hL]
  simp only [Bool.true_and, Bool.and_eq_true, decide_eq_true_eq, List.all_eq_true]
  constructor
  · rintro ⟨h0, h1, h2⟩
    refine ⟨by omega, fun e he => ?_⟩
    rw [inM_iff hL]
    rw [List.length_eq_zero_iff, List.filter_eq_nil_iff] at h1 h2
    have h3 := h1 e he
    have h4 := h2 e he
    unfold freshIn at h3
    simp only [Bool.not_eq_true, Bool.not_eq_false', List.any_eq_true] at h3
    obtain ⟨y, hy, ho⟩ := h3
    have h5 : e.same y = true := by
      cases h6 : e.same y with
      | true => rfl
      | false => exact (h4 (List.any_eq_true.2 ⟨y, hy, by unfold difR; rw [ho, h6]; rfl⟩)).elim
    rw [sameC_eq h5]
    exact hy
  · rintro ⟨h0, h1⟩
    have e1 : (K.filter (freshIn L)).length = 0 := by
      rw [List.length_eq_zero_iff, List.filter_eq_nil_iff]
      intro e he hf
      have h3 := (inM_iff hL e).1 (h1 e he)
      unfold freshIn at hf
      rw [Bool.not_eq_true', List.any_eq_false] at hf
      exact hf e h3 ((of_iff _ _ _).2 ⟨rfl, rfl⟩)
    refine ⟨by omega, e1, ?_⟩
    rw [List.length_eq_zero_iff, List.filter_eq_nil_iff]
    intro e he hf
    have h3 := (inM_iff hL e).1 (h1 e he)
    obtain ⟨z, hz, hd⟩ := List.any_eq_true.1 hf
    unfold difR at hd
    rw [Bool.and_eq_true] at hd
    have h5 := findC (vlayer_dist hL) hz hd.1
    have h6 := findU_dist L (vlayer_dist hL) e h3
    rw [h5] at h6
    injection h6 with h6
    rw [h6, Ent.same_self] at hd
    simp at hd
/-- what the law asks of the counts -/
theorem chg_law {K L : List Ent} (h : ¬ chgN K L 0 < 0) : chgN L K 0 = chgN K L 1 ∧ chgN L K 1 = chgN K L 0 ∧ chgN L K 2 = chgN K L 2 ∧ (chgN K L 0 + chgN K L 1 + chgN K L 2 == 0) = sameL K L ∧ (L.length : Int) = (K.length : Int) + chgN K L 0 - chgN K L 1 ∧ (∀ j, 0 ≤ chgN K L j ∧ chgN K L j ≤ (K.length : Int) + (L.length : Int)) := by
  have hb : chgB K L = true := by
    cases hb : chgB K L with
    | true => rfl
    | false => exfalso; apply h; unfold chgN; rw [hb]; simp
  have hb' : chgB L K = true := by unfold chgB at hb ⊢; rw [Bool.and_comm]; exact hb
  have hv := hb
  unfold chgB at hv
  rw [Bool.and_eq_true] at hv
  have hK := vflat_vlayer hv.1
  have hL := vflat_vlayer hv.2
  obtain ⟨a0, a1, a2⟩ := cntC (vlayer_dist hK) (vlayer_dist hL)
  obtain ⟨b0, b1, b2⟩ := cntC (vlayer_dist hL) (vlayer_dist hK)
  have hd := difC hK hL
  have hl := lenC hK hL
  have hs := sumC hK hL
  have hC : ∀ j, chgN K L j = (cntE K L (chgL K L) j : Int) := fun j => by unfold chgN; rw [hb, if_pos rfl]
  have hC' : ∀ j, chgN L K j = (cntE L K (chgL L K) j : Int) := fun j => by unfold chgN; rw [hb', if_pos rfl]
  have hle : ∀ j, cntE K L (chgL K L) j ≤ K.length + L.length := fun j => by
    unfold cntE chgL
    rw [firstsC (vlayer_dist hK) (vlayer_dist hL)]
    refine Nat.le_trans (List.length_filter_le _ _) ?_
    rw [List.length_append]
    exact Nat.add_le_add_left (List.length_filter_le _ _) _
  refine ⟨?_, ?_, ?_, ?_, ?_, fun j => ⟨?_, ?_⟩⟩
  · rw [hC, hC', b0, a1]
  · rw [hC, hC', b1, a0]
  · rw [hC, hC', b2, a2, hd]
  · rw [Bool.eq_iff_iff, ← hs, beq_iff_eq, hC, hC, hC, a0, a1, a2]
    omega
  · rw [hC, hC, a0, a1]; omega
  · rw [hC]; omega
  · rw [hC]
    have := hle j
    omega
end Go.Proofs.YtkjoolmhcfajnaaDoor
namespace Go.Proofs.YtkjoolmhcfajnaaDoor
open Go.RowKit

theorem stack_one {w : World} {v : Value} {es : List Ent} {b g : Nat} (h : OwnE w b v es) (hc : w.cell? ⟨g, 0, none⟩ = some v) (hg : g < w.heap.size) : StackAt w (some ⟨g, 0, none⟩) [es] := fun _ => by
  obtain ⟨A, c, rfl, hl, hA⟩ := h.formC
  refine ⟨g, 0, rfl, hg, fun i hi => ?_⟩
  have h0 : i = 0 := by simp at hi; exact hi
  subst h0
  exact ⟨A, c, hc, hl, hA⟩
theorem stack_two {w : World} {v u : Value} {es fs : List Ent} {b d g : Nat} (h : OwnE w b v es) (k : OwnE w d u fs) (hc : w.cell? ⟨g, 0, none⟩ = some v) (hd : w.cell? ⟨g, 1, none⟩ = some u) (hg : g < w.heap.size) : StackAt w (some ⟨g, 0, none⟩) [es, fs] := fun _ => by
  obtain ⟨A, c, rfl, hl, hA⟩ := h.formC
  obtain ⟨B, e, rfl, hm, hB⟩ := k.formC
  refine ⟨g, 0, rfl, hg, fun i hi => ?_⟩
  have hi2 : i < 2 := hi
  match i, hi2 with
  | 0, _ => exact ⟨A, c, hc, hl, hA⟩
  | 1, _ => exact ⟨B, e, hd, hm, hB⟩
set_option maxRecDepth 100000 in
/-- all entries of a row put behind a row of the call's own -/
theorem appOwnE {w : World} {ops : Array Oper} {rest : List Oper} {o : Oper} {a : Act} {Q : Exit → Act → World → Prop} (hgd : o.guard = none) (s x : Operand)
    (ho : o.op = .call { callee := .builtin .append, args := #[s, x], argTypes := #[23, 23] })
    (base : Nat) (v : Value) (K : List Ent) (hs : a.eval s = v) (hown : OwnE w base v K) (u : Value) (b2 : Nat) (ns : List Ent) (hx : a.eval x = u) (hu : OwnE w b2 u ns)
    (hK : K.length ≤ 4194304) (hm2 : ns.length ≤ 1048576) (hbase : base ≤ w.heap.size)
    (h : ∀ v' w', Hid (OwnE w' base v' (K ++ ns)) → Hid (w.grownBy w' v.ownBlock) → wpList Tryd.prog ops Q rest (a.put o.dst v') w') : wpList Tryd.prog ops Q (o :: rest) a w := by
  obtain ⟨B, c, rfl, hc, hE⟩ := hu.formC
  rcases B with _ | ad
  · have hn : ns = [] := by
      rcases Nat.eq_zero_or_pos ns.length with h0 | h0
      · exact List.eq_nil_of_length_eq_zero h0
      · obtain ⟨b, oo, e, _⟩ := hE h0
        cases e
    subst hn
    obtain ⟨i0, hi, hz0, hz1, hz2⟩ := info_parts infoEntry
    obtain ⟨A, c0, hv, hc0, _⟩ := hown.formC
    refine wpList_plain hgd fun KK hKK => ?_
    have hr := run_append_nothing (P := Tryd.prog) w 23 23 o.type 33 i0 Tryd.underlying23 hi A K.length c0 hc0 (.slice none 0 c) (Src.ofNil w Tryd.underlying23 c)
    unfold Oper.wp execOp
    simp only [ho, resolve, invoke, builtin, Sem.run_bind, Sem.run_pure, Result.andThen_ok, List.map_toArray, List.map_cons, List.map_nil, hs, hx, List.length_nil, hv, hr]
    refine hKK _ _ (h _ w ?_ ?_)
    · unfold Hid
      rw [List.append_nil, ← hv]
      exact hown
    · exact World.grownBy.refl _ _
  · exact appAllE hgd s x ho base v K hs hown ad ns.length c ns hx rfl hE hK hm2 hbase h
theorem fit_one {es : List Ent} (h : EFit es) : ∀ l ∈ [es], EFit l := fun l hl => by
  rw [List.mem_singleton] at hl
  rw [hl]; exact h
theorem fit_two {es fs : List Ent} (h : EFit es) (g : EFit fs) : ∀ l ∈ [es, fs], EFit l := fun l hl => by
  rcases List.mem_cons.1 hl with h1 | h1
  · rw [h1]; exact h
  · rw [List.mem_singleton] at h1
    rw [h1]; exact g
/-- merged layers tell what both tell -/
theorem tell_merge {xs bs : List Ent} (h : mergeB xs bs = true) (s k : ByteArray) : tellS [mergeL xs bs] s k = tellS [xs, bs] s k ∧ tellB [mergeL xs bs] s k = tellB [xs, bs] s k := by
  obtain ⟨h1, h2, h3, h4⟩ := mergeB_iff h
  rw [h4]
  obtain ⟨a1, a2⟩ := tell_yes (sl := [mergeR xs bs]) (by rw [vstack_one]; exact h3) s k
  obtain ⟨b1, b2⟩ := tell_yes (sl := [xs, bs]) (by rw [vstack_two, h1, h2]; rfl) s k
  rw [a1, a2, b1, b2, told_merge h1 h2 h3]
  exact ⟨rfl, rfl⟩
theorem implVL_own (v : Value) (b : Nat) (es : List Ent) (w : World) (hf : EFit es) (h : OwnE w b v es) :
    Calls Tryd.prog 23 #[.agg #[v]] w fun e w' => e = .returned (.bool (vlayer es)) ∧ Grows w w' := by
  obtain ⟨A, c, rfl, _, hA⟩ := h.formC
  exact implLayer_any A c es w hf hA
end Go.Proofs.YtkjoolmhcfajnaaDoor
namespace Go.Proofs.YtkjoolmhcfajnaaDoor
open Go.RowKit

theorem firstsE_dist (es : List Ent) : distE es = true → firstsE es = es := by
  refine snocInd (P := fun es => distE es = true → firstsE es = es) (fun _ => rfl) ?_ es
  intro l a ih h
  rw [distE_snoc, Bool.and_eq_true] at h
  have h2 := h.2
  rw [any_fresh] at h2
  rw [firstsE_snoc, ih h.1, if_neg (by
    intro h3
    rw [h3] at h2
    cases h2)]
theorem find_dist : ∀ (es : List Ent), distE es = true → ∀ e ∈ es, es.find? (fun x => x.of e.s e.k) = some e := by
  intro es
  induction es with
  | nil => intro _ e he; cases he
  | cons a t ih =>
    intro h e he
    rw [distE, Bool.and_eq_true] at h
    rcases List.mem_cons.1 he with rfl | he
    · rw [List.find?_cons_of_pos (p := fun x : Ent => x.of e.s e.k) ((of_iff e e.s e.k).2 ⟨rfl, rfl⟩)]
    · have h1 := h.1
      rw [List.all_eq_true] at h1
      have h2 := h1 e he
      rw [List.find?_cons_of_neg (p := fun x : Ent => x.of e.s e.k) (by
        intro h3
        rw [h3] at h2
        cases h2)]
      exact ih h.2 e he
theorem filterMap_self {f : Ent → Option Ent} : ∀ {es : List Ent}, (∀ e ∈ es, f e = some e) → es.filterMap f = es := by
  intro es
  induction es with
  | nil => intro _; rfl
  | cons a t ih =>
    intro h
    rw [List.filterMap_cons_some (h a (by simp)), ih (fun e he => h e (by simp [he]))]
theorem flatR_flat {es : List Ent} (h : vflat es = true) : flatR [es] = es ∧ vlayer es = true := by
  unfold vflat at h
  rw [Bool.and_eq_true] at h
  have hv : vlayer es = true := by first | exact h.2 | exact h.1
  have hf : flatE es = true := by first | exact h.1 | exact h.2
  have hd := vlayer_dist hv
  refine ⟨?_, hv⟩
  unfold flatR
  rw [allE_one, firstsE_dist es hd]
  have h1 : ∀ e ∈ es, flatOne (toldV [es]) e = some e := fun e he => by
    unfold flatOne
    rw [told_one es hd, find_dist es hd e he]
    unfold flatE at hf
    rw [List.all_eq_true] at hf
    have h2 := hf e he
    rw [decide_eq_true_eq] at h2
    obtain ⟨es1, ek, eo, ev⟩ := e
    simp only at h2
    subst h2
    rfl
  clear h hf hv hd
  exact filterMap_self h1
theorem flatR_ops (sl : List (List Ent)) : flatE (flatR sl) = true := by
  unfold flatE flatR
  rw [List.all_eq_true]
  intro e he
  obtain ⟨x, _, hx⟩ := List.mem_filterMap.1 he
  unfold flatOne at hx
  obtain ⟨v, _, rfl⟩ := Option.map_eq_some_iff.1 hx
  rfl
theorem flatB_yes {sl : List (List Ent)} (h : flatB sl = true) : vstack sl = true ∧ vlayer (flatR sl) = true ∧ flatL sl = flatR sl := by
  unfold flatB at h
  rw [Bool.and_eq_true] at h
  refine ⟨h.1, h.2, ?_⟩
  rw [(flatL_yes h.1).1]
  unfold chkE
  rw [if_pos h.2]
theorem flat_flat {sl : List (List Ent)} (h : flatB sl = true) : vflat (flatL sl) = true := by
  obtain ⟨_, h2, h3⟩ := flatB_yes h
  rw [h3]
  unfold vflat
  rw [flatR_ops, h2]
  rfl
theorem flat_own {es : List Ent} (h : vflat es = true) : flatB [es] = true ∧ flatL [es] = es := by
  obtain ⟨h1, h2⟩ := flatR_flat h
  have h3 : flatB [es] = true := by
    unfold flatB
    rw [h1, vstack_one, h2]
    rfl
  exact ⟨h3, by rw [(flatB_yes h3).2.2, h1]⟩
theorem flatL_fit (sl : List (List Ent)) : EFit (flatL sl) := by
  unfold flatL
  split
  · rename_i h
    unfold chkE
    split
    · exact flatR_fit h
    · exact ⟨Nat.zero_le _, fun _ h => absurd h (Nat.not_lt_zero _)⟩
  · exact ⟨Nat.zero_le _, fun _ h => absurd h (Nat.not_lt_zero _)⟩
theorem implFlat_own (v : Value) (b : Nat) (es : List Ent) (w : World) (hf : EFit es) (h : OwnE w b v es) :
    Calls Tryd.prog 14 #[.agg #[v]] w fun e w' => e = .returned (.bool (vflat es)) ∧ Grows w w' := by
  obtain ⟨A, c, rfl, _, hA⟩ := h.formC
  exact implFlat_any A c es w hf hA
theorem implFlatten1_own (v : Value) (b g : Nat) (es : List Ent) (w : World) (hf : EFit es) (h : OwnE w b v es) (hc : w.cell? ⟨g, 0, none⟩ = some v) (hg : g < w.heap.size) :
    Calls Tryd.prog 9 #[.slice (some ⟨g, 0, none⟩) 1 1] w (ResEB (flatL [es]) (flatB [es]) w) :=
  implFlatten_any (some ⟨g, 0, none⟩) 1 [es] w (by simp) (fit_one hf) (stack_one h hc hg)
theorem implFlatten2_own (v u : Value) (b d g : Nat) (es fs : List Ent) (w : World) (hf : EFit es) (hf2 : EFit fs) (h : OwnE w b v es) (k : OwnE w d u fs) (hc : w.cell? ⟨g, 0, none⟩ = some v) (hd : w.cell? ⟨g, 1, none⟩ = some u) (hg : g < w.heap.size) :
    Calls Tryd.prog 9 #[.slice (some ⟨g, 0, none⟩) 2 2] w (ResEB (flatL [es, fs]) (flatB [es, fs]) w) :=
  implFlatten_any (some ⟨g, 0, none⟩) 2 [es, fs] w (by simp) (fit_two hf hf2) (stack_two h k hc hd hg)
end Go.Proofs.YtkjoolmhcfajnaaDoor
namespace Go.Proofs.YtkjoolmhcfajnaaDoor
open Go.RowKit

theorem inP_iff {bs : List Ent} (hb : vlayer bs = true) (e : Ent) : inE bs e = true ↔ e ∈ bs := by
  constructor
  · intro h
    unfold inE at h
    split at h
    · rename_i x hx
      rw [Bool.and_eq_true] at h
      have h2 := h.2
      unfold Ent.same at h2
      simp only [Bool.and_eq_true, beq_iff_eq] at h2
      obtain ⟨h1, h3, h4, h5⟩ := h2
      have hxe : x = e := by
        obtain ⟨a1, a2, a3, a4⟩ := x
        obtain ⟨b1, b2, b3, b4⟩ := e
        simp only at h1 h3 h4 h5
        rw [toList_inj h1, toList_inj h3, h4, toList_inj h5]
      rw [← hxe]
      exact List.mem_of_getElem? hx
    · cases h
  · exact fun h => inE_mem (vlayer_keysU hb) h
theorem lastQ {H : List Ent} (hH : vflat H = true) {e : Ent} (he : e ∈ H) : lastE H e.s e.k = some e := by
  have d := vlayer_dist (vflat_vlayer hH)
  rw [find_last H d]
  exact findU_dist H d e he
theorem newP_self {H : List Ent} (hH : vflat H = true) {e : Ent} (he : e ∈ H) : newIn H e = false := by
  unfold newIn
  rw [lastQ hH he]
  simp
theorem freshP_self {H : List Ent} {e : Ent} (he : e ∈ H) : freshIn H e = false := by
  unfold freshIn
  have h : (H.any fun y => y.of e.s e.k) = true := List.any_eq_true.2 ⟨e, he, (of_iff e e.s e.k).2 ⟨rfl, rfl⟩⟩
  rw [h]
  rfl
theorem patchR_nil {H W : List Ent} (h1 : ∀ e ∈ H, freshIn W e = false) (h2 : ∀ e ∈ W, newIn H e = false) : patchR H W = [] := by
  unfold patchR
  rw [List.filter_eq_nil_iff.2 (fun e he => by rw [h1 e he]; simp), List.filter_eq_nil_iff.2 (fun e he => by rw [h2 e he]; simp)]
  rfl
theorem patch_self {H : List Ent} (hH : vflat H = true) : patchB H H = true ∧ patchL H H = [] := by
  have h : patchR H H = [] := patchR_nil (fun e he => freshP_self he) (fun e he => newP_self hH he)
  obtain ⟨a, b⟩ := patchL_yes hH hH
  rw [a, b, h]
  exact ⟨by decide +kernel, by decide +kernel⟩
theorem place_eq {W : List Ent} (hW : vflat W = true) {a b : Ent} (ha : a ∈ W) (hb : b ∈ W) (h1 : a.s = b.s) (h2 : a.k = b.k) : a = b := by
  have x := lastQ hW ha
  have y := lastQ hW hb
  rw [h1, h2, y] at x
  injection x with x
  exact x.symm
theorem patch_empty {H W : List Ent} (hH : vflat H = true) (hW : vflat W = true) : patchR H W = [] ↔ sameL H W = true := by
  constructor
  · intro h
    unfold patchR at h
    obtain ⟨a1, a2⟩ := List.append_eq_nil_iff.1 h
    rw [List.map_eq_nil_iff, List.filter_eq_nil_iff] at a1
    rw [List.filter_eq_nil_iff] at a2
    have hWH : ∀ e ∈ W, e ∈ H := fun e he => by
      have h3 := a2 e he
      unfold newIn at h3
      cases hl : lastE H e.s e.k with
      | none => rw [hl] at h3; exact absurd rfl h3
      | some t =>
        rw [hl] at h3
        obtain ⟨m1, m2, m3⟩ := lastE_mem hl
        have hv : t.v = e.v := toList_inj (by simpa using h3)
        have o1 := vflat_op hH t m1
        have o2 := vflat_op hW e he
        obtain ⟨t1, t2, t3, t4⟩ := t
        obtain ⟨es, ek, eo, ev⟩ := e
        simp only at m2 m3 hv o1 o2
        subst m2 m3 hv o1 o2
        exact m1
    have hHW : ∀ e ∈ H, e ∈ W := fun e he => by
      have h3 := a1 e he
      unfold freshIn at h3
      have h4 : (W.any fun y => y.of e.s e.k) = true := by simpa using h3
      obtain ⟨y, hy, h5⟩ := List.any_eq_true.1 h4
      obtain ⟨e1, e2⟩ := (of_iff y e.s e.k).1 h5
      rw [← place_eq hH (hWH y hy) he e1 e2]
      exact hy
    unfold sameL
    rw [vflat_vlayer hH, vflat_vlayer hW]
    exact sameE_of (vlayer_keysU (vflat_vlayer hH)) (vlayer_keysU (vflat_vlayer hW)) (fun e => ⟨hHW e, hWH e⟩)
  · intro h
    unfold sameL sameE at h
    rw [Bool.and_eq_true, Bool.and_eq_true, Bool.and_eq_true, decide_eq_true_iff, List.all_eq_true] at h
    obtain ⟨_, _, hl, hin⟩ := h
    have hHW : ∀ e ∈ H, e ∈ W := fun e he => (inP_iff (vflat_vlayer hW) e).1 (hin e he)
    have hWH : ∀ e ∈ W, e ∈ H := fun e he => by
      by_cases hm : e.key ∈ H.map Ent.key
      · obtain ⟨x, hx, hk⟩ := List.mem_map.1 hm
        obtain ⟨e1, e2⟩ := key_inj hk
        rw [← place_eq hW (hHW x hx) he e1 e2]
        exact hx
      · have hn : (e.key :: H.map Ent.key).Nodup := List.nodup_cons.2 ⟨hm, vlayer_keysU (vflat_vlayer hH)⟩
        have h9 := len_le _ (W.map Ent.key) hn (fun k hk => by
          rcases List.mem_cons.1 hk with h1 | h1
          · rw [h1]; exact List.mem_map.2 ⟨e, he, rfl⟩
          · obtain ⟨x, hx, hk2⟩ := List.mem_map.1 h1
            exact List.mem_map.2 ⟨x, hHW x hx, hk2⟩)
        simp only [List.length_cons, List.length_map] at h9
        omega
    refine patchR_nil (fun e he => freshP_self (hHW e he)) (fun e he => newP_self hH (hWH e he))
theorem patch_facts {H W : List Ent} (h : patchB H W = true) : patchB H H = true ∧ patchL H H = [] ∧ ((decide ((patchL H W).length = 0)) == sameL H W) = true ∧ vlayer (patchR H W) = true ∧ patchL H W = patchR H W ∧ vflat H = true ∧ vflat W = true := by
  unfold patchB at h
  rw [Bool.and_eq_true, Bool.and_eq_true] at h
  obtain ⟨h1, h2, h3⟩ := h
  obtain ⟨a, b⟩ := patch_self h1
  have hu : patchL H W = patchR H W := by
    rw [(patchL_yes h1 h2).1]
    unfold chkE
    rw [if_pos h3]
  refine ⟨a, b, ?_, h3, hu, h1, h2⟩
  rw [hu, beq_iff_eq, Bool.eq_iff_iff, decide_eq_true_iff, List.length_eq_zero_iff]
  exact patch_empty h1 h2
end Go.Proofs.YtkjoolmhcfajnaaDoor
namespace Go.Proofs.YtkjoolmhcfajnaaDoor
open Go.RowKit

theorem told_flat {W : List Ent} (hW : vflat W = true) (s k : ByteArray) : toldV [W] s k = (W.find? (fun x => x.of s k)).map (fun x => x.v) := by
  rw [told_one _ (vlayer_dist (vflat_vlayer hW))]
  cases hx : W.find? (fun x => x.of s k) with
  | none => rfl
  | some t =>
    simp only []
    rw [step_set (flat_op hW t (List.mem_of_find?_eq_some hx))]
    rfl
theorem same_find {M W : List Ent} (hM : vlayer M = true) (hW : vlayer W = true) (h : sameL M W = true) (s k : ByteArray) : M.find? (fun x => x.of s k) = W.find? (fun x => x.of s k) := by
  have hs := (sumC hM hW).2 h
  have hsub : ∀ e ∈ M, e ∈ W := by
    unfold sameL sameE at h
    simp only [Bool.and_eq_true, decide_eq_true_eq, List.all_eq_true] at h
    exact fun e he => (inM_iff hW e).1 (h.2.2.2 e he)
  cases hx : W.find? (fun x => x.of s k) with
  | some y =>
    have hy := List.mem_of_find?_eq_some hx
    have ho : y.of s k = true := by have h9 := List.find?_some hx; exact h9
    have hf := hs.1
    rw [List.length_eq_zero_iff, List.filter_eq_nil_iff] at hf
    have hf2 := hf y hy
    unfold freshIn at hf2
    simp only [Bool.not_eq_true, Bool.not_eq_false', List.any_eq_true] at hf2
    obtain ⟨m, hm, hmo⟩ := hf2
    have h1 := findC (vlayer_dist hW) (hsub m hm) hmo
    rw [findU_dist W (vlayer_dist hW) y hy] at h1
    injection h1 with h1
    subst h1
    have h2 := findU_dist M (vlayer_dist hM) y hm
    obtain ⟨h3, h4⟩ := (of_iff _ _ _).1 ho
    rw [h3, h4] at h2
    exact h2
  | none =>
    rw [List.find?_eq_none]
    intro m hm hmo
    rw [List.find?_eq_none] at hx
    exact hx m (hsub m hm) hmo

theorem findN_flat (V : PV) (s k : ByteArray) : ∀ F : List Ent, (F.filterMap (flatOne V)).find? (fun x => x.of s k) = if (F.any fun x => x.of s k) = true then (V s k).map (fun v => (⟨s, k, 0, v⟩ : Ent)) else none := by
  intro F
  induction F with
  | nil => rfl
  | cons e t ih =>
    have hfl : flatOne V e = (V e.s e.k).map fun v => (⟨e.s, e.k, 0, v⟩ : Ent) := rfl
    by_cases he : e.of s k = true
    · obtain ⟨h1, h2⟩ := (of_iff e s k).1 he
      rw [if_pos (by rw [List.any_cons, he]; rfl)]
      cases hV : V s k with
      | none =>
        have h3 : flatOne V e = none := by rw [hfl, h1, h2, hV]; rfl
        rw [List.filterMap_cons_none h3, ih, hV]
        split <;> rfl
      | some v =>
        have h3 : flatOne V e = some ⟨s, k, 0, v⟩ := by rw [hfl, h1, h2, hV]; rfl
        rw [List.filterMap_cons_some h3, List.find?_cons_of_pos (p := fun x : Ent => x.of s k) ((of_iff _ s k).2 ⟨rfl, rfl⟩)]
        rfl
    · have he' : e.of s k = false := by simpa using he
      have ha : ((e :: t).any fun x => x.of s k) = t.any fun x => x.of s k := by rw [List.any_cons, he', Bool.false_or]
      rw [ha]
      cases hV : V e.s e.k with
      | none =>
        have h3 : flatOne V e = none := by rw [hfl, hV]; rfl
        rw [List.filterMap_cons_none h3, ih]
      | some v =>
        have h3 : flatOne V e = some ⟨e.s, e.k, 0, v⟩ := by rw [hfl, hV]; rfl
        rw [List.filterMap_cons_some h3, List.find?_cons_of_neg (p := fun x : Ent => x.of s k) (by
          intro h4
          have h5 : e.of s k = true := h4
          rw [h5] at he'
          cases he'), ih]
theorem foldN_none (s k : ByteArray) : ∀ (es : List Ent) (V : PV), (es.any fun x => x.of s k) = false → foldV es V s k = V s k := by
  intro es
  induction es with
  | nil => intro V _; rfl
  | cons e t ih =>
    intro V h
    rw [List.any_cons, Bool.or_eq_false_iff] at h
    have h1 : foldV (e :: t) V = foldV t (layV V e) := rfl
    rw [h1, ih _ h.2]
    unfold layV
    rw [if_neg (by rw [h.1]; simp)]
theorem toldN_flat {sl : List (List Ent)} (h : distE (flatR sl) = true) (s k : ByteArray) : toldV [flatR sl] s k = toldV sl s k := by
  rw [told_one _ h]
  have h1 : (flatR sl).find? (fun x => x.of s k) = if ((allE sl).any fun x => x.of s k) = true then (toldV sl s k).map (fun v => (⟨s, k, 0, v⟩ : Ent)) else none := by
    unfold flatR
    rw [findN_flat, firstsE_any]
  rw [h1]
  by_cases ha : ((allE sl).any fun x => x.of s k) = true
  · rw [if_pos ha]
    cases toldV sl s k <;> rfl
  · have ha' : ((allE sl).any fun x => x.of s k) = false := by simpa using ha
    rw [if_neg ha]
    have h2 : toldV sl s k = none := by
      unfold toldV
      rw [foldN_none s k _ _ ha']
      rfl
    rw [h2]
theorem few_law {H W : List Ent} (h : patchB H W = true) {e : Ent} (he : e ∈ patchL H W) : cutB (patchL H W) e.s e.k = true ∧ (flatB [cutL (patchL H W) e.s e.k, H] = true → sameL (flatL [cutL (patchL H W) e.s e.k, H]) W = false) := by
  obtain ⟨_, _, _, d, hP, hH, hW⟩ := patch_facts h
  rw [hP] at he ⊢
  have hc : cutB (patchR H W) e.s e.k = true := by
    unfold cutB
    rw [d, Bool.true_and, List.any_eq_true]
    exact ⟨e, he, (of_iff _ _ _).2 ⟨rfl, rfl⟩⟩
  refine ⟨hc, fun q => ?_⟩
  cases hsm : sameL (flatL [cutL (patchR H W) e.s e.k, H]) W with
  | false => rfl
  | true =>
    exfalso
    obtain ⟨q1, q2, q3⟩ := flatB_yes q
    have hM := flat_flat q
    have t1 := told_flat hM e.s e.k
    rw [same_find (vflat_vlayer hM) (vflat_vlayer hW) hsm, ← told_flat hW, q3, toldN_flat (vlayer_dist q2)] at t1
    have hL : cutL (patchR H W) e.s e.k = (patchR H W).filter (notAt e.s e.k) := by unfold cutL; rw [if_pos hc]
    have hn : ((patchR H W).filter (notAt e.s e.k)).find? (fun x => x.of e.s e.k) = none := by
      rw [List.find?_eq_none]
      intro x hx hxo
      have h2 := (List.mem_filter.1 hx).2
      unfold notAt at h2
      rw [hxo] at h2
      cases h2
    rw [hL, told_two _ _ (distE_filter _ _ (vlayer_dist d)), hn] at t1
    simp only [] at t1
    rw [told_flat hH, told_flat hW] at t1
    unfold patchR at he
    rcases List.mem_append.1 he with he | he
    · obtain ⟨x, hx, hxe⟩ := List.mem_map.1 he
      obtain ⟨hxH, hxf⟩ := List.mem_filter.1 hx
      have e1 : e.s = x.s := by rw [← hxe]; rfl
      have e2 : e.k = x.k := by rw [← hxe]; rfl
      rw [e1, e2, findU_dist H (vlayer_dist (vflat_vlayer hH)) x hxH, freshC_none.1 hxf] at t1
      cases t1
    · obtain ⟨heW, hen⟩ := List.mem_filter.1 he
      rw [findU_dist W (vlayer_dist (vflat_vlayer hW)) e heW] at t1
      unfold newIn at hen
      rw [find_last H (vlayer_dist (vflat_vlayer hH))] at hen
      cases hx : H.find? (fun x => x.of e.s e.k) with
      | none => rw [hx] at t1; cases t1
      | some t =>
        rw [hx] at t1 hen
        simp only [Option.map_some, Option.some.injEq] at t1
        simp only [] at hen
        rw [t1] at hen
        simp at hen
theorem few_len {H W : List Ent} (h : patchB H W = true) : chgN H W 0 + chgN H W 1 + chgN H W 2 = ((patchL H W).length : Int) ∧ ¬ chgN H W 0 < 0 := by
  obtain ⟨_, _, _, d, hP, hH, hW⟩ := patch_facts h
  have vH := vflat_vlayer hH
  have vW := vflat_vlayer hW
  have hb : chgB H W = true := by unfold chgB; rw [hH, hW]; rfl
  have hC : ∀ j, chgN H W j = (cntE H W (chgL H W) j : Int) := fun j => by unfold chgN; rw [hb, if_pos rfl]
  obtain ⟨a0, a1, a2⟩ := cntC (vlayer_dist vH) (vlayer_dist vW)
  have e1 : W.filter (newIn H) = W.filter (fun y => freshIn H y || H.any (difR y)) := List.filter_congr (fun y hy => by
    rw [← catC2 (vlayer_dist vW) (vlayer_dist vH) hy]
    have hy2 := findU_dist W (vlayer_dist vW) y hy
    unfold newIn
    rw [find_last H (vlayer_dist vH)]
    cases hx : H.find? (fun x => x.of y.s y.k) with
    | none => rw [freshC_none.2 hx]; rfl
    | some t =>
      have hf : freshIn H y = false := by
        cases hf : freshIn H y with
        | false => rfl
        | true => rw [freshC_none.1 hf] at hx; cases hx
      have htm := List.mem_of_find?_eq_some hx
      have hto : t.of y.s y.k = true := by have h9 := List.find?_some hx; exact h9
      obtain ⟨t1, t2⟩ := (of_iff _ _ _).1 hto
      rw [cat_both hy2 hx, hf, Bool.false_or]
      simp only []
      by_cases hs : y.same t = true
      · rw [if_pos hs, sameC_eq hs]
        simp
      · rw [if_neg hs]
        have hv : ¬ t.v = y.v := fun hv => hs ((same_iff _ _).2 ⟨t1.symm, t2.symm, (flat_op hW y hy).trans (flat_op hH t htm).symm, hv.symm⟩)
        have hv2 : ¬ t.v.toList = y.v.toList := fun h => hv (toList_inj h)
        simp [hv2])
  have e2 := len_or (freshIn H) (fun y => H.any (difR y)) W (fun y hy hf hd => by
    obtain ⟨z, hz, hdz⟩ := List.any_eq_true.1 hd
    unfold difR at hdz
    rw [Bool.and_eq_true] at hdz
    have h1 := freshC_none.1 hf
    rw [List.find?_eq_none] at h1
    exact h1 z hz hdz.1)
  have e3 := difC vH vW
  have e4 : (patchR H W).length = (H.filter (freshIn W)).length + (W.filter (newIn H)).length := by unfold patchR; rw [List.length_append, List.length_map]
  rw [hP, hC, hC, hC, a0, a1, a2]
  constructor
  · rw [e4, e1, e2, e3]; omega
  · omega
end Go.Proofs.YtkjoolmhcfajnaaDoor
namespace Go.Proofs.YtkjoolmhcfajnaaDoor
open Go.RowKit

set_option maxRecDepth 100000 in
set_option maxHeartbeats 40000000 in
theorem implPatchR_any (A : Option Addr) (c : Nat) (xs : List Ent) (B : Option Addr) (d : Nat) (bs : List Ent) (w : World) (hf : EFit xs) (hA : EntsAt w A xs) (hg : EFit bs) (hB : EntsAt w B bs) (hv : vlayer xs = true) (hu : vlayer bs = true) (hfx : vflat xs = true) (hfb : vflat bs = true) :
    Calls Tryd.prog 16 #[.agg #[.slice A xs.length c], .agg #[.slice B bs.length d]] w (RetE (patchR xs bs) w) := by
  have HBX := Lib.hid (fun w1 (g : Grows w w1) => byPlace_any A c xs w1 hf (hA.keep g))
  have HBY := Lib.hid (fun w1 (g : Grows w w1) => byPlace_any B d bs w1 hg (hB.keep g))
  have HNW := Lib.hid (fun x (hx : x ∈ bs) => new_same (xs := xs) hfx (vflat_op hfb x hx) (vlayer_vent hu x hx))
  have HA := Lib.hid hA
  have HBB := Lib.hid hB
  have HVX := Lib.hid (fun x hx => ent_fits' (vlayer_vent hv x hx))
  have HVB := Lib.hid (fun x hx => ent_fits' (vlayer_vent hu x hx))
  have hm := vlayer_20 hv
  have hn := vlayer_20 hu
  unfold ResM at HBX HBY
  clear hA hB hf hg hv hu hfx hfb
  obtain ⟨m, hmm⟩ : ∃ m, xs.length = m := ⟨_, rfl⟩
  obtain ⟨n, hnn⟩ : ∃ n, bs.length = n := ⟨_, rfl⟩
  rw [hmm] at hm HBX ⊢
  rw [hnn] at hn HBY ⊢
  have HM := Lib.hid hmm
  have HN := Lib.hid hnn
  clear hmm hnn
  have HP := Lib.hid (fun x w => placeOf_any x w)
  unfold Ent.agg at HP
  go_enter Tryd.func16, Tryd.ntmps16
  go_upto_region 1 with (fail)
  have XA2 : Hid (Box ((w.alloc (.cells #[.slice A m c] 25)).alloc (.cells #[.slice B n d] 25)) w.heap.size (.slice A m c) 25) := row_grow (heap_alloc_new w _) ((Grows.refl _).alloc _)
  have XB2 : Hid (Box ((w.alloc (.cells #[.slice A m c] 25)).alloc (.cells #[.slice B n d] 25)) (w.heap.size + 1) (.slice B n d) 25) := alloc_new2 w _ _
  have G2 : Hid (Grows w ((w.alloc (.cells #[.slice A m c] 25)).alloc (.cells #[.slice B n d] 25))) := ((Grows.refl w).alloc _).alloc _
  obtain ⟨w2, hw2⟩ : ∃ w2, (w.alloc (.cells #[.slice A m c] 25)).alloc (.cells #[.slice B n d] 25) = w2 := ⟨_, rfl⟩
  rw [hw2] at XA2 XB2 G2 ⊢
  clear hw2
  have cA := XA2.out.cell
  have cB := XB2.out.cell
  go_wp2_with fail
  refine wp_region_M 4 (CellsAre [(⟨w.heap.size, 0, none⟩, .slice A m c), (⟨w.heap.size + 1, 0, none⟩, .slice B n d)]) (by kernel_rfl) (by kernel_rfl) ⟨cA, cB, trivial⟩ (fun hB hS => ?_)
  refine wpAnyM_take (i := 0) (v := ?vq0) hB rfl (by kernel_rfl) (fun _ _ _ h => h) (by rfl) ?yq0 hS ?nq0
  case yq0 => (intro w9 hSw; obtain ⟨s1, s2, _⟩ := hSw; go_simp; try with_reducible rfl)
  refine wpAnyM_take (i := 2) (v := ?vq2) hB rfl (by kernel_rfl) (fun _ _ _ h => h) (by rfl) ?yq2 hS ?nq2
  case yq2 => (intro w9 hSw; obtain ⟨s1, s2, _⟩ := hSw; go_simp; try with_reducible rfl)
  have HS := Lib.hid hS
  clear hS cA cB
  refine wpAnyM_one (i := 1) rfl (by kernel_rfl) rfl ?_
  go_wp2_with fail
  refine (HBX.out _ G2.out.drew).mono ?_
  rintro r w3 ⟨m1, rfl, hM, hm1, g3⟩
  have HS3 := Lib.hid (CellsAre.keep HS.out g3)
  have G23 : Hid (Grows w2 w3) := (Grows.refl _).drew.trans g3
  have HM1 := Lib.hid hM
  clear g3 HS hM hm1
  go_wp2_with fail
  refine ⟨HS3.out, ?_⟩
  refine wpAnyM_one (i := 3) rfl (by kernel_rfl) rfl ?_
  go_wp2_with fail
  refine (HBY.out _ (G2.out.trans G23.out)).mono ?_
  rintro r w4 ⟨m2, rfl, hM, hm2, g4⟩
  have HS4 := Lib.hid (CellsAre.keep HS3.out g4)
  have G24 : Hid (Grows w2 w4) := G23.out.trans g4
  have HMX : Hid (MapE w4 m1 xs) := HM1.out.keep g4
  have HMB : Hid (MapE w4 m2 bs) := hM
  clear g4 HS3 hM hm2 HM1
  go_wp2_with fail
  refine ⟨HS4.out, ?_⟩
  refine wpAnyM_tail (by kernel_rfl) ?_
  clear hB HS4 HBX HBY
  have XA4 := Lib.hid (XA2.out.keep G24.out)
  have XB4 := Lib.hid (XB2.out.keep G24.out)
  have G4 : Hid (Grows w w4) := G2.out.trans G24.out
  have S4 : w.heap.size + 1 < w4.heap.size := XB4.out.lt
  clear XA2 XB2 G23
  have cA := XA4.out.cell
  go_wp2_with fail
  go_loopw [7, 21] (fun v i wr => ∃ (k : Nat) (K : List Ent), k ≤ m ∧ i = .int .i64 k ∧ Hid (K = ((xs.take k).filter (freshIn bs)).map dropE) ∧ K.length ≤ k ∧ Hid (OwnE wr w4.heap.size v K) ∧ Hid (Grows w4 wr)) (fun _ i _ => m - (intOf i).toNat)
  case atStart => exact ⟨0, [], Nat.zero_le _, rfl, by unfold Hid; rfl, Nat.zero_le _, OwnE.nil _ _, Grows.refl _⟩
  case round =>
    obtain ⟨k, K, hk, rfl, HK, hKk, HO, HG⟩ := hrel
    clear cA
    by_cases hlt : k < m
    · obtain ⟨b, o, rfl, hb, hc⟩ := HA.out (by rw [HM.out]; omega)
      have hk2 : k < xs.length := by rw [HM.out]; exact hlt
      obtain ⟨x, hx⟩ : ∃ x, xs[k] = x := ⟨_, rfl⟩
      have hat := (hc k hk2).keep hb (G4.out.trans HG.out)
      have hfs := fm_step (p := freshIn bs) (f := dropE) hk2
      have hvx := HVX.out xs[k] (List.getElem_mem hk2)
      rw [hx] at hat hfs hvx
      obtain ⟨c0, c1, c2, c3⟩ := hat
      have HFS := Lib.hid hfs
      have hxs : x.s.size ≤ 1048576 := by omega
      have hxk : x.k.size ≤ 1048576 := by omega
      obtain ⟨y, hy⟩ : ∃ y, (lastE bs x.s x.k).getD Ent.zero = y := ⟨_, rfl⟩
      have HQ := Lib.hid hy
      obtain ⟨β, hβ⟩ : ∃ β, (bs.any fun y => y.of x.s x.k) = β := ⟨_, rfl⟩
      have HAY := Lib.hid hβ
      have HFB : Hid (freshIn bs x = !β) := by unfold Hid freshIn; rw [hβ]
      clear hx hc hfs hvx hy hβ
      go_wp2_with fail
      refine (HP.out x _).mono ?_
      rintro r w5 ⟨rfl, g5⟩
      have BX5 : Hid (BoxE w5 wr.heap.size x 33) := (BoxE.new wr x 33).keep g5
      have G5 : Hid (Grows wr w5) := ((Grows.refl wr).alloc _).trans g5
      have HM5 := Lib.hid (HMB.out.keep (HG.out.trans G5.out))
      clear g5 c0 c1 c2 c3
      go_upto_region 7 with (at_lookup; refine lookE_ok rfl _ _ rfl m2 bs HM5.out (by simp [Act.eval]) x.s x.k (by simp [Act.eval]) hxs hxk ?_; rw [HQ.out, HAY.out]; unfold Ent.agg)
      have BY6 : Hid (BoxE (w5.alloc (.cells #[.string y.s, .string y.k, .int .i64 y.op, .string y.v] 33)) w5.heap.size y 33) := BoxE.new w5 y 33
      have G6 : Hid (Grows wr (w5.alloc (.cells #[.string y.s, .string y.k, .int .i64 y.op, .string y.v] 33))) := G5.out.alloc _
      have BX6 : Hid (BoxE (w5.alloc (.cells #[.string y.s, .string y.k, .int .i64 y.op, .string y.v] 33)) wr.heap.size x 33) := BX5.out.keep ((Grows.refl _).alloc _)
      obtain ⟨w6, hw6⟩ : ∃ w6, w5.alloc (.cells #[.string y.s, .string y.k, .int .i64 y.op, .string y.v] 33) = w6 := ⟨_, rfl⟩
      rw [hw6] at BY6 G6 BX6 ⊢
      clear hw6
      have HO6 := Lib.hid (HO.out.keep G6.out)
      have HG6 : Hid (Grows w4 w6) := HG.out.trans G6.out
      rcases β with _ | _
      · have HV : Hid (K ++ [dropE x] = ((xs.take (k + 1)).filter (freshIn bs)).map dropE) := by unfold Hid; rw [HFS.out, HK.out, HFB.out]; rfl
        have SZ := HG6.out.size
        have t0 := BX6.out.at0
        have t1 := BX6.out.at1
        have t2 := BX6.out.at2
        have t3 := BX6.out.at3
        go_wp2_with (at_builtin; refine appEs rfl _ _ rfl w4.heap.size _ K rfl (HO6.out.keep (by repeat (first | exact Grows.refl _ | refine Grows.alloc ?_ _ | refine Grows.drew ?_ | refine Grows.drewN ?_ _))) ⟨w6.heap.size, 0, none⟩ 1 1 [dropE x] rfl rfl (by omega) (one_newsE _ (dropE x) _ rfl) (by omega) (by omega) (Nat.le_trans HG6.out.size (by simp)) ?_)
        intro v' w9 HO9 HGB HNE
        have HG9 : Hid (Grows w4 w9) := (HG6.out.alloc _).mark HGB.out (fun k hk => (HO6.out.lt k hk).1)
        clear HGB HNE t0 t1 t2 t3
        go_wp2
        go_roundw
        case rel => exact ⟨k + 1, K ++ [dropE x], by omega, by go_num, HV, by simp; omega, HO9.out, HG9.out⟩
        case measure => simp [intOf]; omega
      · have HV : Hid (K = ((xs.take (k + 1)).filter (freshIn bs)).map dropE) := by unfold Hid; rw [HFS.out, HK.out, HFB.out]; simp
        go_wp2
        go_roundw
        case rel => exact ⟨k + 1, K, by omega, by go_num, HV, by omega, HO6.out, HG6.out⟩
        case measure => simp [intOf]; omega
    · have HKN : Hid (k = m) := (by omega : k = m)
      have HK9 : Hid (K = (xs.filter (freshIn bs)).map dropE) := by unfold Hid; rw [HK.out, HKN.out, ← HM.out, List.take_length]
      have cB := (XB4.out.keep HG.out).cell
      go_wp2_with fail
      obtain ⟨wq, hwq⟩ : ∃ wq, wr = wq := ⟨_, rfl⟩
      rw [hwq] at HO HG ⊢
      clear hwq cB
      go_loopw [7, 46] (fun v i wr => ∃ (j : Nat) (K2 : List Ent), j ≤ n ∧ i = .int .i64 j ∧ Hid (K2 = (xs.filter (freshIn bs)).map dropE ++ (bs.take j).filter (newIn xs)) ∧ K2.length ≤ 20 + j ∧ Hid (OwnE wr w4.heap.size v K2) ∧ Hid (Grows w4 wr)) (fun _ i _ => n - (intOf i).toNat)
      case atStart => exact ⟨0, K, Nat.zero_le _, rfl, by unfold Hid; rw [HK9.out]; simp, by omega, HO.out, HG.out⟩
      case round =>
        clear HO HG HK HK9 hKk
        obtain ⟨j, K2, hj, rfl, HK, hKk2, HO, HG⟩ := hrel
        by_cases hlt2 : j < n
        · obtain ⟨b, o, rfl, hb, hc⟩ := HBB.out (by rw [HN.out]; omega)
          have hj2 : j < bs.length := by rw [HN.out]; exact hlt2
          obtain ⟨x, hx⟩ : ∃ x, bs[j] = x := ⟨_, rfl⟩
          have hat := (hc j hj2).keep hb (G4.out.trans HG.out)
          have hfs := filter_step (p := newIn xs) hj2
          have hvx := HVB.out bs[j] (List.getElem_mem hj2)
          have hnw := HNW.out bs[j] (List.getElem_mem hj2)
          rw [hx] at hat hfs hvx hnw
          obtain ⟨c0, c1, c2, c3⟩ := hat
          have HFS := Lib.hid hfs
          have hxs : x.s.size ≤ 1048576 := by omega
          have hxk : x.k.size ≤ 1048576 := by omega
          obtain ⟨y, hy⟩ : ∃ y, (lastE xs x.s x.k).getD Ent.zero = y := ⟨_, rfl⟩
          rw [hy] at hnw
          have HQ := Lib.hid hy
          have HNX := Lib.hid hnw
          clear hx hc hfs hvx hy hnw
          go_upto_region 13 with (fail)
          have BX5 : Hid (BoxE (wr.alloc (.cells #[.string x.s, .string x.k, .int .i64 x.op, .string x.v] 33)) wr.heap.size x 33) := BoxE.new wr x 33
          have G5 : Hid (Grows wr (wr.alloc (.cells #[.string x.s, .string x.k, .int .i64 x.op, .string x.v] 33))) := (Grows.refl wr).alloc _
          obtain ⟨w5, hw5⟩ : ∃ w5, wr.alloc (.cells #[.string x.s, .string x.k, .int .i64 x.op, .string x.v] 33) = w5 := ⟨_, rfl⟩
          rw [hw5] at BX5 G5 ⊢
          clear hw5 c0 c1 c2 c3
          have t0 := BX5.out.at0
          have t1 := BX5.out.at1
          have t2 := BX5.out.at2
          have t3 := BX5.out.at3
          refine wp_region_M 5 (CellsAre [(⟨wr.heap.size, 0, none⟩, .string x.s), (⟨wr.heap.size, 1, none⟩, .string x.k), (⟨wr.heap.size, 2, none⟩, .int .i64 x.op), (⟨wr.heap.size, 3, none⟩, .string x.v)]) (by kernel_rfl) (by kernel_rfl) ⟨t0, t1, t2, t3, trivial⟩ (fun hB hS => ?_)
          refine wpAnyM_take (i := 0) (v := ?vn0) hB rfl (by kernel_rfl) (fun _ _ _ h => h) (by rfl) ?yn0 hS ?nn0
          case yn0 => (intro w9 hSw; obtain ⟨s1, s2, s3, s4, _⟩ := hSw; go_simp; try with_reducible rfl)
          refine wpAnyM_take (i := 1) (v := ?vn1) hB rfl (by kernel_rfl) (fun _ _ _ h => h) (by rfl) ?yn1 hS ?nn1
          case yn1 => (intro w9 hSw; obtain ⟨s1, s2, s3, s4, _⟩ := hSw; go_simp; try with_reducible rfl)
          refine wpAnyM_take (i := 4) (v := ?vn4) hB rfl (by kernel_rfl) (fun _ _ _ h => h) (by rfl) ?yn4 hS ?nn4
          case yn4 => (intro w9 hSw; obtain ⟨s1, s2, s3, s4, _⟩ := hSw; go_simp; try with_reducible rfl)
          have HS := Lib.hid hS
          clear hS t0 t1 t2 t3
          refine wpAnyM_one (i := 2) rfl (by kernel_rfl) rfl ?_
          go_wp2_with fail
          refine (HP.out x _).mono ?_
          rintro r w6 ⟨rfl, g6⟩
          have HS1 := Lib.hid (CellsAre.keep HS.out g6)
          have G56 : Hid (Grows w5 w6) := (Grows.refl _).drew.trans g6
          have HM6 := Lib.hid (HMX.out.keep (HG.out.trans (G5.out.trans G56.out)))
          clear g6 HS
          go_wp2_with fail
          refine ⟨HS1.out, ?_⟩
          refine wpAnyM_one (i := 3) rfl (by kernel_rfl) rfl ?_
          refine lookE_any rfl _ _ rfl m1 xs HM6.out (by simp [Act.eval]) x.s x.k (by simp [Act.eval]) hxs hxk ?_
          rw [HQ.out]
          unfold Ent.agg
          go_wp2_with fail
          refine ⟨HS1.out, ?_⟩
          refine wpAnyM_tail (by kernel_rfl) ?_
          clear HS1 hB
          have BX6 := Lib.hid (BX5.out.keep G56.out)
          have HO6 := Lib.hid (HO.out.keep (G5.out.trans G56.out))
          have HG6 : Hid (Grows w4 w6) := HG.out.trans (G5.out.trans G56.out)
          have hne := fun w => neEnt y x w
          unfold Ent.agg at hne
          by_cases hs : y.same x = true
          · have HV : Hid (K2 = (xs.filter (freshIn bs)).map dropE ++ (bs.take (j + 1)).filter (newIn xs)) := by unfold Hid; rw [HFS.out, HK.out, HNX.out, hs]; simp
            rw [hs] at hne
            simp only [Bool.not_true] at hne
            clear hs
            go_wp2
            go_roundw
            case rel => exact ⟨j + 1, K2, by omega, by go_num, HV, by omega, HO6.out, HG6.out⟩
            case measure => simp [intOf]; omega
          · have hs' : y.same x = false := by simpa using hs
            have HV : Hid (K2 ++ [x] = (xs.filter (freshIn bs)).map dropE ++ (bs.take (j + 1)).filter (newIn xs)) := by unfold Hid; rw [HFS.out, HK.out, HNX.out, hs']; simp
            rw [hs'] at hne
            simp only [Bool.not_false] at hne
            clear hs hs'
            have SZ := HG6.out.size
            have t0 := BX6.out.at0
            have t1 := BX6.out.at1
            have t2 := BX6.out.at2
            have t3 := BX6.out.at3
            go_wp2_with (at_builtin; refine appEs rfl _ _ rfl w4.heap.size _ K2 rfl (HO6.out.keep (by repeat (first | exact Grows.refl _ | refine Grows.alloc ?_ _ | refine Grows.drew ?_ | refine Grows.drewN ?_ _))) ⟨w6.heap.size, 0, none⟩ 1 1 [x] rfl rfl (by omega) (one_newsE _ _ _ rfl) (by omega) (by omega) (Nat.le_trans HG6.out.size (by simp)) ?_)
            intro v' w9 HO9 HGB HNE
            have HG9 : Hid (Grows w4 w9) := (HG6.out.alloc _).mark HGB.out (fun k hk => (HO6.out.lt k hk).1)
            clear HGB HNE t0 t1 t2 t3
            go_wp2
            go_roundw
            case rel => exact ⟨j + 1, K2 ++ [x], by omega, by go_num, HV, by simp; omega, HO9.out, HG9.out⟩
            case measure => simp [intOf]; omega
        · have HJM : Hid (j = n) := (by omega : j = n)
          have HR : Hid (K2 = patchR xs bs) := by unfold Hid patchR; rw [HK.out, HJM.out, ← HN.out, List.take_length]
          have hO := HO.out
          rw [HR.out] at hO
          have HO9 := Lib.hid hO
          have G9 : Hid (Grows w wr) := G4.out.trans HG.out
          clear hO
          go_wp2
          go_ret
          exact ⟨_, rfl, HO9.out.less (by omega), G9.out⟩

set_option maxRecDepth 100000 in
set_option maxHeartbeats 4000000 in
theorem implPatYes_any (A : Option Addr) (c : Nat) (xs : List Ent) (B : Option Addr) (d : Nat) (bs : List Ent) (w : World) (hf : EFit xs) (hA : EntsAt w A xs) (hg : EFit bs) (hB : EntsAt w B bs) (hv : vflat xs = true) (hu : vflat bs = true) :
    Calls Tryd.prog 5 #[.agg #[.slice A xs.length c], .agg #[.slice B bs.length d]] w (ResEB (patchL xs bs) (patchB xs bs) w) := by
  have HI := Lib.hid (fun w1 (g : Grows w w1) => implFlat_any A c xs w1 hf (hA.keep g))
  have HJ := Lib.hid (fun w1 (g : Grows w w1) => implFlat_any B d bs w1 hg (hB.keep g))
  have HPR := Lib.hid (fun w1 (g : Grows w w1) => implPatchR_any A c xs B d bs w1 hf (hA.keep g) hg (hB.keep g) (vflat_vlayer hv) (vflat_vlayer hu) hv hu)
  have HFR : Hid (EFit (patchR xs bs)) := patchR_fit (vflat_vlayer hv) (vflat_vlayer hu)
  have HPE : Hid (patchL xs bs = chkE (patchR xs bs) ∧ patchB xs bs = vlayer (patchR xs bs)) := patchL_yes hv hu
  unfold RetE at HPR
  rw [hv] at HI
  rw [hu] at HJ
  clear hA hB hf hg hv hu
  obtain ⟨m, hmm⟩ : ∃ m, xs.length = m := ⟨_, rfl⟩
  obtain ⟨n, hnn⟩ : ∃ n, bs.length = n := ⟨_, rfl⟩
  rw [hmm] at HI HPR ⊢
  rw [hnn] at HJ HPR ⊢
  clear hmm hnn
  go_enter Tryd.func5, Tryd.ntmps5
  go_upto_region 1 with (fail)
  have XA : Hid (Box (((w.alloc (.cells #[.slice A m c] 25)).alloc (.cells #[.slice B n d] 25)).alloc (.cells #[.slice none 0 0] 25)) w.heap.size (.slice A m c) 25) := row_grow (row_grow (heap_alloc_new w _) ((Grows.refl _).alloc _)) ((Grows.refl _).alloc _)
  have XB : Hid (Box (((w.alloc (.cells #[.slice A m c] 25)).alloc (.cells #[.slice B n d] 25)).alloc (.cells #[.slice none 0 0] 25)) (w.heap.size + 1) (.slice B n d) 25) := row_grow (alloc_new2 w _ _) ((Grows.refl _).alloc _)
  have XR : Hid (Box (((w.alloc (.cells #[.slice A m c] 25)).alloc (.cells #[.slice B n d] 25)).alloc (.cells #[.slice none 0 0] 25)) (w.heap.size + 1 + 1) (.slice none 0 0) 25) := alloc_new3 w _ _ _
  have G0 : Hid (Grows w (((w.alloc (.cells #[.slice A m c] 25)).alloc (.cells #[.slice B n d] 25)).alloc (.cells #[.slice none 0 0] 25))) := (((Grows.refl w).alloc _).alloc _).alloc _
  obtain ⟨w0, hw0⟩ : ∃ w0, ((w.alloc (.cells #[.slice A m c] 25)).alloc (.cells #[.slice B n d] 25)).alloc (.cells #[.slice none 0 0] 25) = w0 := ⟨_, rfl⟩
  rw [hw0] at XA XB XR G0 ⊢
  clear hw0
  have S0 : w.heap.size + 1 + 1 < w0.heap.size := XR.out.lt
  have cA := XA.out.cell
  go_wp2_with fail
  refine (HI.out _ G0.out).mono ?_
  rintro r w1 ⟨rfl, g1⟩
  have G1 : Hid (Grows w w1) := G0.out.trans g1
  have XA1 := Lib.hid (XA.out.keep g1)
  have XB1 := Lib.hid (XB.out.keep g1)
  have XR1 := Lib.hid (XR.out.keep g1)
  have S1 : w0.heap.size ≤ w1.heap.size := g1.size
  clear g1 cA XA XB XR
  have cB := XB1.out.cell
  go_wp2_with fail
  refine (HJ.out _ G1.out).mono ?_
  rintro r w2 ⟨rfl, g2⟩
  have G2 : Hid (Grows w w2) := G1.out.trans g2
  have XA2 := Lib.hid (XA1.out.keep g2)
  have XB2 := Lib.hid (XB1.out.keep g2)
  have XR2 := Lib.hid (XR1.out.keep g2)
  have S2 : w1.heap.size ≤ w2.heap.size := g2.size
  clear g2 cB XA1 XB1 XR1 HI HJ
  have cA := XA2.out.cell
  have cB := XB2.out.cell
  go_wp2_with fail
  refine (HPR.out _ G2.out).mono ?_
  rintro r w3 ⟨v, rfl, hv, g3⟩
  have G3 : Hid (Grows w w3) := G2.out.trans g3
  have XR3 := Lib.hid (XR2.out.keep g3)
  have HCK := Lib.hid (validEntries_any v w2.heap.size (patchR xs bs) w3 HFR.out hv)
  unfold ChkRetE at HCK
  clear g3 hv cA cB XA2 XB2 XR2 HPR
  go_wp2_with fail
  refine (HCK.out).mono ?_
  rintro r w9 ⟨u, rfl, hu, g9⟩
  have G9 : Hid (Grows w w9) := G3.out.trans g9
  have XR9 := Lib.hid (XR3.out.keep g9)
  obtain ⟨A5, n5, c5, hv5⟩ := OwnE.form3 hu
  subst hv5
  have HU := Lib.hid hu
  clear g9 hu
  have h1 := XR9.out.cell
  have h2 := XR9.out.free
  obtain ⟨β, hβ⟩ : ∃ β, vlayer (patchR xs bs) = β := ⟨_, rfl⟩
  rw [hβ] at HPE ⊢
  clear hβ
  go_wp2
  refine bodyPost_ret (v := .tuple #[.agg #[.slice A5 n5 c5], .bool β]) (by simp [results, Tryd.results5, go_sem, h1]) rfl ?_
  rw [HPE.out.1, HPE.out.2]
  exact ⟨_, rfl, (HU.out.setOther (by omega) _).less (by omega), G9.out.setCell (show w.heap.size ≤ w.heap.size + 1 + 1 by omega) _⟩

set_option maxRecDepth 100000 in
set_option maxHeartbeats 4000000 in
theorem implPat_any (A : Option Addr) (c : Nat) (xs : List Ent) (B : Option Addr) (d : Nat) (bs : List Ent) (w : World) (HC0 : xs.length ≤ c) (HD0 : bs.length ≤ d) (hf : EFit xs) (hA : EntsAt w A xs) (hg : EFit bs) (hB : EntsAt w B bs) :
    Calls Tryd.prog 5 #[.agg #[.slice A xs.length c], .agg #[.slice B bs.length d]] w (ResEB (patchL xs bs) (patchB xs bs) w) := by
  have hc0 := HC0
  have hd0 := HD0
  have HI := Lib.hid (fun w1 (g : Grows w w1) => implFlat_any A c xs w1 hf (hA.keep g))
  have HJ := Lib.hid (fun w1 (g : Grows w w1) => implFlat_any B d bs w1 hg (hB.keep g))
  by_cases hv : vflat xs = true
  · by_cases hu : vflat bs = true
    · exact implPatYes_any A c xs B d bs w hf hA hg hB hv hu
    · have hu' : vflat bs = false := by simpa using hu
      have HPE : Hid (patchL xs bs = [] ∧ patchB xs bs = false) := patchL_no2 hu'
      rw [hv] at HI
      rw [hu'] at HJ
      clear hA hf hv hu hu' hB hg hc0 hd0
      obtain ⟨m, hmm⟩ : ∃ m, xs.length = m := ⟨_, rfl⟩
      obtain ⟨n, hnn⟩ : ∃ n, bs.length = n := ⟨_, rfl⟩
      rw [hmm] at HI ⊢
      rw [hnn] at HJ ⊢
      clear hmm hnn
      go_enter Tryd.func5, Tryd.ntmps5
      go_upto_region 1 with (fail)
      have XA : Hid (Box (((w.alloc (.cells #[.slice A m c] 25)).alloc (.cells #[.slice B n d] 25)).alloc (.cells #[.slice none 0 0] 25)) w.heap.size (.slice A m c) 25) := row_grow (row_grow (heap_alloc_new w _) ((Grows.refl _).alloc _)) ((Grows.refl _).alloc _)
      have XB : Hid (Box (((w.alloc (.cells #[.slice A m c] 25)).alloc (.cells #[.slice B n d] 25)).alloc (.cells #[.slice none 0 0] 25)) (w.heap.size + 1) (.slice B n d) 25) := row_grow (alloc_new2 w _ _) ((Grows.refl _).alloc _)
      have XR : Hid (Box (((w.alloc (.cells #[.slice A m c] 25)).alloc (.cells #[.slice B n d] 25)).alloc (.cells #[.slice none 0 0] 25)) (w.heap.size + 1 + 1) (.slice none 0 0) 25) := alloc_new3 w _ _ _
      have G0 : Hid (Grows w (((w.alloc (.cells #[.slice A m c] 25)).alloc (.cells #[.slice B n d] 25)).alloc (.cells #[.slice none 0 0] 25))) := (((Grows.refl w).alloc _).alloc _).alloc _
      obtain ⟨w0, hw0⟩ : ∃ w0, ((w.alloc (.cells #[.slice A m c] 25)).alloc (.cells #[.slice B n d] 25)).alloc (.cells #[.slice none 0 0] 25) = w0 := ⟨_, rfl⟩
      rw [hw0] at XA XB XR G0 ⊢
      clear hw0
      have S0 : w.heap.size + 1 + 1 < w0.heap.size := XR.out.lt
      have cA := XA.out.cell
      go_wp2_with fail
      refine (HI.out _ G0.out).mono ?_
      rintro r w1 ⟨rfl, g1⟩
      have G1 : Hid (Grows w w1) := G0.out.trans g1
      have XB1 := Lib.hid (XB.out.keep g1)
      have XR1 := Lib.hid (XR.out.keep g1)
      clear g1 cA XA XB XR
      have cB := XB1.out.cell
      go_wp2_with fail
      refine (HJ.out _ G1.out).mono ?_
      rintro r w2 ⟨rfl, g2⟩
      have G2 : Hid (Grows w w2) := G1.out.trans g2
      have XR2 := Lib.hid (XR1.out.keep g2)
      clear g2 cB XB1 XR1
      have h1 := XR2.out.cell
      have h2 := XR2.out.free
      go_wp2
      refine bodyPost_ret (v := .tuple #[.agg #[.slice none 0 0], .bool false]) (by simp [results, Tryd.results5, go_sem, h1]) rfl ?_
      rw [HPE.out.1, HPE.out.2]
      exact ⟨_, rfl, OwnE.nil _ _, G2.out.setCell (show w.heap.size ≤ w.heap.size + 1 + 1 by omega) _⟩
  · have hv' : vflat xs = false := by simpa using hv
    have HPE : Hid (patchL xs bs = [] ∧ patchB xs bs = false) := patchL_no1 hv'
    rw [hv'] at HI
    clear hA hf hv hv' hB hg hc0 hd0 HJ
    obtain ⟨m, hmm⟩ : ∃ m, xs.length = m := ⟨_, rfl⟩
    obtain ⟨n, hnn⟩ : ∃ n, bs.length = n := ⟨_, rfl⟩
    rw [hmm] at HI ⊢
    rw [hnn]
    clear hmm hnn
    go_enter Tryd.func5, Tryd.ntmps5
    go_upto_region 1 with (fail)
    have XA : Hid (Box (((w.alloc (.cells #[.slice A m c] 25)).alloc (.cells #[.slice B n d] 25)).alloc (.cells #[.slice none 0 0] 25)) w.heap.size (.slice A m c) 25) := row_grow (row_grow (heap_alloc_new w _) ((Grows.refl _).alloc _)) ((Grows.refl _).alloc _)
    have XB : Hid (Box (((w.alloc (.cells #[.slice A m c] 25)).alloc (.cells #[.slice B n d] 25)).alloc (.cells #[.slice none 0 0] 25)) (w.heap.size + 1) (.slice B n d) 25) := row_grow (alloc_new2 w _ _) ((Grows.refl _).alloc _)
    have XR : Hid (Box (((w.alloc (.cells #[.slice A m c] 25)).alloc (.cells #[.slice B n d] 25)).alloc (.cells #[.slice none 0 0] 25)) (w.heap.size + 1 + 1) (.slice none 0 0) 25) := alloc_new3 w _ _ _
    have G0 : Hid (Grows w (((w.alloc (.cells #[.slice A m c] 25)).alloc (.cells #[.slice B n d] 25)).alloc (.cells #[.slice none 0 0] 25))) := (((Grows.refl w).alloc _).alloc _).alloc _
    obtain ⟨w0, hw0⟩ : ∃ w0, ((w.alloc (.cells #[.slice A m c] 25)).alloc (.cells #[.slice B n d] 25)).alloc (.cells #[.slice none 0 0] 25) = w0 := ⟨_, rfl⟩
    rw [hw0] at XA XB XR G0 ⊢
    clear hw0
    have S0 : w.heap.size + 1 + 1 < w0.heap.size := XR.out.lt
    have cA := XA.out.cell
    go_wp2_with fail
    refine (HI.out _ G0.out).mono ?_
    rintro r w1 ⟨rfl, g1⟩
    have G1 : Hid (Grows w w1) := G0.out.trans g1
    have XR1 := Lib.hid (XR.out.keep g1)
    clear g1 cA XA XB XR
    have h1 := XR1.out.cell
    have h2 := XR1.out.free
    go_wp2
    refine bodyPost_ret (v := .tuple #[.agg #[.slice none 0 0], .bool false]) (by simp [results, Tryd.results5, go_sem, h1]) rfl ?_
    rw [HPE.out.1, HPE.out.2]
    exact ⟨_, rfl, OwnE.nil _ _, G1.out.setCell (show w.heap.size ≤ w.heap.size + 1 + 1 by omega) _⟩
end Go.Proofs.YtkjoolmhcfajnaaDoor
namespace Go.Proofs.YtkjoolmhcfajnaaDoor
open Go.RowKit

set_option maxRecDepth 100000 in
set_option maxHeartbeats 40000000 in
theorem specPatch_any (A : Option Addr) (c : Nat) (xs : List Ent) (B : Option Addr) (d : Nat) (bs : List Ent) (w : World) (g1 : vflat xs = true) (g2 : vflat bs = true) (hA : EntsAt w A xs) (hB : EntsAt w B bs) :
    Calls Tryd.prog 18 #[.agg #[.slice A xs.length c], .agg #[.slice B bs.length d]] w (ResE (patchR xs bs) w) := by
  have h1 := vflat_vlayer g1
  have h2 := vflat_vlayer g2
  have hm := vlayer_20 h1
  have hn := vlayer_20 h2
  have HFX := Lib.hid (fun s k w1 (g : Grows w w1) => entryAt_any A c xs s k w1 (by omega) (hA.keep g))
  have HFB := Lib.hid (fun s k w1 (g : Grows w w1) => entryAt_any B d bs s k w1 (by omega) (hB.keep g))
  have HA := Lib.hid hA
  have HBB := Lib.hid hB
  have HVX := Lib.hid (fun x hx => vlayer_vent h1 x hx)
  have HVB := Lib.hid (fun x hx => vlayer_vent h2 x hx)
  have HD := Lib.hid (vlayer_dist h1)
  clear hA hB h1 h2 g1 g2
  obtain ⟨m, hmm⟩ : ∃ m, xs.length = m := ⟨_, rfl⟩
  obtain ⟨n, hnn⟩ : ∃ n, bs.length = n := ⟨_, rfl⟩
  rw [hmm] at hm HFX ⊢
  rw [hnn] at hn HFB ⊢
  have HM := Lib.hid hmm
  have HN := Lib.hid hnn
  clear hmm hnn
  go_enter Tryd.func18, Tryd.ntmps18
  go_upto_region 1 with (fail)
  have XA : Hid (Box (((w.alloc (.cells #[.slice A m c] 25)).alloc (.cells #[.slice B n d] 25)).alloc (.cells #[.slice none 0 0] 25)) w.heap.size (.slice A m c) 25) := row_grow (row_grow (heap_alloc_new w _) ((Grows.refl _).alloc _)) ((Grows.refl _).alloc _)
  have XB : Hid (Box (((w.alloc (.cells #[.slice A m c] 25)).alloc (.cells #[.slice B n d] 25)).alloc (.cells #[.slice none 0 0] 25)) (w.heap.size + 1) (.slice B n d) 25) := row_grow (alloc_new2 w _ _) ((Grows.refl _).alloc _)
  have XR : Hid (Box (((w.alloc (.cells #[.slice A m c] 25)).alloc (.cells #[.slice B n d] 25)).alloc (.cells #[.slice none 0 0] 25)) (w.heap.size + 1 + 1) (.slice none 0 0) 25) := alloc_new3 w _ _ _
  have G0 : Hid (Grows w (((w.alloc (.cells #[.slice A m c] 25)).alloc (.cells #[.slice B n d] 25)).alloc (.cells #[.slice none 0 0] 25))) := (((Grows.refl w).alloc _).alloc _).alloc _
  obtain ⟨w0, hw0⟩ : ∃ w0, ((w.alloc (.cells #[.slice A m c] 25)).alloc (.cells #[.slice B n d] 25)).alloc (.cells #[.slice none 0 0] 25) = w0 := ⟨_, rfl⟩
  rw [hw0] at XA XB XR G0 ⊢
  clear hw0
  have S0 : w.heap.size + 1 + 1 < w0.heap.size := XR.out.lt
  have HO2 : Hid (OwnE ((w0.alloc (.cells #[] 33)).alloc (.cells #[.slice (some ⟨w0.heap.size, 0, none⟩) 0 0] 25)) w0.heap.size (.slice (some ⟨w0.heap.size, 0, none⟩) 0 0) []) := (OwnE.empty w0 _ (Nat.le_refl _)).keep ((Grows.refl _).alloc _)
  have HX2 : Hid (Box ((w0.alloc (.cells #[] 33)).alloc (.cells #[.slice (some ⟨w0.heap.size, 0, none⟩) 0 0] 25)) (w0.heap.size + 1) (.slice (some ⟨w0.heap.size, 0, none⟩) 0 0) 25) := by
    have h := Box.new (w0.alloc (.cells #[] 33)) (.slice (some ⟨w0.heap.size, 0, none⟩) 0 0) 25
    simp only [World.size_alloc] at h
    exact h
  go_wp2_with fail
  go_loopw [6] (fun i wr => ∃ (k : Nat) (K : List Ent) (v : Value), k ≤ m ∧ i = .int .i64 k ∧ Hid (K = ((xs.take k).filter (freshIn bs)).map dropE) ∧ K.length ≤ k ∧ Hid (OwnE wr w0.heap.size v K) ∧ Hid (Box wr (w0.heap.size + 1) v 25) ∧ Hid (v.ownBlock ≠ some (w0.heap.size + 1)) ∧ Hid (Grows w0 wr)) (fun i _ => m - (intOf i).toNat)
  case atStart => exact ⟨0, [], _, Nat.zero_le _, rfl, by unfold Hid; rfl, Nat.zero_le _, HO2.out, HX2.out, (fun h => by have h' : some w0.heap.size = some (w0.heap.size + 1) := h; injection h' with h'; omega), ((Grows.refl _).alloc _).alloc _⟩
  case round =>
    obtain ⟨k, K, v, hk, rfl, HK, hKk, HO, HX, HNB, HG⟩ := hrel
    have hb0 := (XA.out.keep HG.out).cell
    have hb1 := (XB.out.keep HG.out).cell
    have hbo := HX.out.cell
    have HGW : Hid (Grows w wr) := G0.out.trans HG.out
    obtain ⟨A9, n9, c9, hv9⟩ := HO.out.form3
    by_cases hlt : k < m
    · obtain ⟨b, o, rfl, hb, hc⟩ := HA.out (by rw [HM.out]; omega)
      have hk2 : k < xs.length := by rw [HM.out]; exact hlt
      obtain ⟨x, hx⟩ : ∃ x, xs[k] = x := ⟨_, rfl⟩
      have hat := (hc k hk2).keep hb HGW.out
      have hfs := fm_step (p := freshIn bs) (f := dropE) hk2
      rw [hx] at hat hfs
      obtain ⟨c0, c1, c2, c3⟩ := hat
      have HFS := Lib.hid hfs
      have HS := Lib.hid (fun w1 (g : Grows w w1) => HFB.out x.s x.k w1 g)
      have hfi := fresh_idx bs x
      obtain ⟨ix, hixx⟩ : ∃ ix, entIdx bs x.s x.k = ix := ⟨_, rfl⟩
      rw [hixx] at hfi HS
      have HFI := Lib.hid hfi
      clear hx hc hfs hv9 hfi hixx
      go_upto_region 6 with (fail)
      have BX2 : Hid (BoxE (wr.alloc (.cells #[.string x.s, .string x.k, .int .i64 x.op, .string x.v] 33)) wr.heap.size x 33) := BoxE.new wr x 33
      have G2 : Hid (Grows wr (wr.alloc (.cells #[.string x.s, .string x.k, .int .i64 x.op, .string x.v] 33))) := (Grows.refl wr).alloc _
      obtain ⟨w2, hw2⟩ : ∃ w2, wr.alloc (.cells #[.string x.s, .string x.k, .int .i64 x.op, .string x.v] 33) = w2 := ⟨_, rfl⟩
      rw [hw2] at BX2 G2 ⊢
      clear hw2
      have t0 := BX2.out.at0
      have t1 := BX2.out.at1
      clear c0 c1 c2 c3 hb0 hb1
      have e1 : w2.cell? ⟨w.heap.size + 1, 0, none⟩ = some (.slice B n d) := ((XB.out.keep HG.out).keep G2.out).cell
      go_wp2_with fail
      refine (HS.out _ (HGW.out.trans G2.out)).mono ?_
      rintro e w2' ⟨rfl, rfl⟩
      clear e1 t0 t1
      by_cases hs : ix < 0
      · have HV : Hid (K ++ [dropE x] = ((xs.take (k + 1)).filter (freshIn bs)).map dropE) := by unfold Hid; rw [HFS.out, HK.out, HFI.out, decide_eq_true hs]; rfl
        have HOa := Lib.hid (HO.out.keep G2.out)
        have HXa := Lib.hid (HX.out.keep G2.out)
        have HGa : Hid (Grows w0 w2) := HG.out.trans G2.out
        have hboa := HXa.out.cell
        have t0 := BX2.out.at0
        have t1 := BX2.out.at1
        have t2 := BX2.out.at2
        have t3 := BX2.out.at3
        have SZ := HGa.out.size
        clear hbo
        go_wp2_with (at_builtin; refine appEs rfl _ _ rfl w0.heap.size v K rfl (HOa.out.keep (by repeat (first | exact Grows.refl _ | refine Grows.alloc ?_ _ | refine Grows.drew ?_ | refine Grows.drewN ?_ _))) ⟨w2.heap.size, 0, none⟩ 1 1 [(dropE x)] rfl rfl (by omega) (one_newsE _ (dropE x) _ rfl) (by omega) (by omega) (Nat.le_trans HGa.out.size (by simp)) ?_)
        intro v' w6 HO6 HGB HNE
        have G7 : Hid (w2.grownBy w6 v.ownBlock) := (gb_of2 (by repeat (first | exact Grows.refl _ | refine Grows.alloc ?_ _ | refine Grows.drew ?_ | refine Grows.drewN ?_ _)) _).trans HGB.out
        obtain ⟨A8, n8, c8, rfl⟩ := HO6.out.form3
        have HX6 := Lib.hid (HXa.out.far G7.out HNB.out)
        have hx6 := HX6.out.cell
        have hf6 := HX6.out.free
        have HN6 : Hid ((Value.slice A8 n8 c8).ownBlock ≠ some (w0.heap.size + 1)) := fun e => by
          rcases HNE.out _ e with h | h
          · exact HNB.out h
          · have h1 := HXa.out.lt
            simp at h
            omega
        have HG6 : Hid (Grows w0 w6) := HGa.out.mark G7.out (fun k hk => (HOa.out.lt k hk).1)
        clear HGB HNE t0 t1 t2 t3 hboa
        go_wp2
        go_roundw
        case rel => exact ⟨k + 1, K ++ [(dropE x)], _, by omega, by go_num, HV, by simp; omega, HO6.out.setFar HN6.out _, HX6.out.set_ _, HN6.out, HG6.out.setCell (by simp) _⟩
        case measure => simp [intOf]; omega
      · have HV : Hid (K = ((xs.take (k + 1)).filter (freshIn bs)).map dropE) := by unfold Hid; rw [HFS.out, HK.out, HFI.out, decide_eq_false hs]; simp
        clear hbo
        go_wp2
        go_roundw
        case rel => exact ⟨k + 1, K, v, by omega, by go_num, HV, by omega, HO.out.keep (G2.out.trans (by repeat (first | exact Grows.refl _ | refine Grows.alloc ?_ _ | refine Grows.drew ?_ | refine Grows.drewN ?_ _))), HX.out.keep (G2.out.trans (by repeat (first | exact Grows.refl _ | refine Grows.alloc ?_ _ | refine Grows.drew ?_ | refine Grows.drewN ?_ _))), HNB.out, HG.out.trans (G2.out.trans (by repeat (first | exact Grows.refl _ | refine Grows.alloc ?_ _ | refine Grows.drew ?_ | refine Grows.drewN ?_ _)))⟩
        case measure => simp [intOf]; omega
    · have HKN : Hid (k = m) := (by omega : k = m)
      have HK9 : Hid (K = (xs.filter (freshIn bs)).map dropE) := by unfold Hid; rw [HK.out, HKN.out, ← HM.out, List.take_length]
      subst hv9
      clear HFB HVX HVB HK
      go_wp2_with fail
      obtain ⟨wq, hwq⟩ : ∃ wq, wr = wq := ⟨_, rfl⟩
      rw [hwq] at HO HX HG HGW ⊢
      clear hwq hb0 hb1 hbo
      go_loopw [8] (fun i wr => ∃ (j : Nat) (K2 : List Ent) (v : Value), j ≤ n ∧ i = .int .i64 j ∧ Hid (K2 = (xs.filter (freshIn bs)).map dropE ++ (bs.take j).filter (newIn xs)) ∧ K2.length ≤ 20 + j ∧ Hid (OwnE wr w0.heap.size v K2) ∧ Hid (Box wr (w0.heap.size + 1) v 25) ∧ Hid (v.ownBlock ≠ some (w0.heap.size + 1)) ∧ Hid (Grows w0 wr)) (fun i _ => n - (intOf i).toNat)
      case atStart => exact ⟨0, K, _, Nat.zero_le _, rfl, by unfold Hid; rw [HK9.out]; simp, by omega, HO.out, HX.out, HNB.out, HG.out⟩
      case round =>
        clear HO HX HNB HG HGW HK9
        obtain ⟨j, K2, v, hj, rfl, HK, hKk2, HO, HX, HNB, HG⟩ := hrel
        have hb0 := (XA.out.keep HG.out).cell
        have hb1 := (XB.out.keep HG.out).cell
        have hbo := HX.out.cell
        have HGW : Hid (Grows w wr) := G0.out.trans HG.out
        obtain ⟨A9, n9, c9, hv9⟩ := HO.out.form3
        by_cases hlt2 : j < n
        · obtain ⟨b, o, rfl, hb, hc⟩ := HBB.out (by rw [HN.out]; omega)
          have hj2 : j < bs.length := by rw [HN.out]; exact hlt2
          obtain ⟨x, hx⟩ : ∃ x, bs[j] = x := ⟨_, rfl⟩
          have hat := (hc j hj2).keep hb HGW.out
          have hfs := filter_step (p := newIn xs) hj2
          rw [hx] at hat hfs
          obtain ⟨c0, c1, c2, c3⟩ := hat
          have HFS := Lib.hid hfs
          have HS := Lib.hid (fun w1 (g : Grows w w1) => HFX.out x.s x.k w1 g)
          clear hx hc hfs hv9
          rcases last_idx HD.out x.s x.k with ⟨h0, hl0⟩ | ⟨q, hq, h0, hl0⟩
          · have HV : Hid (K2 ++ [x] = (xs.filter (freshIn bs)).map dropE ++ (bs.take (j + 1)).filter (newIn xs)) := by unfold Hid; rw [HFS.out, HK.out, show newIn xs x = true from by unfold newIn; rw [hl0]]; simp
            rw [h0] at HS
            clear h0 hl0
            go_upto_region 12 with (fail)
            have BX2 : Hid (BoxE (wr.alloc (.cells #[.string x.s, .string x.k, .int .i64 x.op, .string x.v] 33)) wr.heap.size x 33) := BoxE.new wr x 33
            have G2 : Hid (Grows wr (wr.alloc (.cells #[.string x.s, .string x.k, .int .i64 x.op, .string x.v] 33))) := (Grows.refl wr).alloc _
            obtain ⟨w2, hw2⟩ : ∃ w2, wr.alloc (.cells #[.string x.s, .string x.k, .int .i64 x.op, .string x.v] 33) = w2 := ⟨_, rfl⟩
            rw [hw2] at BX2 G2 ⊢
            clear hw2
            have t0 := BX2.out.at0
            have t1 := BX2.out.at1
            clear c0 c1 c2 c3 hb0 hb1
            have e0 : w2.cell? ⟨w.heap.size, 0, none⟩ = some (.slice A m c) := ((XA.out.keep HG.out).keep G2.out).cell
            have t2 := BX2.out.at2
            have t3 := BX2.out.at3
            go_wp2_with fail
            refine (HS.out _ (HGW.out.trans G2.out)).mono ?_
            rintro e w2' ⟨rfl, rfl⟩
            go_upto_region 14 with (go_quiet (fail))
            clear e0 t0 t1 t2 t3
            have HOa := Lib.hid (HO.out.keep G2.out)
            have HXa := Lib.hid (HX.out.keep G2.out)
            have HGa : Hid (Grows w0 w2) := HG.out.trans G2.out
            have hboa := HXa.out.cell
            have t0 := BX2.out.at0
            have t1 := BX2.out.at1
            have t2 := BX2.out.at2
            have t3 := BX2.out.at3
            have SZ := HGa.out.size
            clear hbo
            go_wp2_with (at_builtin; refine appEs rfl _ _ rfl w0.heap.size v K2 rfl (HOa.out.keep (by repeat (first | exact Grows.refl _ | refine Grows.alloc ?_ _ | refine Grows.drew ?_ | refine Grows.drewN ?_ _))) ⟨w2.heap.size, 0, none⟩ 1 1 [x] rfl rfl (by omega) (one_newsE _ x _ rfl) (by omega) (by omega) (Nat.le_trans HGa.out.size (by simp)) ?_)
            intro v' w6 HO6 HGB HNE
            have G7 : Hid (w2.grownBy w6 v.ownBlock) := (gb_of2 (by repeat (first | exact Grows.refl _ | refine Grows.alloc ?_ _ | refine Grows.drew ?_ | refine Grows.drewN ?_ _)) _).trans HGB.out
            obtain ⟨A8, n8, c8, rfl⟩ := HO6.out.form3
            have HX6 := Lib.hid (HXa.out.far G7.out HNB.out)
            have hx6 := HX6.out.cell
            have hf6 := HX6.out.free
            have HN6 : Hid ((Value.slice A8 n8 c8).ownBlock ≠ some (w0.heap.size + 1)) := fun e => by
              rcases HNE.out _ e with h | h
              · exact HNB.out h
              · have h1 := HXa.out.lt
                simp at h
                omega
            have HG6 : Hid (Grows w0 w6) := HGa.out.mark G7.out (fun k hk => (HOa.out.lt k hk).1)
            clear HGB HNE t0 t1 t2 t3 hboa
            go_wp2
            go_roundw
            case rel => exact ⟨j + 1, K2 ++ [x], _, by omega, by go_num, HV, by simp; omega, HO6.out.setFar HN6.out _, HX6.out.set_ _, HN6.out, HG6.out.setCell (by simp) _⟩
            case measure => simp [intOf]; omega
          · obtain ⟨b2, o2, rfl, hb2, hc2⟩ := HA.out (by omega)
            obtain ⟨y, hy⟩ : ∃ y, xs[q] = y := ⟨_, rfl⟩
            have hat2 := (hc2 q hq).keep hb2 HGW.out
            rw [hy] at hat2 hl0
            obtain ⟨d0, d1, d2, d3⟩ := hat2
            have HNI : Hid (newIn xs x = !(y.v.toList == x.v.toList)) := by unfold Hid newIn; rw [hl0]
            rw [h0] at HS
            have hqn : q < m := by rw [← HM.out]; exact hq
            clear h0 hc2 hy hl0
            go_upto_region 12 with (fail)
            have BX2 : Hid (BoxE (wr.alloc (.cells #[.string x.s, .string x.k, .int .i64 x.op, .string x.v] 33)) wr.heap.size x 33) := BoxE.new wr x 33
            have G2 : Hid (Grows wr (wr.alloc (.cells #[.string x.s, .string x.k, .int .i64 x.op, .string x.v] 33))) := (Grows.refl wr).alloc _
            obtain ⟨w2, hw2⟩ : ∃ w2, wr.alloc (.cells #[.string x.s, .string x.k, .int .i64 x.op, .string x.v] 33) = w2 := ⟨_, rfl⟩
            rw [hw2] at BX2 G2 ⊢
            clear hw2
            have t0 := BX2.out.at0
            have t1 := BX2.out.at1
            clear c0 c1 c2 c3 hb0 hb1
            have e0 : w2.cell? ⟨w.heap.size, 0, none⟩ = some (.slice (some ⟨b2, o2, none⟩) m c) := ((XA.out.keep HG.out).keep G2.out).cell
            have z3 : w2.cell? ⟨b2, o2 + q * 4 + 3, none⟩ = some (.string y.v) := (G2.out.cell (p := ⟨b2, o2 + q * 4 + 3, none⟩) (Nat.lt_of_lt_of_le hb2 HGW.out.size)).trans d3
            have t2 := BX2.out.at2
            have t3 := BX2.out.at3
            clear d0 d1 d2 d3
            go_wp2_with fail
            refine (HS.out _ (HGW.out.trans G2.out)).mono ?_
            rintro e w2' ⟨rfl, rfl⟩
            by_cases hs : (y.v.toList == x.v.toList) = true
            · have HV : Hid (K2 = (xs.filter (freshIn bs)).map dropE ++ (bs.take (j + 1)).filter (newIn xs)) := by unfold Hid; rw [HFS.out, HK.out, HNI.out, hs]; simp
              go_wp2_with fail
              go_quiet (fail)
              go_wp2_with fail
              go_wp2
              go_roundw
              case rel => exact ⟨j + 1, K2, v, by omega, by go_num, HV, by omega, HO.out.keep (G2.out.trans (by repeat (first | exact Grows.refl _ | refine Grows.alloc ?_ _ | refine Grows.drew ?_ | refine Grows.drewN ?_ _))), HX.out.keep (G2.out.trans (by repeat (first | exact Grows.refl _ | refine Grows.alloc ?_ _ | refine Grows.drew ?_ | refine Grows.drewN ?_ _))), HNB.out, HG.out.trans (G2.out.trans (by repeat (first | exact Grows.refl _ | refine Grows.alloc ?_ _ | refine Grows.drew ?_ | refine Grows.drewN ?_ _)))⟩
              case measure => simp [intOf]; omega
            · have hs' : (y.v.toList == x.v.toList) = false := by simpa using hs
              have HV : Hid (K2 ++ [x] = (xs.filter (freshIn bs)).map dropE ++ (bs.take (j + 1)).filter (newIn xs)) := by unfold Hid; rw [HFS.out, HK.out, HNI.out, hs']; simp
              clear hs
              go_upto_region 14 with (go_quiet (fail))
              clear e0 z3 t0 t1 t2 t3 hs'
              have HOa := Lib.hid (HO.out.keep G2.out)
              have HXa := Lib.hid (HX.out.keep G2.out)
              have HGa : Hid (Grows w0 w2) := HG.out.trans G2.out
              have hboa := HXa.out.cell
              have t0 := BX2.out.at0
              have t1 := BX2.out.at1
              have t2 := BX2.out.at2
              have t3 := BX2.out.at3
              have SZ := HGa.out.size
              clear hbo
              go_wp2_with (at_builtin; refine appEs rfl _ _ rfl w0.heap.size v K2 rfl (HOa.out.keep (by repeat (first | exact Grows.refl _ | refine Grows.alloc ?_ _ | refine Grows.drew ?_ | refine Grows.drewN ?_ _))) ⟨w2.heap.size, 0, none⟩ 1 1 [x] rfl rfl (by omega) (one_newsE _ x _ rfl) (by omega) (by omega) (Nat.le_trans HGa.out.size (by simp)) ?_)
              intro v' w6 HO6 HGB HNE
              have G7 : Hid (w2.grownBy w6 v.ownBlock) := (gb_of2 (by repeat (first | exact Grows.refl _ | refine Grows.alloc ?_ _ | refine Grows.drew ?_ | refine Grows.drewN ?_ _)) _).trans HGB.out
              obtain ⟨A8, n8, c8, rfl⟩ := HO6.out.form3
              have HX6 := Lib.hid (HXa.out.far G7.out HNB.out)
              have hx6 := HX6.out.cell
              have hf6 := HX6.out.free
              have HN6 : Hid ((Value.slice A8 n8 c8).ownBlock ≠ some (w0.heap.size + 1)) := fun e => by
                rcases HNE.out _ e with h | h
                · exact HNB.out h
                · have h1 := HXa.out.lt
                  simp at h
                  omega
              have HG6 : Hid (Grows w0 w6) := HGa.out.mark G7.out (fun k hk => (HOa.out.lt k hk).1)
              clear HGB HNE t0 t1 t2 t3 hboa
              go_wp2
              go_roundw
              case rel => exact ⟨j + 1, K2 ++ [x], _, by omega, by go_num, HV, by simp; omega, HO6.out.setFar HN6.out _, HX6.out.set_ _, HN6.out, HG6.out.setCell (by simp) _⟩
              case measure => simp [intOf]; omega
        · have HJM : Hid (j = n) := (by omega : j = n)
          have h1 := (XR.out.keep HG.out).cell
          have h2 := (XR.out.keep HG.out).free
          have HR : Hid (K2 = patchR xs bs) := by unfold Hid patchR; rw [HK.out, HJM.out, ← HN.out, List.take_length]
          have HN9 : Hid (v.ownBlock ≠ some (w.heap.size + 1 + 1)) := fun e => by have := (HO.out.lt _ e).1; omega
          subst hv9
          go_wp2
          refine bodyPost_ret (v := .agg #[.slice A9 n9 c9]) (by simp [results, Tryd.results18, go_sem, h1]) rfl ?_
          rw [← HR.out]
          exact ⟨_, rfl, (HO.out.setFar HN9.out _).less (by omega), HGW.out.setCell (by simp; omega) _⟩
end Go.Proofs.YtkjoolmhcfajnaaDoor
namespace Go.Proofs.YtkjoolmhcfajnaaDoor
open Go.RowKit

set_option maxRecDepth 100000 in
set_option maxHeartbeats 4000000 in
theorem specPatYes_any (A : Option Addr) (c : Nat) (xs : List Ent) (B : Option Addr) (d : Nat) (bs : List Ent) (w : World) (hc0 : xs.length ≤ c) (hd0 : bs.length ≤ d) (hf : EFit xs) (hA : EntsAt w A xs) (hg : EFit bs) (hB : EntsAt w B bs) (hv : vflat xs = true) (hu : vflat bs = true) :
    Calls Tryd.prog 6 #[.agg #[.slice A xs.length c], .agg #[.slice B bs.length d]] w (ResEB (patchL xs bs) (patchB xs bs) w) := by
  have HI := Lib.hid (fun w1 (g : Grows w w1) => specFlat0_any A c xs w1 hc0 hf (hA.keep g))
  have HJ := Lib.hid (fun w1 (g : Grows w w1) => specFlat0_any B d bs w1 hd0 hg (hB.keep g))
  have HMG := Lib.hid (fun w1 (g : Grows w w1) => specPatch_any A c xs B d bs w1 hv hu (hA.keep g) (hB.keep g))
  have HFR : Hid (EFit (patchR xs bs)) := patchR_fit (vflat_vlayer hv) (vflat_vlayer hu)
  have HPE : Hid (patchL xs bs = chkE (patchR xs bs) ∧ patchB xs bs = vlayer (patchR xs bs)) := patchL_yes hv hu
  rw [hv] at HI
  rw [hu] at HJ
  unfold ResE at HMG
  clear hA hB hf hg hv hu hc0 hd0
  obtain ⟨m, hmm⟩ : ∃ m, xs.length = m := ⟨_, rfl⟩
  obtain ⟨n, hnn⟩ : ∃ n, bs.length = n := ⟨_, rfl⟩
  rw [hmm] at HI HMG ⊢
  rw [hnn] at HJ HMG ⊢
  clear hmm hnn
  go_enter Tryd.func6, Tryd.ntmps6
  go_upto_region 1 with (fail)
  have XA : Hid (Box (((w.alloc (.cells #[.slice A m c] 25)).alloc (.cells #[.slice B n d] 25)).alloc (.cells #[.slice none 0 0] 25)) w.heap.size (.slice A m c) 25) := row_grow (row_grow (heap_alloc_new w _) ((Grows.refl _).alloc _)) ((Grows.refl _).alloc _)
  have XB : Hid (Box (((w.alloc (.cells #[.slice A m c] 25)).alloc (.cells #[.slice B n d] 25)).alloc (.cells #[.slice none 0 0] 25)) (w.heap.size + 1) (.slice B n d) 25) := row_grow (alloc_new2 w _ _) ((Grows.refl _).alloc _)
  have XR : Hid (Box (((w.alloc (.cells #[.slice A m c] 25)).alloc (.cells #[.slice B n d] 25)).alloc (.cells #[.slice none 0 0] 25)) (w.heap.size + 1 + 1) (.slice none 0 0) 25) := alloc_new3 w _ _ _
  have G0 : Hid (Grows w (((w.alloc (.cells #[.slice A m c] 25)).alloc (.cells #[.slice B n d] 25)).alloc (.cells #[.slice none 0 0] 25))) := (((Grows.refl w).alloc _).alloc _).alloc _
  obtain ⟨w0, hw0⟩ : ∃ w0, ((w.alloc (.cells #[.slice A m c] 25)).alloc (.cells #[.slice B n d] 25)).alloc (.cells #[.slice none 0 0] 25) = w0 := ⟨_, rfl⟩
  rw [hw0] at XA XB XR G0 ⊢
  clear hw0
  have S0 : w.heap.size + 1 + 1 < w0.heap.size := XR.out.lt
  have cA := XA.out.cell
  go_wp2_with fail
  refine (HI.out _ G0.out).mono ?_
  rintro r w1 ⟨rfl, g1⟩
  have G1 : Hid (Grows w w1) := G0.out.trans g1
  have XA1 := Lib.hid (XA.out.keep g1)
  have XB1 := Lib.hid (XB.out.keep g1)
  have XR1 := Lib.hid (XR.out.keep g1)
  have S1 : w0.heap.size ≤ w1.heap.size := g1.size
  clear g1 cA XA XB XR
  have cB := XB1.out.cell
  go_wp2_with fail
  refine (HJ.out _ G1.out).mono ?_
  rintro r w2 ⟨rfl, g2⟩
  have G2 : Hid (Grows w w2) := G1.out.trans g2
  have XA2 := Lib.hid (XA1.out.keep g2)
  have XB2 := Lib.hid (XB1.out.keep g2)
  have XR2 := Lib.hid (XR1.out.keep g2)
  have S2 : w1.heap.size ≤ w2.heap.size := g2.size
  clear g2 cB XA1 XB1 XR1 HI HJ
  have cA := XA2.out.cell
  have cB := XB2.out.cell
  go_wp2_with fail
  refine (HMG.out _ G2.out).mono ?_
  rintro r w3 ⟨v, rfl, hv, g3⟩
  have G3 : Hid (Grows w w3) := G2.out.trans g3
  have XR3 := Lib.hid (XR2.out.keep g3)
  obtain ⟨A5, c5, hv5, hcap, hE5⟩ := OwnE.formC hv
  subst hv5
  have HO3 := Lib.hid hv
  have HL := Lib.hid (fun w1 (g : Grows w3 w1) => specLayer_any A5 c5 (patchR xs bs) w1 hcap HFR.out (hE5.keep g))
  obtain ⟨β, hβ⟩ : ∃ β, vlayer (patchR xs bs) = β := ⟨_, rfl⟩
  have HCK : Hid (chkE (patchR xs bs) = if β = true then patchR xs bs else []) := by unfold Hid chkE; rw [hβ]
  rw [hβ] at HPE HL
  obtain ⟨n5, hn5⟩ : ∃ n5, (patchR xs bs).length = n5 := ⟨_, rfl⟩
  rw [hn5] at HO3 HL ⊢
  clear g3 cA cB XA2 XB2 hv hcap hE5 hβ hn5 HMG
  have X6 : Hid (Box (w3.alloc (.cells #[.slice A5 n5 c5] 25)) w3.heap.size (.slice A5 n5 c5) 25) := Box.new _ _ _
  go_wp2_with fail
  refine (HL.out _ ((Grows.refl _).alloc _)).mono ?_
  rintro r w5 ⟨rfl, g5⟩
  have G5 : Hid (Grows w w5) := (G3.out.alloc _).trans g5
  have X65 := Lib.hid (X6.out.keep g5)
  have XR5 := Lib.hid ((XR3.out.keep ((Grows.refl _).alloc _)).keep g5)
  have HO5 := Lib.hid ((HO3.out.keep ((Grows.refl _).alloc _)).keep g5)
  clear g5
  have c6 := X65.out.cell
  have h1 := XR5.out.cell
  have h2 := XR5.out.free
  rcases β with _ | _
  · go_wp2
    refine bodyPost_ret (v := .tuple #[.agg #[.slice none 0 0], .bool false]) (by simp [results, Tryd.results6, go_sem, h1]) rfl ?_
    rw [HPE.out.1, HPE.out.2, show chkE (patchR xs bs) = [] from by rw [HCK.out]; simp]
    exact ⟨_, rfl, OwnE.nil _ _, G5.out.setCell (show w.heap.size ≤ w.heap.size + 1 + 1 by omega) _⟩
  · go_wp2
    refine bodyPost_ret (v := .tuple #[.agg #[.slice A5 n5 c5], .bool true]) (by simp [results, Tryd.results6, go_sem, h1]) rfl ?_
    rw [HPE.out.1, HPE.out.2, show chkE (patchR xs bs) = patchR xs bs from by rw [HCK.out]; simp]
    exact ⟨_, rfl, (HO5.out.setOther (by omega) _).less (by omega), G5.out.setCell (show w.heap.size ≤ w.heap.size + 1 + 1 by omega) _⟩

set_option maxRecDepth 100000 in
set_option maxHeartbeats 4000000 in
theorem specPat_any (A : Option Addr) (c : Nat) (xs : List Ent) (B : Option Addr) (d : Nat) (bs : List Ent) (w : World) (HC0 : xs.length ≤ c) (HD0 : bs.length ≤ d) (hf : EFit xs) (hA : EntsAt w A xs) (hg : EFit bs) (hB : EntsAt w B bs) :
    Calls Tryd.prog 6 #[.agg #[.slice A xs.length c], .agg #[.slice B bs.length d]] w (ResEB (patchL xs bs) (patchB xs bs) w) := by
  have hc0 := HC0
  have hd0 := HD0
  have HI := Lib.hid (fun w1 (g : Grows w w1) => specFlat0_any A c xs w1 hc0 hf (hA.keep g))
  have HJ := Lib.hid (fun w1 (g : Grows w w1) => specFlat0_any B d bs w1 hd0 hg (hB.keep g))
  by_cases hv : vflat xs = true
  · by_cases hu : vflat bs = true
    · exact specPatYes_any A c xs B d bs w hc0 hd0 hf hA hg hB hv hu
    · have hu' : vflat bs = false := by simpa using hu
      have HPE : Hid (patchL xs bs = [] ∧ patchB xs bs = false) := patchL_no2 hu'
      rw [hv] at HI
      rw [hu'] at HJ
      clear hA hf hv hu hu' hB hg hc0 hd0
      obtain ⟨m, hmm⟩ : ∃ m, xs.length = m := ⟨_, rfl⟩
      obtain ⟨n, hnn⟩ : ∃ n, bs.length = n := ⟨_, rfl⟩
      rw [hmm] at HI ⊢
      rw [hnn] at HJ ⊢
      clear hmm hnn
      go_enter Tryd.func6, Tryd.ntmps6
      go_upto_region 1 with (fail)
      have XA : Hid (Box (((w.alloc (.cells #[.slice A m c] 25)).alloc (.cells #[.slice B n d] 25)).alloc (.cells #[.slice none 0 0] 25)) w.heap.size (.slice A m c) 25) := row_grow (row_grow (heap_alloc_new w _) ((Grows.refl _).alloc _)) ((Grows.refl _).alloc _)
      have XB : Hid (Box (((w.alloc (.cells #[.slice A m c] 25)).alloc (.cells #[.slice B n d] 25)).alloc (.cells #[.slice none 0 0] 25)) (w.heap.size + 1) (.slice B n d) 25) := row_grow (alloc_new2 w _ _) ((Grows.refl _).alloc _)
      have XR : Hid (Box (((w.alloc (.cells #[.slice A m c] 25)).alloc (.cells #[.slice B n d] 25)).alloc (.cells #[.slice none 0 0] 25)) (w.heap.size + 1 + 1) (.slice none 0 0) 25) := alloc_new3 w _ _ _
      have G0 : Hid (Grows w (((w.alloc (.cells #[.slice A m c] 25)).alloc (.cells #[.slice B n d] 25)).alloc (.cells #[.slice none 0 0] 25))) := (((Grows.refl w).alloc _).alloc _).alloc _
      obtain ⟨w0, hw0⟩ : ∃ w0, ((w.alloc (.cells #[.slice A m c] 25)).alloc (.cells #[.slice B n d] 25)).alloc (.cells #[.slice none 0 0] 25) = w0 := ⟨_, rfl⟩
      rw [hw0] at XA XB XR G0 ⊢
      clear hw0
      have S0 : w.heap.size + 1 + 1 < w0.heap.size := XR.out.lt
      have cA := XA.out.cell
      go_wp2_with fail
      refine (HI.out _ G0.out).mono ?_
      rintro r w1 ⟨rfl, g1⟩
      have G1 : Hid (Grows w w1) := G0.out.trans g1
      have XB1 := Lib.hid (XB.out.keep g1)
      have XR1 := Lib.hid (XR.out.keep g1)
      clear g1 cA XA XB XR
      have cB := XB1.out.cell
      go_wp2_with fail
      refine (HJ.out _ G1.out).mono ?_
      rintro r w2 ⟨rfl, g2⟩
      have G2 : Hid (Grows w w2) := G1.out.trans g2
      have XR2 := Lib.hid (XR1.out.keep g2)
      clear g2 cB XB1 XR1
      have h1 := XR2.out.cell
      have h2 := XR2.out.free
      go_wp2
      refine bodyPost_ret (v := .tuple #[.agg #[.slice none 0 0], .bool false]) (by simp [results, Tryd.results6, go_sem, h1]) rfl ?_
      rw [HPE.out.1, HPE.out.2]
      exact ⟨_, rfl, OwnE.nil _ _, G2.out.setCell (show w.heap.size ≤ w.heap.size + 1 + 1 by omega) _⟩
  · have hv' : vflat xs = false := by simpa using hv
    have HPE : Hid (patchL xs bs = [] ∧ patchB xs bs = false) := patchL_no1 hv'
    rw [hv'] at HI
    clear hA hf hv hv' hB hg hc0 hd0 HJ
    obtain ⟨m, hmm⟩ : ∃ m, xs.length = m := ⟨_, rfl⟩
    obtain ⟨n, hnn⟩ : ∃ n, bs.length = n := ⟨_, rfl⟩
    rw [hmm] at HI ⊢
    rw [hnn]
    clear hmm hnn
    go_enter Tryd.func6, Tryd.ntmps6
    go_upto_region 1 with (fail)
    have XA : Hid (Box (((w.alloc (.cells #[.slice A m c] 25)).alloc (.cells #[.slice B n d] 25)).alloc (.cells #[.slice none 0 0] 25)) w.heap.size (.slice A m c) 25) := row_grow (row_grow (heap_alloc_new w _) ((Grows.refl _).alloc _)) ((Grows.refl _).alloc _)
    have XB : Hid (Box (((w.alloc (.cells #[.slice A m c] 25)).alloc (.cells #[.slice B n d] 25)).alloc (.cells #[.slice none 0 0] 25)) (w.heap.size + 1) (.slice B n d) 25) := row_grow (alloc_new2 w _ _) ((Grows.refl _).alloc _)
    have XR : Hid (Box (((w.alloc (.cells #[.slice A m c] 25)).alloc (.cells #[.slice B n d] 25)).alloc (.cells #[.slice none 0 0] 25)) (w.heap.size + 1 + 1) (.slice none 0 0) 25) := alloc_new3 w _ _ _
    have G0 : Hid (Grows w (((w.alloc (.cells #[.slice A m c] 25)).alloc (.cells #[.slice B n d] 25)).alloc (.cells #[.slice none 0 0] 25))) := (((Grows.refl w).alloc _).alloc _).alloc _
    obtain ⟨w0, hw0⟩ : ∃ w0, ((w.alloc (.cells #[.slice A m c] 25)).alloc (.cells #[.slice B n d] 25)).alloc (.cells #[.slice none 0 0] 25) = w0 := ⟨_, rfl⟩
    rw [hw0] at XA XB XR G0 ⊢
    clear hw0
    have S0 : w.heap.size + 1 + 1 < w0.heap.size := XR.out.lt
    have cA := XA.out.cell
    go_wp2_with fail
    refine (HI.out _ G0.out).mono ?_
    rintro r w1 ⟨rfl, g1⟩
    have G1 : Hid (Grows w w1) := G0.out.trans g1
    have XR1 := Lib.hid (XR.out.keep g1)
    clear g1 cA XA XB XR
    have h1 := XR1.out.cell
    have h2 := XR1.out.free
    go_wp2
    refine bodyPost_ret (v := .tuple #[.agg #[.slice none 0 0], .bool false]) (by simp [results, Tryd.results6, go_sem, h1]) rfl ?_
    rw [HPE.out.1, HPE.out.2]
    exact ⟨_, rfl, OwnE.nil _ _, G1.out.setCell (show w.heap.size ≤ w.heap.size + 1 + 1 by omega) _⟩
end Go.Proofs.YtkjoolmhcfajnaaDoor
namespace Go.Proofs.YtkjoolmhcfajnaaDoor
open Go.RowKit

theorem fit104 {K : List Ent} (h : ShortE K) (hK : K.length ≤ 104) : EFit K := by
  refine ⟨by omega, fun i hi => ?_⟩
  obtain ⟨h1, h2, h3, _⟩ := h K[i] (List.getElem_mem hi)
  exact ⟨by omega, by omega, by omega⟩
theorem patchL_fit (xs bs : List Ent) : EFit (patchL xs bs) := by
  unfold patchL
  split
  · rename_i h
    unfold chkE
    split
    · exact patchR_fit (vflat_vlayer h.1) (vflat_vlayer h.2)
    · exact ⟨Nat.zero_le _, fun _ h => absurd h (Nat.not_lt_zero _)⟩
  · exact ⟨Nat.zero_le _, fun _ h => absurd h (Nat.not_lt_zero _)⟩
theorem implPatP_own (v u : Value) (b1 b2 : Nat) (xs bs : List Ent) (w : World) (hf : EFit xs) (hg : EFit bs) (h1 : OwnE w b1 v xs) (h2 : OwnE w b2 u bs) :
    Calls Tryd.prog 5 #[.agg #[v], .agg #[u]] w (ResEB (patchL xs bs) (patchB xs bs) w) := by
  obtain ⟨A, c, rfl, hc, hA⟩ := h1.formC
  obtain ⟨B, d, rfl, hd, hB⟩ := h2.formC
  exact implPat_any A c xs B d bs w hc hd hf hA hg hB
theorem specPatP_own (v u : Value) (b1 b2 : Nat) (xs bs : List Ent) (w : World) (hf : EFit xs) (hg : EFit bs) (h1 : OwnE w b1 v xs) (h2 : OwnE w b2 u bs) :
    Calls Tryd.prog 6 #[.agg #[v], .agg #[u]] w (ResEB (patchL xs bs) (patchB xs bs) w) := by
  obtain ⟨A, c, rfl, hc, hA⟩ := h1.formC
  obtain ⟨B, d, rfl, hd, hB⟩ := h2.formC
  exact specPat_any A c xs B d bs w hc hd hf hA hg hB
theorem implSameP_own (v u : Value) (b1 b2 : Nat) (xs bs : List Ent) (w : World) (hf : EFit xs) (hg : EFit bs) (h1 : OwnE w b1 v xs) (h2 : OwnE w b2 u bs) :
    Calls Tryd.prog 10 #[.agg #[v], .agg #[u]] w fun e w' => e = .returned (.bool (sameL xs bs)) ∧ Grows w w' := by
  obtain ⟨A, c, rfl, hc, hA⟩ := h1.formC
  obtain ⟨B, d, rfl, hd, hB⟩ := h2.formC
  exact implSame_any A c xs B d bs w hf hA hg hB
theorem implCntO_own (v u : Value) (b1 b2 : Nat) (xs bs : List Ent) (w : World) (hf : EFit xs) (hg : EFit bs) (h1 : OwnE w b1 v xs) (h2 : OwnE w b2 u bs) :
    Calls Tryd.prog 11 #[.agg #[v], .agg #[u]] w (CntRet xs bs w) := by
  obtain ⟨A, c, rfl, hc, hA⟩ := h1.formC
  obtain ⟨B, d, rfl, hd, hB⟩ := h2.formC
  exact implCnt_any A c xs B d bs w hc hd hf hA hg hB
theorem chg_law3 {K L : List Ent} (h : ¬ chgN K L 0 < 0) : chgN L K 0 = chgN K L 1 ∧ chgN L K 1 = chgN K L 0 ∧ chgN L K 2 = chgN K L 2 ∧ (chgN K L 0 + chgN K L 1 + chgN K L 2 == 0) = sameL K L ∧ (L.length : Int) = (K.length : Int) + chgN K L 0 - chgN K L 1 ∧ (0 ≤ chgN K L 0 ∧ chgN K L 0 ≤ (K.length : Int) + (L.length : Int)) ∧ (0 ≤ chgN K L 1 ∧ chgN K L 1 ≤ (K.length : Int) + (L.length : Int)) ∧ (0 ≤ chgN K L 2 ∧ chgN K L 2 ≤ (K.length : Int) + (L.length : Int)) := by
  obtain ⟨a, b, c, d, e, f⟩ := chg_law h
  exact ⟨a, b, c, d, e, f 0, f 1, f 2⟩
theorem cutW_fit {P : List Ent} (h : EFit P) (s k : ByteArray) : EFit (cutL P s k) := by
  unfold cutL
  split
  · refine ⟨Nat.le_trans (List.length_filter_le _ _) h.1, fun i hi => ?_⟩
    have hm := (List.mem_filter.1 (List.getElem_mem hi)).1
    obtain ⟨j, hj, he⟩ := List.mem_iff_getElem.1 hm
    rw [← he]
    exact h.2 j hj
  · exact ⟨Nat.zero_le _, fun _ h => absurd h (Nat.not_lt_zero _)⟩
def DPa (w : World) (e : Ending) (w' : World) : Prop := ∃ (v : Value) (K : List Ent) (u : Value) (L : List Ent), e = .returned (.tuple #[.agg #[v], .agg #[u]]) ∧ (ShortE K ∧ K.length ≤ 101) ∧ (ShortE L ∧ L.length ≤ 104) ∧ OwnE w' w.heap.size v K ∧ OwnE w' w.heap.size u L ∧ Grows w w'
set_option maxRecDepth 100000 in
set_option maxHeartbeats 8000000 in
theorem DrawPatchLayers_any (A : Option Addr) (n c : Nat) (w : World) (hn : n ≤ maxLen) (hc : n ≤ c) (h : BytesAt w A n) :
    Calls Tryd.prog 4 #[.slice A n c] w (DPa w) := by
  have HB := Lib.hid (fun o o2 => h.keep (((Grows.refl w).alloc o).alloc o2))
  clear h
  go_enter Tryd.func4, Tryd.ntmps4
  go_wp2_with fail
  refine (newReader_any A n c _ hn hc (HB.out _ _)).mono ?_
  rintro e w1 ⟨A1, n1, c1, g, rfl, hn1, hg, r1, k1⟩
  have hgw : w.heap.size + 1 < g := by simp at hg; omega
  have Z1 : Hid (Box w1 w.heap.size (.slice none 0 0) 25) := row_grow (row_grow (heap_alloc_new w _) ((Grows.refl _).alloc _)) k1
  have V1 : Hid (Box w1 (w.heap.size + 1) (.slice none 0 0) 25) := row_grow (alloc_new2 w _ _) k1
  have R1 := Lib.hid r1
  have G1 : Hid (Grows w w1) := (((Grows.refl w).alloc _).alloc _).trans k1
  have S1 : w.heap.size + 1 < w1.heap.size := V1.out.lt
  clear r1 k1 hg HB
  go_wp2_with fail
  refine (twoFlats_any g A1 n1 c1 0 _ (by omega) hn1 R1.out).mono ?_
  rintro e w3 ⟨v, K, u, L, rfl, ⟨hS, hK⟩, ⟨hT, hL⟩, hO, hP, k3⟩
  have Z3 : Hid (Box w3 w.heap.size (.slice none 0 0) 25) := row_keep Z1.out k3 (by omega)
  have V3 : Hid (Box w3 (w.heap.size + 1) (.slice none 0 0) 25) := row_keep V1.out k3 (by omega)
  have O3 : Hid (OwnE w3 (w.heap.size + 2) v K) := hO.less (by omega)
  have P3 : Hid (OwnE w3 (w.heap.size + 2) u L) := hP.less (by omega)
  have G3 : Hid (Grows w w3) := G1.out.mark k3 (fun i hi => by injection hi with hi; omega)
  have SS := Lib.hid hS
  have ST := Lib.hid hT
  obtain ⟨A9, n9, c9, rfl⟩ := O3.out.form3
  obtain ⟨A8, n8, c8, rfl⟩ := P3.out.form3
  clear hS hT hO hP k3 Z1 V1 R1 G1
  have z0 := Z3.out.cell
  have zf := Z3.out.free
  have v0 := V3.out.cell
  have vf := V3.out.free
  have HN0 : Hid ((Value.slice A9 n9 c9).ownBlock ≠ some w.heap.size) := fun e => by have := (O3.out.lt _ e).1; omega
  have HN1 : Hid ((Value.slice A9 n9 c9).ownBlock ≠ some (w.heap.size + 1)) := fun e => by have := (O3.out.lt _ e).1; omega
  have HM0 : Hid ((Value.slice A8 n8 c8).ownBlock ≠ some w.heap.size) := fun e => by have := (P3.out.lt _ e).1; omega
  have HM1 : Hid ((Value.slice A8 n8 c8).ownBlock ≠ some (w.heap.size + 1)) := fun e => by have := (P3.out.lt _ e).1; omega
  have F0 : Hid (Box ((w3.setCell ⟨w.heap.size, 0, none⟩ (.slice A9 n9 c9)).setCell ⟨w.heap.size + 1, 0, none⟩ (.slice A8 n8 c8)) w.heap.size (.slice A9 n9 c9) 25) := Box.far (row := some (w.heap.size + 1)) (Z3.out.set_ _) (gb_set (World.grownBy.refl _ _) _ _) (by intro e; injection e with e; omega)
  have F1 : Hid (Box ((w3.setCell ⟨w.heap.size, 0, none⟩ (.slice A9 n9 c9)).setCell ⟨w.heap.size + 1, 0, none⟩ (.slice A8 n8 c8)) (w.heap.size + 1) (.slice A8 n8 c8) 25) := Box.set_ (Box.far (row := some w.heap.size) V3.out (gb_set (World.grownBy.refl _ _) _ _) (by intro e; injection e with e; omega)) _
  have F2 := Lib.hid (((O3.out.setFar (i := 0) HN0.out (.slice A9 n9 c9)).setFar (i := 0) HN1.out (.slice A8 n8 c8)).less (show w.heap.size ≤ w.heap.size + 2 by omega))
  have F3 := Lib.hid (((P3.out.setFar (i := 0) HM0.out (.slice A9 n9 c9)).setFar (i := 0) HM1.out (.slice A8 n8 c8)).less (show w.heap.size ≤ w.heap.size + 2 by omega))
  have F4 : Hid (Grows w ((w3.setCell ⟨w.heap.size, 0, none⟩ (.slice A9 n9 c9)).setCell ⟨w.heap.size + 1, 0, none⟩ (.slice A8 n8 c8))) := (G3.out.setCell (Nat.le_refl _) _).setCell (show w.heap.size ≤ w.heap.size + 1 by omega) _
  go_wp2
  obtain ⟨wf, hwf⟩ : ∃ wf, (w3.setCell ⟨w.heap.size, 0, none⟩ (.slice A9 n9 c9)).setCell ⟨w.heap.size + 1, 0, none⟩ (.slice A8 n8 c8) = wf := ⟨_, rfl⟩
  rw [hwf] at F0 F1 F2 F3 F4 ⊢
  clear hwf z0 zf v0 vf
  have p0 := F0.out.cell
  have p1 := F1.out.cell
  refine bodyPost_ret (v := .tuple #[.agg #[.slice A9 n9 c9], .agg #[.slice A8 n8 c8]]) (by simp [results, Tryd.results4, go_sem, p0, p1]) rfl ?_
  exact ⟨_, K, _, L, rfl, ⟨SS.out, hK⟩, ⟨ST.out, hL⟩, F2.out, F3.out, F4.out⟩
set_option maxRecDepth 100000 in
set_option maxHeartbeats 8000000 in
theorem dFew_any (A : Option Addr) (n c : Nat) (w : World) (hn : n ≤ maxLen) (hc : n ≤ c) (h : BytesAt w A n) :
    Calls Tryd.prog 3 #[.slice A n c] w fun e w' => e = .returned (.bool true) ∧ Below w.heap.size w w' := by
  by_cases hbig : 1048576 < n
  · clear h
    unfold maxLen at hn
    go_enter Tryd.func3, Tryd.ntmps3
    go_wp2
    go_ret
    exact ⟨rfl, (Grows.refl _).below⟩
  · have HD := Lib.hid (DrawPatchLayers_any A n c w hn hc h)
    clear h
    unfold maxLen at hn
    go_enter Tryd.func3, Tryd.ntmps3
    go_wp2_with fail
    refine (HD.out).mono ?_
    rintro e w1 ⟨v, K, u, L, rfl, ⟨hS, hK⟩, ⟨hT, hL⟩, hO, hQ, g1⟩
    obtain ⟨A0, n0, c0, rfl⟩ := hO.form3
    obtain ⟨B0, d0, e0, rfl⟩ := hQ.form3
    have hf := hS.fit hK
    have hg := fit104 hT hL
    have hlK : n0 = K.length := hO.at_.1
    have hlL : d0 = L.length := hQ.at_.1
    have HFW := Lib.hid (fun (h : patchB K L = true) e he => few_law (H := K) (W := L) (e := e) h he)
    have HFN := Lib.hid (fun (h : patchB K L = true) => few_len h)
    have HBN := Lib.hid (fun h => (chg_law3 (K := K) (L := L) h).2.2.2.2.2)
    have hfP := patchL_fit K L
    have HFC := Lib.hid (fun s k => cutW_fit hfP s k)
    obtain ⟨P, hP⟩ : ∃ P, patchL K L = P := ⟨_, rfl⟩
    obtain ⟨β, hβ⟩ : ∃ β, patchB K L = β := ⟨_, rfl⟩
    rw [hP] at HFW HFN hfP HFC
    rw [hβ] at HFW HFN
    have HM1 := Lib.hid (fun (v u : Value) (b1 b2 : Nat) (w2 : World) (h1 : OwnE w2 b1 v K) (h2 : OwnE w2 b2 u L) => implPatP_own v u b1 b2 K L w2 hf hg h1 h2)
    have HM2 := Lib.hid (fun (v u : Value) (b1 b2 : Nat) (w2 : World) (h1 : OwnE w2 b1 v K) (h2 : OwnE w2 b2 u L) => specPatP_own v u b1 b2 K L w2 hf hg h1 h2)
    have HFL := Lib.hid (fun (X : List Ent) (hx : EFit X) (v u : Value) (b d g : Nat) (w2 : World) (h1 : OwnE w2 b v X) (h2 : OwnE w2 d u K) (hc : w2.cell? ⟨g, 0, none⟩ = some v) (hd : w2.cell? ⟨g, 1, none⟩ = some u) (hg2 : g < w2.heap.size) => implFlatten2_own v u b d g X K w2 hx hf h1 h2 hc hd hg2)
    have HSM := Lib.hid (fun (X : List Ent) (hx : EFit X) (v u : Value) (b1 b2 : Nat) (w2 : World) (h1 : OwnE w2 b1 v X) (h2 : OwnE w2 b2 u L) => implSameP_own v u b1 b2 X L w2 hx hg h1 h2)
    have HCN := Lib.hid (fun (v u : Value) (b1 b2 : Nat) (w2 : World) (h1 : OwnE w2 b1 v K) (h2 : OwnE w2 b2 u L) => implCntO_own v u b1 b2 K L w2 hf hg h1 h2)
    have HCI := Lib.hid (fun (A : Option Addr) (c : Nat) (s' k' : ByteArray) w2 (h : EntsAt w2 A P) => implCut_any A c P s' k' w2 hfP h)
    unfold ResEB at HM1 HM2 HFL HCI
    unfold CntRet at HCN
    obtain ⟨r0, hr0⟩ : ∃ r, chgN K L 0 = r := ⟨_, rfl⟩
    obtain ⟨r1, hr1⟩ : ∃ r, chgN K L 1 = r := ⟨_, rfl⟩
    obtain ⟨r2, hr2⟩ : ∃ r, chgN K L 2 = r := ⟨_, rfl⟩
    rw [hr0, hr1, hr2] at HCN HFN HBN
    rw [hP, hβ] at HM1 HM2
    rw [← hlK, ← hlL] at HBN
    rw [← hlK] at hK
    rw [← hlL] at hL
    have hP20 : P.length ≤ 1048576 := hfP.1
    have O0_1 := Lib.hid hO
    have L0_1 := Lib.hid hQ
    have T1 : Hid (Grows w1 w1) := Grows.refl _
    have HG1 := Lib.hid g1
    clear hS hT hO hQ g1 hf hg HD hfP hP hβ hr0 hr1 hr2 hlK hlL
    go_upto_region 4 with (fail)
    obtain ⟨w2, hw2⟩ : ∃ w', w1.alloc (.cells #[.slice A0 n0 c0] 25) = w' := ⟨_, rfl⟩
    have X3_2 : Hid (Box w2 w1.heap.size (.slice A0 n0 c0) 25) := hw2 ▸ heap_alloc_new w1 _
    have gq : Grows w1 w2 := hw2 ▸ (Grows.refl w1).alloc _
    have hs2 : w2.heap.size = w1.heap.size + 1 := by rw [← hw2]; exact World.size_alloc _ _
    have T2 : Hid (Grows w1 w2) := T1.out.trans gq
    have O0_2 := Lib.hid (O0_1.out.keep gq)
    have L0_2 := Lib.hid (L0_1.out.keep gq)
    clear O0_1 L0_1 T1
    clear gq
    obtain ⟨w3, hw3⟩ : ∃ w', w2.alloc (.cells #[.slice B0 d0 e0] 25) = w' := ⟨_, rfl⟩
    have X4_3 : Hid (Box w3 w2.heap.size (.slice B0 d0 e0) 25) := hw3 ▸ heap_alloc_new w2 _
    have gq : Grows w2 w3 := hw3 ▸ (Grows.refl w2).alloc _
    have T3 : Hid (Grows w1 w3) := T2.out.trans gq
    have O0_3 := Lib.hid (O0_2.out.keep gq)
    have L0_3 := Lib.hid (L0_2.out.keep gq)
    have X3_3 := Lib.hid (X3_2.out.keep gq)
    clear O0_2 L0_2 X3_2 T2
    clear gq
    rw [hw2, hw3]
    rw [hs2] at X4_3
    clear hw2 hw3 hs2
    have cX3 := X3_3.out.cell
    have cX4 := X4_3.out.cell
    go_wp2_with fail
    refine (HM1.out _ _ _ _ _ O0_3.out L0_3.out).mono ?_
    rintro e w4 ⟨u, rfl, hu, gq⟩
    clear cX3
    clear cX4
    have T4 : Hid (Grows w1 w4) := T3.out.trans gq
    have O0_4 := Lib.hid (O0_3.out.keep gq)
    have L0_4 := Lib.hid (L0_3.out.keep gq)
    have X3_4 := Lib.hid (X3_3.out.keep gq)
    have X4_4 := Lib.hid (X4_3.out.keep gq)
    clear O0_3 L0_3 X3_3 X4_3 T3
    clear gq
    obtain ⟨AO4, nO4, cO4, hu'⟩ := OwnE.form3 hu
    subst hu'
    have O4_4 := Lib.hid hu
    clear hu
    go_upto_region 5 with (fail)
    have X5_5 : Hid (Box (w4.alloc (.cells #[(.slice AO4 nO4 cO4)] 25)) w4.heap.size (.slice AO4 nO4 cO4) 25) := heap_alloc_new w4 _
    have gq : Grows w4 (w4.alloc (.cells #[(.slice AO4 nO4 cO4)] 25)) := (Grows.refl _).alloc _
    obtain ⟨w5, hw5⟩ : ∃ w', (w4.alloc (.cells #[(.slice AO4 nO4 cO4)] 25)) = w' := ⟨_, rfl⟩
    rw [hw5] at X5_5 gq ⊢
    clear hw5
    have T5 : Hid (Grows w1 w5) := T4.out.trans gq
    have O0_5 := Lib.hid (O0_4.out.keep gq)
    have L0_5 := Lib.hid (L0_4.out.keep gq)
    have X3_5 := Lib.hid (X3_4.out.keep gq)
    have X4_5 := Lib.hid (X4_4.out.keep gq)
    have O4_5 := Lib.hid (O4_4.out.keep gq)
    clear O0_4 L0_4 X3_4 X4_4 O4_4 T4
    clear gq
    obtain ⟨b_X5, hbb⟩ : ∃ b, w4.heap.size = b := ⟨_, rfl⟩
    rw [hbb] at X5_5 ⊢
    clear hbb
    have cX3 := X3_5.out.cell
    have cX4 := X4_5.out.cell
    go_wp2_with fail
    refine (HM2.out _ _ _ _ _ O0_5.out L0_5.out).mono ?_
    rintro e w6 ⟨u, rfl, hu, gq⟩
    clear cX3
    clear cX4
    have T6 : Hid (Grows w1 w6) := T5.out.trans gq
    have O0_6 := Lib.hid (O0_5.out.keep gq)
    have L0_6 := Lib.hid (L0_5.out.keep gq)
    have X3_6 := Lib.hid (X3_5.out.keep gq)
    have X4_6 := Lib.hid (X4_5.out.keep gq)
    have O4_6 := Lib.hid (O4_5.out.keep gq)
    have X5_6 := Lib.hid (X5_5.out.keep gq)
    clear O0_5 L0_5 X3_5 X4_5 O4_5 X5_5 T5
    clear gq
    obtain ⟨AO5, nO5, cO5, hu'⟩ := OwnE.form3 hu
    subst hu'
    have O5_6 := Lib.hid hu
    clear hu
    go_upto_region 6 with (fail)
    have X7_7 : Hid (Box (w6.alloc (.cells #[(.slice AO5 nO5 cO5)] 25)) w6.heap.size (.slice AO5 nO5 cO5) 25) := heap_alloc_new w6 _
    have gq : Grows w6 (w6.alloc (.cells #[(.slice AO5 nO5 cO5)] 25)) := (Grows.refl _).alloc _
    obtain ⟨w7, hw7⟩ : ∃ w', (w6.alloc (.cells #[(.slice AO5 nO5 cO5)] 25)) = w' := ⟨_, rfl⟩
    rw [hw7] at X7_7 gq ⊢
    clear hw7
    have T7 : Hid (Grows w1 w7) := T6.out.trans gq
    have O0_7 := Lib.hid (O0_6.out.keep gq)
    have L0_7 := Lib.hid (L0_6.out.keep gq)
    have X3_7 := Lib.hid (X3_6.out.keep gq)
    have X4_7 := Lib.hid (X4_6.out.keep gq)
    have O4_7 := Lib.hid (O4_6.out.keep gq)
    have X5_7 := Lib.hid (X5_6.out.keep gq)
    have O5_7 := Lib.hid (O5_6.out.keep gq)
    clear O0_6 L0_6 X3_6 X4_6 O4_6 X5_6 O5_6 T6
    clear gq
    obtain ⟨b_X7, hbb⟩ : ∃ b, w6.heap.size = b := ⟨_, rfl⟩
    rw [hbb] at X7_7 ⊢
    clear hbb
    have cX5 := X5_7.out.cell
    have cX7 := X7_7.out.cell
    go_wp2_with fail
    refine (equalLayer_own _ _ _ _ P _ hP20 O4_7.out O5_7.out).mono ?_
    rintro e w8 ⟨rfl, gq⟩
    clear cX5
    clear cX7
    have T8 : Hid (Grows w1 w8) := T7.out.trans gq
    have O0_8 := Lib.hid (O0_7.out.keep gq)
    have L0_8 := Lib.hid (L0_7.out.keep gq)
    have X3_8 := Lib.hid (X3_7.out.keep gq)
    have X4_8 := Lib.hid (X4_7.out.keep gq)
    have O4_8 := Lib.hid (O4_7.out.keep gq)
    have X5_8 := Lib.hid (X5_7.out.keep gq)
    have O5_8 := Lib.hid (O5_7.out.keep gq)
    have X7_8 := Lib.hid (X7_7.out.keep gq)
    clear O0_7 L0_7 X3_7 X4_7 O4_7 X5_7 O5_7 X7_7 T7
    clear gq
    rcases β with _ | _
    · have cX5 := X5_8.out.cell
      have cX7 := X7_8.out.cell
      go_wp2_with fail
      refine (equalLayer_own _ _ _ _ P _ hP20 O4_8.out O5_8.out).mono ?_
      rintro e w9 ⟨rfl, gq⟩
      clear cX5
      clear cX7
      have T9 : Hid (Grows w1 w9) := T8.out.trans gq
      have O0_9 := Lib.hid (O0_8.out.keep gq)
      have L0_9 := Lib.hid (L0_8.out.keep gq)
      have X3_9 := Lib.hid (X3_8.out.keep gq)
      have X4_9 := Lib.hid (X4_8.out.keep gq)
      have O4_9 := Lib.hid (O4_8.out.keep gq)
      have X5_9 := Lib.hid (X5_8.out.keep gq)
      have O5_9 := Lib.hid (O5_8.out.keep gq)
      have X7_9 := Lib.hid (X7_8.out.keep gq)
      clear O0_8 L0_8 X3_8 X4_8 O4_8 X5_8 O5_8 X7_8 T8
      clear gq
      go_wp2
      go_ret
      exact ⟨rfl, (HG1.out.trans T9.out).below⟩
    · clear X7_8 O5_8 HM1 HM2
      have hcu0 := HFW.out rfl
      have hlen0 := HFN.out rfl
      have HFE := Lib.hid hcu0
      obtain ⟨hsum, hnn⟩ := hlen0
      obtain ⟨⟨p0, p0'⟩, ⟨p1, p1'⟩, ⟨p2, p2'⟩⟩ := HBN.out hnn
      have hq0 : EntsAt w8 AO4 P := by
        obtain ⟨x, y, he, _, hh⟩ := O4_8.out.formC
        injection he with he1 he2 he3
        subst he1
        exact hh
      have hn4 : nO4 = P.length := O4_8.out.at_.1
      rw [← hn4] at hsum hP20
      have HN := Lib.hid hn4
      have HA := Lib.hid hq0
      clear HFW HFN HBN hcu0 hnn hq0 hn4
      have cX5 := X5_8.out.cell
      go_wp2_with fail
      clear cX5
      go_loopw [9] (fun i wr => ∃ k : Nat, k ≤ nO4 ∧ i = .int .i64 k ∧ Hid (Grows w8 wr)) (fun i _ => nO4 - (intOf i).toNat)
      case atStart => exact ⟨0, Nat.zero_le _, rfl, Grows.refl _⟩
      case round =>
        obtain ⟨k, hk, rfl, HG⟩ := hrel
        have GR : Hid (Grows w8 wr) := HG
        have XA := Lib.hid (X5_8.out.keep HG.out)
        have x0 := XA.out.cell
        by_cases hlt : k < nO4
        · have hk2 : k < P.length := by rw [← HN.out]; exact hlt
          have HCI2 := Lib.hid (fun (s' k' : ByteArray) w2 (g : Grows w8 w2) => HCI.out AO4 cO4 s' k' w2 (HA.out.keep g))
          rw [← HN.out] at HCI2
          obtain ⟨bb, oo, rfl, hbb, hcc⟩ := HA.out (by omega)
          have hat := (hcc k hk2).keep hbb GR.out
          have hfe := HFE.out P[k] (List.getElem_mem hk2)
          obtain ⟨⟨es, ek, eo, ev⟩, hee⟩ : ∃ e, P[k] = e := ⟨_, rfl⟩
          rw [hee] at hat hfe
          obtain ⟨z0, z1, _, _⟩ := hat
          simp only at z0 z1 hfe
          obtain ⟨u1, u5⟩ := hfe
          have u4 := HFC.out es ek
          have HCE := Lib.hid (fun w2 (g : Grows w8 w2) => HCI2.out es ek w2 g)
          rw [u1] at HCE
          obtain ⟨CL, hCL⟩ : ∃ CL, cutL P es ek = CL := ⟨_, rfl⟩
          rw [hCL] at HCE u4 u5
          have HF1 := Lib.hid (HFL.out CL u4)
          have hfM := flatL_fit [CL, K]
          obtain ⟨M, hM⟩ : ∃ M, flatL [CL, K] = M := ⟨_, rfl⟩
          obtain ⟨θ, hθ⟩ : ∃ θ, flatB [CL, K] = θ := ⟨_, rfl⟩
          rw [hM] at HF1 u5 hfM
          rw [hθ] at HF1 u5
          have HS1 := Lib.hid (HSM.out M hfM)
          obtain ⟨σ, hσ⟩ : ∃ σ, sameL M L = σ := ⟨_, rfl⟩
          rw [hσ] at HS1 u5
          have HU := Lib.hid u5
          clear hCL hee hcc u1 u4 u5 hfM hM hθ hσ HCI2
          go_wp2_with fail
          go_cut [10, 11] (fun sW s0 wx => ∃ (bX : Nat) (v : Value), sW = .pointer (some ⟨bX, 0, none⟩) ∧ s0 = .bool true ∧ Hid (Box wx bX v 25) ∧ Hid (OwnE wx wr.heap.size v (CL)) ∧ Hid (wr.heap.size ≤ bX) ∧ Hid (Grows wr wx))
          case first =>
            refine wp_region_M 19 (CellsAre [(⟨b_X5, 0, none⟩, (.slice (some ⟨bb, oo, none⟩) nO4 cO4)), (⟨bb, oo + k * 4, none⟩, (.string es)), (⟨bb, oo + k * 4 + 1, none⟩, (.string ek))]) (by kernel_rfl) (by kernel_rfl) ⟨x0, z0, z1, trivial⟩ (fun hB hS => ?_)
            refine wpAnyM_take (i := 0) (v := ?vta0) hB rfl (by kernel_rfl) (fun _ _ _ h => h) (by rfl) ?yta0 hS ?nta0
            case yta0 => (intro w9 hSw; obtain ⟨s1, s2, s3, _⟩ := hSw; go_simp; try with_reducible rfl)
            refine wpAnyM_take (i := 1) (v := ?vta1) hB rfl (by kernel_rfl) (fun _ _ _ h => h) (by rfl) ?yta1 hS ?nta1
            case yta1 => (intro w9 hSw; obtain ⟨s1, s2, s3, _⟩ := hSw; go_simp; try with_reducible rfl)
            refine wpAnyM_take (i := 2) (v := ?vta2) hB rfl (by kernel_rfl) (fun _ _ _ h => h) (by rfl) ?yta2 hS ?nta2
            case yta2 => (intro w9 hSw; obtain ⟨s1, s2, s3, _⟩ := hSw; go_simp; try with_reducible rfl)
            refine wpAnyM_take (i := 3) (v := ?vta3) hB rfl (by kernel_rfl) (fun _ _ _ h => h) (by rfl) ?yta3 hS ?nta3
            case yta3 => (intro w9 hSw; obtain ⟨s1, s2, s3, _⟩ := hSw; go_simp; try with_reducible rfl)
            refine wpAnyM_take (i := 4) (v := ?vta4) hB rfl (by kernel_rfl) (fun _ _ _ h => h) (by rfl) ?yta4 hS ?nta4
            case yta4 => (intro w9 hSw; obtain ⟨s1, s2, s3, _⟩ := hSw; go_simp; try with_reducible rfl)
            refine wpAnyM_take (i := 5) (v := ?vta5) hB rfl (by kernel_rfl) (fun _ _ _ h => h) (by rfl) ?yta5 hS ?nta5
            case yta5 => (intro w9 hSw; obtain ⟨s1, s2, s3, _⟩ := hSw; go_simp; try with_reducible rfl)
            refine wpAnyM_take (i := 6) (v := ?vta6) hB rfl (by kernel_rfl) (fun _ _ _ h => h) (by rfl) ?yta6 hS ?nta6
            case yta6 => (intro w9 hSw; obtain ⟨s1, s2, s3, _⟩ := hSw; go_simp; try with_reducible rfl)
            refine wpAnyM_take (i := 7) (v := ?vta7) hB rfl (by kernel_rfl) (fun _ _ _ h => h) (by rfl) ?yta7 hS ?nta7
            case yta7 => (intro w9 hSw; obtain ⟨s1, s2, s3, _⟩ := hSw; go_simp; try with_reducible rfl)
            refine wpAnyM_take (i := 8) (v := ?vta8) hB rfl (by kernel_rfl) (fun _ _ _ h => h) (by rfl) ?yta8 hS ?nta8
            case yta8 => (intro w9 hSw; obtain ⟨s1, s2, s3, _⟩ := hSw; go_simp; try with_reducible rfl)
            refine wpAnyM_take (i := 9) (v := ?vta9) hB rfl (by kernel_rfl) (fun _ _ _ h => h) (by rfl) ?yta9 hS ?nta9
            case yta9 => (intro w9 hSw; obtain ⟨s1, s2, s3, _⟩ := hSw; go_simp; try with_reducible rfl)
            refine wpAnyM_take (i := 10) (v := ?vta10) hB rfl (by kernel_rfl) (fun _ _ _ h => h) (by rfl) ?yta10 hS ?nta10
            case yta10 => (intro w9 hSw; obtain ⟨s1, s2, s3, _⟩ := hSw; go_simp; try with_reducible rfl)
            refine wpAnyM_take (i := 11) (v := ?vta11) hB rfl (by kernel_rfl) (fun _ _ _ h => h) (by rfl) ?yta11 hS ?nta11
            case yta11 => (intro w9 hSw; obtain ⟨s1, s2, s3, _⟩ := hSw; go_simp; try with_reducible rfl)
            refine wpAnyM_take (i := 12) (v := ?vta12) hB rfl (by kernel_rfl) (fun _ _ _ h => h) (by rfl) ?yta12 hS ?nta12
            case yta12 => (intro w9 hSw; obtain ⟨s1, s2, s3, _⟩ := hSw; go_simp; try with_reducible rfl)
            have HSB : Hid (CellsAre [(⟨b_X5, 0, none⟩, (.slice (some ⟨bb, oo, none⟩) nO4 cO4)), (⟨bb, oo + k * 4, none⟩, (.string es)), (⟨bb, oo + k * 4 + 1, none⟩, (.string ek))] wr) := ⟨x0, z0, z1, trivial⟩
            have HS0 := Lib.hid hS
            clear hS
            have GG0 : Hid (Grows wr wr.drew) := (Grows.refl _).drew
            refine wpAnyM_two (i := 13) (j := 17) rfl rfl (by kernel_rfl) rfl rfl ?_ ?_
            · go_wp2_with fail
              refine (HCE.out _ (GR.out.trans GG0.out)).mono ?_
              rintro e y1W ⟨uu, rfl, huu, gg⟩
              obtain ⟨A7, n7, c7, hv7⟩ := OwnE.form3 huu
              subst hv7
              have H6 : Hid (OwnE y1W wr.heap.size (.slice A7 n7 c7) (CL)) := OwnE.less huu (by have h1 := GG0.out.size; first | omega | exact h1 | (simp only [World.size_alloc] at *; omega))
              clear huu
              have GG_1 : Hid (Grows wr y1W) := GG0.out.trans gg
              have HS_1 := Lib.hid (CellsAre.keep HS0.out gg)
              clear gg HS0 GG0
              go_wp2_with fail
              refine ⟨HS_1.out, ?_⟩
              have hS := HS_1.out
              refine wpAnyM_take (i := 14) (v := ?vtaz114) hB rfl (by kernel_rfl) (fun _ _ _ h => h) (by rfl) ?ytaz114 hS ?ntaz114
              case ytaz114 => (intro w9 hSw; obtain ⟨s1, s2, s3, _⟩ := hSw; go_simp; try with_reducible rfl)
              refine wpAnyM_take (i := 15) (v := ?vtaz115) hB rfl (by kernel_rfl) (fun _ _ _ h => h) (by rfl) ?ytaz115 hS ?ntaz115
              case ytaz115 => (intro w9 hSw; obtain ⟨s1, s2, s3, _⟩ := hSw; go_simp; try with_reducible rfl)
              refine wpAnyM_take (i := 16) (v := ?vtaz116) hB rfl (by kernel_rfl) (fun _ _ _ h => h) (by rfl) ?ytaz116 hS ?ntaz116
              case ytaz116 => (intro w9 hSw; obtain ⟨s1, s2, s3, _⟩ := hSw; go_simp; try with_reducible rfl)
              clear hS
              refine wpAnyM_one (i := 17) rfl (by kernel_rfl) rfl ?_
              go_wp2_with fail
              have HZZ : Hid (Box (y1W.alloc (.cells #[.slice none 0 0] 25)) y1W.heap.size (.slice none 0 0) 25) := Box.new _ _ _
              have H6o := H6
              have H6z := Lib.hid (H6.out.keep ((Grows.refl _).alloc (.cells #[.slice none 0 0] 25)))
              clear H6
              have H6 := H6z
              clear H6z
              have GGo := GG_1
              have GG_2 : Hid (Grows wr (y1W.alloc (.cells #[.slice none 0 0] 25))) := GG_1.out.alloc _
              have HS_2 := Lib.hid (CellsAre.keep HS_1.out ((Grows.refl _).alloc (.cells #[.slice none 0 0] 25)))
              have NZZ : Hid (wr.heap.size ≤ y1W.heap.size) := GG_1.out.size
              clear HS_1 GG_1
              refine ⟨HS_2.out, ?_⟩
              refine wpAnyM_one (i := 18) rfl (by kernel_rfl) rfl ?_
              have cZZ := HZZ.out.cell
              have fZZ := HZZ.out.free
              have lZZ := HZZ.out.lt
              go_wp2_with fail
              refine ⟨by first | exact CellsAre.keep HSB.out (GG_2.out.setCell NZZ.out _) | exact CellsAre.keep HSB.out (GGo.out.alloc _), ?_⟩
              refine wpAnyM_tail (by kernel_rfl) ?_
              clear hB HS_2 cZZ fZZ lZZ
              go_wp2_with fail
              go_meet
              first | exact ⟨_, _, rfl, rfl, HZZ.out.set_ _, H6.out.setFar (apartBox H6.out HZZ.out) _, NZZ.out, GG_2.out.setCell NZZ.out _⟩ | exact ⟨_, _, rfl, rfl, Box.new _ _ _, H6o.out.keep ((Grows.refl _).alloc _), NZZ.out, GGo.out.alloc _⟩
            · go_wp2_with fail
              have HZZ : Hid (Box (wr.drew.alloc (.cells #[.slice none 0 0] 25)) wr.heap.size (.slice none 0 0) 25) := Box.new _ _ _
              have GG_3 : Hid (Grows wr (wr.drew.alloc (.cells #[.slice none 0 0] 25))) := GG0.out.alloc _
              have HS_3 := Lib.hid (CellsAre.keep HS0.out ((Grows.refl _).alloc (.cells #[.slice none 0 0] 25)))
              have NZZ : Hid (wr.heap.size ≤ wr.heap.size) := GG0.out.size
              clear HS0 GG0
              refine ⟨HS_3.out, ?_⟩
              refine wpAnyM_one (i := 13) rfl (by kernel_rfl) rfl ?_
              go_wp2_with fail
              refine (HCE.out _ (GR.out.trans GG_3.out)).mono ?_
              rintro e y4W ⟨uu, rfl, huu, gg⟩
              obtain ⟨A7, n7, c7, hv7⟩ := OwnE.form3 huu
              subst hv7
              have H6 : Hid (OwnE y4W wr.heap.size (.slice A7 n7 c7) (CL)) := OwnE.less huu (by have h1 := GG_3.out.size; first | omega | exact h1 | (simp only [World.size_alloc] at *; omega))
              clear huu
              have HZZz := Lib.hid (HZZ.out.keep gg)
              clear HZZ
              have HZZ := HZZz
              clear HZZz
              have GG_4 : Hid (Grows wr y4W) := GG_3.out.trans gg
              have HS_4 := Lib.hid (CellsAre.keep HS_3.out gg)
              clear gg HS_3 GG_3
              go_wp2_with fail
              refine ⟨HS_4.out, ?_⟩
              have hS := HS_4.out
              refine wpAnyM_take (i := 14) (v := ?vtaz414) hB rfl (by kernel_rfl) (fun _ _ _ h => h) (by rfl) ?ytaz414 hS ?ntaz414
              case ytaz414 => (intro w9 hSw; obtain ⟨s1, s2, s3, _⟩ := hSw; go_simp; try with_reducible rfl)
              refine wpAnyM_take (i := 15) (v := ?vtaz415) hB rfl (by kernel_rfl) (fun _ _ _ h => h) (by rfl) ?ytaz415 hS ?ntaz415
              case ytaz415 => (intro w9 hSw; obtain ⟨s1, s2, s3, _⟩ := hSw; go_simp; try with_reducible rfl)
              refine wpAnyM_take (i := 16) (v := ?vtaz416) hB rfl (by kernel_rfl) (fun _ _ _ h => h) (by rfl) ?ytaz416 hS ?ntaz416
              case ytaz416 => (intro w9 hSw; obtain ⟨s1, s2, s3, _⟩ := hSw; go_simp; try with_reducible rfl)
              clear hS
              refine wpAnyM_one (i := 18) rfl (by kernel_rfl) rfl ?_
              have cZZ := HZZ.out.cell
              have fZZ := HZZ.out.free
              have lZZ := HZZ.out.lt
              go_wp2_with fail
              refine ⟨by first | exact CellsAre.keep HSB.out (GG_4.out.setCell NZZ.out _), ?_⟩
              refine wpAnyM_tail (by kernel_rfl) ?_
              clear hB HS_4 cZZ fZZ lZZ
              go_wp2_with fail
              go_meet
              exact ⟨_, _, rfl, rfl, HZZ.out.set_ _, H6.out.setFar (apartBox H6.out HZZ.out) _, NZZ.out, GG_4.out.setCell NZZ.out _⟩
          case rest =>
            clear x0 z0 z1
            obtain ⟨wd, hwd⟩ : ∃ x, x = wc := ⟨_, rfl⟩
            subst hwd
            obtain ⟨bX, vX, rfl, rfl, HBX, HOX, HNX, HGX⟩ := hcut
            obtain ⟨Ac, nc, cc, hvc⟩ := OwnE.form3 HOX.out
            subst hvc
            have GJ : Hid (Grows w8 wd) := HG.out.trans HGX.out
            have cBX := HBX.out.cell
            have cX3 := (X3_8.out.keep GJ.out).cell
            go_wp2_with fail
            refine (HF1.out _ _ _ _ wd.heap.size _ (HOX.out.keep ((Grows.refl _).alloc _)) ((O0_8.out.keep GJ.out).keep ((Grows.refl _).alloc _)) (by simp) (by simp) (by simp)).mono ?_
            rintro e we ⟨u, rfl, hu, gq'⟩
            obtain ⟨Af, nf, cf, hvf⟩ := OwnE.form3 hu
            subst hvf
            have GE : Hid (Grows w8 we) := GJ.out.trans (((Grows.refl _).alloc _).trans gq')
            have HF := Lib.hid hu
            clear hu gq' cBX cX3
            rcases θ with _ | _
            · go_wp2
              go_roundw
              case rel => exact ⟨k + 1, by omega, by go_num, GE.out.alloc _⟩
              case measure => (simp [intOf]; try omega)
            · have hsf := HU.out rfl
              subst hsf
              go_upto_region 13 with (fail)
              have XF : Hid (Box (we.alloc (.cells #[.slice Af nf cf] 25)) we.heap.size (.slice Af nf cf) 25) := heap_alloc_new we _
              have GF : Hid (Grows w8 (we.alloc (.cells #[.slice Af nf cf] 25))) := GE.out.alloc _
              have HF2 := Lib.hid (HF.out.keep ((Grows.refl we).alloc (.cells #[.slice Af nf cf] 25)))
              obtain ⟨wf, hwf⟩ : ∃ w', we.alloc (.cells #[.slice Af nf cf] 25) = w' := ⟨_, rfl⟩
              rw [hwf] at XF GF HF2 ⊢
              clear hwf
              have cXF := XF.out.cell
              have cX4 := (X4_8.out.keep GF.out).cell
              go_wp2_with fail
              refine (HS1.out _ _ _ _ _ HF2.out (L0_8.out.keep GF.out)).mono ?_
              rintro e wg ⟨rfl, gq⟩
              have GG : Hid (Grows w8 wg) := GF.out.trans gq
              clear gq cXF cX4
              go_wp2
              go_roundw
              case rel => exact ⟨k + 1, by omega, by go_num, GG.out⟩
              case measure => (simp [intOf]; try omega)
        · obtain rfl : k = nO4 := by omega
          have cX3 := (X3_8.out.keep HG.out).cell
          have cX4 := (X4_8.out.keep HG.out).cell
          go_wp2_with fail
          refine (HCN.out _ _ _ _ _ (O0_8.out.keep HG.out) (L0_8.out.keep HG.out)).mono ?_
          rintro e wz ⟨rfl, gq⟩
          have GZ : Hid (Grows w8 wz) := HG.out.trans gq
          clear gq cX3 cX4
          have cX5 := (X5_8.out.keep GZ.out).cell
          clear x0
          go_wp2
          go_ret
          exact ⟨by simp, (HG1.out.trans (T8.out.trans GZ.out)).below⟩
end Go.Proofs.YtkjoolmhcfajnaaDoor
