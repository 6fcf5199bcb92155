/-
  The arguments that the drawn law of CutEntry generates: a layer, a section and a key. Conditions: none but that the bytes lie in memory.
-/
import Derived.Test.YtnkggfcibbchdaaDoorDrwL
import Derived.Test.YtnkggfcibbchdaaDoorDrwP
namespace Go.Proofs.YtnkggfcibbchdaaDoor
open Go.RowKit

/-- a call's end: a layer, a section and a key -/
def EntryGen (g : Nat) (w : World) (e : Ending) (w' : World) : Prop := ∃ (v : Value) (K : List Ent) (s key : ByteArray), e = .returned (.tuple #[.agg #[v], .string s, .string key]) ∧ (ShortE K ∧ K.length ≤ 101) ∧ OwnE w' w.heap.size v K ∧ (s.size ≤ 41 ∧ key.size ≤ 41) ∧ w.grownBy w' (some g)
def DLaySK (w : World) (e : Ending) (w' : World) : Prop := ∃ (v : Value) (K : List Ent) (s key : ByteArray), e = .returned (.tuple #[.agg #[v], .string s, .string key]) ∧ (ShortE K ∧ K.length ≤ 101) ∧ OwnE w' w.heap.size v K ∧ (s.size ≤ 41 ∧ key.size ≤ 41) ∧ Grows w w'

set_option maxRecDepth 100000 in
set_option maxHeartbeats 8000000 in
theorem entryIn_any (g : Nat) (A : Option Addr) (n c p : Nat) (w : World) (hp : p ≤ 40000) (hn : n ≤ 2000) (h : Rd w g A n c p) :
    Calls Tryd.prog 49 #[.pointer (some ⟨g, 0, none⟩), .bool false] w (EntryGen g w) := by
  have hgl := h.lt
  have R1 : Hid (Rd (w.alloc (.cells #[.slice none 0 0] 25)) g A n c p) := h.keep ((Grows.refl w).alloc _)
  have Z1 : Hid (Box (w.alloc (.cells #[.slice none 0 0] 25)) w.heap.size (.slice none 0 0) 25) := heap_alloc_new w _
  have G1 : Hid (w.grownBy (w.alloc (.cells #[.slice none 0 0] 25)) (some g)) := gb_of ((Grows.refl w).alloc _)
  clear h
  go_enter Tryd.func49, Tryd.ntmps49
  go_wp2_with fail
  refine (someLayer_any g A n c p _ (by omega) hn R1.out).mono ?_
  rintro e w2 ⟨v, K, rfl, hS, hK, hO, q2, a2, b2, r2, k2⟩
  have Z2 : Hid (Box w2 w.heap.size (.slice none 0 0) 25) := row_keep Z1.out k2 (by omega)
  have O2 : Hid (OwnE w2 (w.heap.size + 1) v K) := hO.less (by simp)
  have G2 : Hid (w.grownBy w2 (some g)) := G1.out.trans k2
  have SS := Lib.hid hS
  have R2 := Lib.hid r2
  have hs2 : w.heap.size < w2.heap.size := Z2.out.lt
  have hg2 : g < w2.heap.size := r2.lt
  have VLT : Hid (∀ i, v.ownBlock = some i → w.heap.size + 1 ≤ i ∧ i < w2.heap.size) := O2.out.lt
  clear hS hO r2 k2 Z1 R1 G1
  obtain ⟨A0, c0, rfl, _⟩ := O2.out.form
  obtain ⟨m, hm⟩ : ∃ m, K.length = m := ⟨_, rfl⟩
  rw [hm] at O2 VLT ⊢
  have hm1 : m ≤ 101 := by omega
  have HM := Lib.hid hm
  clear hm hK
  go_upto_region 2 with (fail)
  have X3 : Hid (Box (w2.alloc (.cells #[.slice A0 m c0] 25)) w2.heap.size (.slice A0 m c0) 25) := heap_alloc_new w2 _
  have Z3 := Lib.hid (Z2.out.keep ((Grows.refl w2).alloc (.cells #[.slice A0 m c0] 25)))
  have O3 := Lib.hid (O2.out.keep ((Grows.refl w2).alloc (.cells #[.slice A0 m c0] 25)))
  have R3 := Lib.hid (R2.out.keep ((Grows.refl w2).alloc (.cells #[.slice A0 m c0] 25)))
  have G3 : Hid (w.grownBy (w2.alloc (.cells #[.slice A0 m c0] 25)) (some g)) := gb_grows G2.out ((Grows.refl _).alloc _)
  obtain ⟨w3, hw3⟩ : ∃ w3, w2.alloc (.cells #[.slice A0 m c0] 25) = w3 := ⟨_, rfl⟩
  rw [hw3] at X3 Z3 O3 R3 G3 ⊢
  clear hw3 Z2 O2 R2 G2
  have hs3 : w2.heap.size < w3.heap.size := X3.out.lt
  obtain ⟨b3, hb3⟩ : ∃ b3, w2.heap.size = b3 := ⟨_, rfl⟩
  rw [hb3] at X3 hs2 hg2 hs3 VLT ⊢
  clear hb3
  have hbo := X3.out.cell
  rcases Nat.eq_zero_or_pos m with hm0 | hm0
  · subst hm0
    go_upto_region 7 with (fail)
    clear hbo
    have hbo := X3.out.cell
    go_wp2_with fail
    refine wp_region_M 5 (CellsAre [(⟨b3, 0, none⟩, .slice A0 0 c0)]) (by kernel_rfl) (by kernel_rfl) ⟨hbo, trivial⟩ (fun hB hS => ?_)
    refine wpAnyM_take (i := 0) (v := ?vg30) hB rfl (by kernel_rfl) (fun _ _ _ h => h) (by rfl) ?yg30 hS ?ng30
    case yg30 => (intro w9 hSw; obtain ⟨s1, _⟩ := hSw; go_simp; try with_reducible rfl)
    refine wpAnyM_take (i := 1) (v := ?vg31) hB rfl (by kernel_rfl) (fun _ _ _ h => h) (by rfl) ?yg31 hS ?ng31
    case yg31 => (intro w9 hSw; obtain ⟨s1, _⟩ := hSw; go_simp; try with_reducible rfl)
    refine wpAnyM_take (i := 3) (v := ?vg33) hB rfl (by kernel_rfl) (fun _ _ _ h => h) (by rfl) ?yg33 hS ?ng33
    case yg33 => (intro w9 hSw; obtain ⟨s1, _⟩ := hSw; go_simp; try with_reducible rfl)
    refine wpAnyM_one (i := 2) rfl (by kernel_rfl) rfl ?_
    clear hS hbo
    go_wp2_with fail
    refine (aSection_any g A n c _ _ (by omega) hn (R3.out.keep (Grows.refl w3).drew)).mono ?_
    rintro e w6 ⟨s, rfl, hsz, q6, a6, b6, r6, k6'⟩
    have k6 : Hid (w3.grownBy w6 (some g)) := (gb_of (Grows.refl w3).drew).trans k6'
    have HSZ := Lib.hid hsz
    have R6 := Lib.hid r6
    have X6 := Lib.hid (X3.out.far k6.out (by intro e; injection e with e; omega))
    have Z6 := Lib.hid (Z3.out.far k6.out (by intro e; injection e with e; omega))
    have O6 := Lib.hid (O3.out.far k6.out (fun k hk e => by injection e with e; have := (O3.out.lt k hk).1; omega))
    have G6 : Hid (w.grownBy w6 (some g)) := G3.out.trans k6.out
    clear hsz r6 k6'
    go_wp2_with fail
    refine ⟨⟨X6.out.cell, trivial⟩, ?_⟩
    refine wpAnyM_one (i := 4) rfl (by kernel_rfl) rfl ?_
    go_wp2_with fail
    refine (aKey_any g A n c q6 _ (by omega) hn R6.out).mono ?_
    rintro e w7 ⟨key, rfl, hkz, q7, a7, b7, r7, k7'⟩
    have k7 := Lib.hid k7'
    have HKZ := Lib.hid hkz
    have X7 := Lib.hid (X6.out.far k7.out (by intro e; injection e with e; omega))
    have Z7 := Lib.hid (Z6.out.far k7.out (by intro e; injection e with e; omega))
    have O7 := Lib.hid (O6.out.far k7.out (fun k hk e => by injection e with e; have := (O6.out.lt k hk).1; omega))
    have G7 : Hid (w.grownBy w7 (some g)) := G6.out.trans k7.out
    clear hkz r7 k7'
    go_wp2_with fail
    refine ⟨⟨X7.out.cell, trivial⟩, ?_⟩
    refine wpAnyM_tail (by kernel_rfl) ?_
    clear hB
    have z0 := Z7.out.cell
    have zf := Z7.out.free
    have HZf : Hid (Box (w7.setCell ⟨w.heap.size, 0, none⟩ (.slice A0 0 c0)) w.heap.size (.slice A0 0 c0) 25) := Z7.out.set_ _
    have HN9 : Hid ((Value.slice A0 0 c0).ownBlock ≠ some w.heap.size) := fun e => by have := (O7.out.lt _ e).1; omega
    have HOF := Lib.hid ((O7.out.setFar (i := 0) HN9.out (.slice A0 0 c0)).less (show w.heap.size ≤ w.heap.size + 1 by omega))
    have HGF : Hid (w.grownBy (w7.setCell ⟨w.heap.size, 0, none⟩ (.slice A0 0 c0)) (some g)) := gb_new G7.out (Nat.le_refl _) 0 _
    go_wp2
    obtain ⟨wf, hwf⟩ : ∃ wf, w7.setCell ⟨w.heap.size, 0, none⟩ (.slice A0 0 c0) = wf := ⟨_, rfl⟩
    rw [hwf] at HZf HOF HGF ⊢
    clear hwf z0 zf
    have hz := HZf.out.cell
    refine bodyPost_ret (v := .tuple #[.agg #[.slice A0 0 c0], .string s, .string key]) (by simp [results, Tryd.results49, go_sem, hz]) rfl ?_
    exact ⟨_, K, s, key, rfl, ⟨SS.out, by rw [HM.out]; exact hm1⟩, HOF.out, ⟨HSZ.out, HKZ.out⟩, HGF.out⟩
  · go_wp2_with fail
    refine (pick_any 5 g A n c _ _ (by omega) (by omega) (by omega) hn R3.out).mono ?_
    rintro e w4 ⟨x, rfl, hx0, hx1, r4, k4⟩
    have X4 := Lib.hid (X3.out.far k4 (by intro e; injection e with e; omega))
    have Z4 := Lib.hid (Z3.out.far k4 (by intro e; injection e with e; omega))
    have O4 := Lib.hid (O3.out.far k4 (fun k hk e => by injection e with e; have := (O3.out.lt k hk).1; omega))
    have G4 : Hid (w.grownBy w4 (some g)) := G3.out.trans k4
    have R4 := Lib.hid r4
    have hs4 : b3 < w4.heap.size := X4.out.lt
    clear hx1 r4 k4 hbo X3 Z3 O3 R3 G3
    by_cases hx : 0 < x
    · obtain ⟨gv, c9, hv9, hgv0, hgv1⟩ := O4.out.row2 (by rw [HM.out]; exact hm0)
      injection hv9 with hv1 hv2 hv3
      subst hv1
      have hgv2 : gv < b3 := (VLT.out gv rfl).2
      have hgvg : gv ≠ g := by omega
      clear hv2 hv3
      have hbo := X4.out.cell
      go_upto_region 5 with (fail)
      go_cut [8] (fun sW wx => ∃ (bX : Nat) (e : Ent), sW = .pointer (some ⟨bX, 0, none⟩) ∧ w.heap.size < bX ∧ Hid (e ∈ K) ∧ Hid (BoxE wx bX e 36) ∧ Hid (Box wx b3 (.slice (some ⟨gv, 0, none⟩) m c0) 25) ∧ Hid (Box wx w.heap.size (.slice none 0 0) 25) ∧ Hid (OwnE wx (w.heap.size + 1) (.slice (some ⟨gv, 0, none⟩) m c0) K) ∧ Hid (w.grownBy wx (some g)))
      case first =>
        have HATS : Hid (∀ (wx : World), OwnE wx (w.heap.size + 1) (.slice (some ⟨gv, 0, none⟩) m c0) K → ∀ i (h : i < K.length), EntAt wx gv (i * 4) K[i]) := fun wx ho i hi => ho.at4 HM.out hi
        refine wp_region_M 10 (fun w' => w'.cell? ⟨b3, 0, none⟩ = some (.slice (some ⟨gv, 0, none⟩) m c0) ∧ ∀ i (h : i < K.length), EntAt w' gv (i * 4) K[i]) (by kernel_rfl) (by kernel_rfl) ⟨hbo, HATS.out w4.drew (O4.out.keep (Grows.refl w4).drew)⟩ (fun hB hS => ?_)
        refine wpAnyM_take (i := 0) (v := ?va0) hB rfl (by kernel_rfl) (fun _ _ _ h => h) (by rfl) ?ya0 hS ?na0
        case ya0 => (intro w9 hSw; obtain ⟨s1, s2⟩ := hSw; go_simp; try with_reducible rfl)
        refine wpAnyM_take (i := 1) (v := ?va1) hB rfl (by kernel_rfl) (fun _ _ _ h => h) (by rfl) ?ya1 hS ?na1
        case ya1 => (intro w9 hSw; obtain ⟨s1, s2⟩ := hSw; go_simp; try with_reducible rfl)
        refine wpAnyM_take (i := 2) (v := ?va2) hB rfl (by kernel_rfl) (fun _ _ _ h => h) (by rfl) ?ya2 hS ?na2
        case ya2 => (intro w9 hSw; obtain ⟨s1, s2⟩ := hSw; go_simp; try with_reducible rfl)
        refine wpAnyM_take (i := 3) (v := ?va3) hB rfl (by kernel_rfl) (fun _ _ _ h => h) (by rfl) ?ya3 hS ?na3
        case ya3 => (intro w9 hSw; obtain ⟨s1, s2⟩ := hSw; go_simp; try with_reducible rfl)
        refine wpAnyM_take (i := 4) (v := ?va4) hB rfl (by kernel_rfl) (fun _ _ _ h => h) (by rfl) ?ya4 hS ?na4
        case ya4 => (intro w9 hSw; obtain ⟨s1, s2⟩ := hSw; go_simp; try with_reducible rfl)
        refine wpAnyM_take (i := 5) (v := ?va5) hB rfl (by kernel_rfl) (fun _ _ _ h => h) (by rfl) ?ya5 hS ?na5
        case ya5 => (intro w9 hSw; obtain ⟨s1, s2⟩ := hSw; go_simp; try with_reducible rfl)
        refine wpAnyM_two (i := 6) (j := 9) rfl rfl (by kernel_rfl) rfl rfl ?_ ?_
        · clear hS hbo
          go_wp2_with fail
          refine (pick_any (m : Int) g A n c _ _ (by omega) (by omega) (by omega) hn (R4.out.keep (Grows.refl w4).drew)).mono ?_
          rintro e w5 ⟨y, rfl, hy0, hy1, r5, k5'⟩
          have hym := hy1 (by omega)
          obtain ⟨xi, rfl⟩ := Int.eq_ofNat_of_zero_le hy0
          have hxm : xi < m := by omega
          have hxi : xi < K.length := by rw [HM.out]; exact hxm
          have k5 : Hid (w4.grownBy w5 (some g)) := (gb_of (Grows.refl w4).drew).trans k5'
          have X5 := Lib.hid (X4.out.far k5.out (by intro e; injection e with e; omega))
          have Z5 := Lib.hid (Z4.out.far k5.out (by intro e; injection e with e; omega))
          have O5 := Lib.hid (O4.out.far k5.out (fun k hk e => by injection e with e; have := (O4.out.lt k hk).1; omega))
          have G5 : Hid (w.grownBy w5 (some g)) := G4.out.trans k5.out
          have HMEM : Hid (K[xi] ∈ K) := List.getElem_mem hxi
          obtain ⟨⟨es, ek, eo, ev⟩, hee⟩ : ∃ e, K[xi] = e := ⟨_, rfl⟩
          rw [hee] at HMEM
          clear hy0 hy1 hym r5 k5'
          go_wp2_with fail
          have hS : (fun w' => w'.cell? ⟨b3, 0, none⟩ = some (.slice (some ⟨gv, 0, none⟩) m c0) ∧ ∀ i (h : i < K.length), EntAt w' gv (i * 4) K[i]) w5 := ⟨X5.out.cell, HATS.out w5 O5.out⟩
          refine ⟨hS, ?_⟩
          refine wpAnyM_take (i := 7) (v := ?vbA7) hB rfl (by kernel_rfl) (fun _ _ _ h => h) (by rfl) ?ybA7 hS ?nbA7
          case ybA7 => (intro w9 hSw; obtain ⟨s1, s2⟩ := hSw; go_simp; try with_reducible rfl)
          refine wpAnyM_take (i := 8) (v := ?vbA8) hB rfl (by kernel_rfl) (fun _ _ _ h => h) (by rfl) ?ybA8 hS ?nbA8
          case ybA8 => (intro w9 hSw; obtain ⟨s1, s2⟩ := hSw; have hat := s2 xi hxi; rw [hee] at hat; obtain ⟨u0, u1, u2, u3⟩ := hat; simp only at u0 u1 u2 u3; go_simp; try with_reducible rfl)
          refine wpAnyM_one (i := 9) rfl (by kernel_rfl) rfl ?_
          go_wp2_with fail
          refine ⟨⟨(X5.out.keep ((Grows.refl _).alloc _)).cell, HATS.out _ (O5.out.keep ((Grows.refl _).alloc _))⟩, ?_⟩
          refine wpAnyM_tail (by kernel_rfl) ?_
          clear hB hS
          go_wp2_with fail
          go_meet
          exact ⟨_, ⟨es, ek, eo, ev⟩, rfl, (by have := X5.out.lt; omega), HMEM, BoxE.new _ ⟨es, ek, eo, ev⟩ _, X5.out.keep ((Grows.refl _).alloc _), Z5.out.keep ((Grows.refl _).alloc _), O5.out.keep ((Grows.refl _).alloc _), gb_grows G5.out ((Grows.refl _).alloc _)⟩
        · clear hS hbo
          go_wp2_with fail
          have GZ : Hid (Grows w4 (w4.alloc (.cells #[.string ⟨#[]⟩, .string ⟨#[]⟩, .int .i64 0, .string ⟨#[]⟩] 36)).drew) := ((Grows.refl w4).alloc _).drew
          have Xz := Lib.hid (X4.out.keep GZ.out)
          have Oz := Lib.hid (O4.out.keep GZ.out)
          have Ez : Hid (BoxE (w4.alloc (.cells #[.string ⟨#[]⟩, .string ⟨#[]⟩, .int .i64 0, .string ⟨#[]⟩] 36)).drew w4.heap.size Ent.zero 36) := (BoxE.new w4 Ent.zero _).keep (Grows.refl _).drew
          refine ⟨⟨(by first | exact Xz.out.cell | exact X4.out.cell), HATS.out _ Oz.out⟩, ?_⟩
          refine wpAnyM_one (i := 6) rfl (by kernel_rfl) rfl ?_
          go_wp2_with fail
          refine (pick_any (m : Int) g A n c _ _ (by omega) (by omega) (by omega) hn (R4.out.keep GZ.out)).mono ?_
          rintro e w5 ⟨y, rfl, hy0, hy1, r5, k5'⟩
          have hym := hy1 (by omega)
          obtain ⟨xi, rfl⟩ := Int.eq_ofNat_of_zero_le hy0
          have hxm : xi < m := by omega
          have hxi : xi < K.length := by rw [HM.out]; exact hxm
          have k5 : Hid (w4.grownBy w5 (some g)) := (gb_of GZ.out).trans k5'
          have hs5 : w4.heap.size ≠ g := by omega
          have E5 := Lib.hid (Ez.out.far k5' (by intro e; injection e with e; omega))
          have X5 := Lib.hid (X4.out.far k5.out (by intro e; injection e with e; omega))
          have Z5 := Lib.hid (Z4.out.far k5.out (by intro e; injection e with e; omega))
          have O5 := Lib.hid (O4.out.far k5.out (fun k hk e => by injection e with e; have := (O4.out.lt k hk).1; omega))
          have G5 : Hid (w.grownBy w5 (some g)) := G4.out.trans k5.out
          have HMEM : Hid (K[xi] ∈ K) := List.getElem_mem hxi
          obtain ⟨⟨es, ek, eo, ev⟩, hee⟩ : ∃ e, K[xi] = e := ⟨_, rfl⟩
          rw [hee] at HMEM
          clear hy0 hy1 hym r5 k5' Xz Oz Ez
          go_wp2_with fail
          have hS : (fun w' => w'.cell? ⟨b3, 0, none⟩ = some (.slice (some ⟨gv, 0, none⟩) m c0) ∧ ∀ i (h : i < K.length), EntAt w' gv (i * 4) K[i]) w5 := ⟨X5.out.cell, HATS.out w5 O5.out⟩
          refine ⟨hS, ?_⟩
          refine wpAnyM_take (i := 7) (v := ?vbB7) hB rfl (by kernel_rfl) (fun _ _ _ h => h) (by rfl) ?ybB7 hS ?nbB7
          case ybB7 => (intro w9 hSw; obtain ⟨s1, s2⟩ := hSw; go_simp; try with_reducible rfl)
          refine wpAnyM_take (i := 8) (v := ?vbB8) hB rfl (by kernel_rfl) (fun _ _ _ h => h) (by rfl) ?ybB8 hS ?nbB8
          case ybB8 => (intro w9 hSw; obtain ⟨s1, s2⟩ := hSw; have hat := s2 xi hxi; rw [hee] at hat; obtain ⟨u0, u1, u2, u3⟩ := hat; simp only at u0 u1 u2 u3; go_simp; try with_reducible rfl)
          refine wpAnyM_tail (by kernel_rfl) ?_
          clear hB hS
          have v0 := E5.out.at0
          have v1 := E5.out.at1
          have v2 := E5.out.at2
          have v3 := E5.out.at3
          have vf0 := E5.out.free 0
          have vf1 := E5.out.free 1
          have vf2 := E5.out.free 2
          have vf3 := E5.out.free 3
          have HNe : Hid ((Value.slice (some ⟨gv, 0, none⟩) m c0).ownBlock ≠ some w4.heap.size) := fun e => by have h9 : some gv = some w4.heap.size := e; injection h9 with h9; omega
          go_wp2_with fail
          go_meet
          refine ⟨_, ⟨es, ek, eo, ev⟩, rfl, (by omega), HMEM, BoxE.st4e E5.out ⟨es, ek, eo, ev⟩, ?_, ?_, ?_, ?_⟩
          · exact X5.out.far (gb_set (gb_set (gb_set (gb_set (World.grownBy.refl w5 (some w4.heap.size)) _ _) _ _) _ _) _ _) (by intro e; injection e with e; omega)
          · exact Z5.out.far (gb_set (gb_set (gb_set (gb_set (World.grownBy.refl w5 (some w4.heap.size)) _ _) _ _) _ _) _ _) (by intro e; injection e with e; omega)
          · exact (((O5.out.setFar HNe.out _).setFar HNe.out _).setFar HNe.out _).setFar HNe.out _
          · exact gb_new (gb_new (gb_new (gb_new G5.out (by omega) _ _) (by omega) _ _) (by omega) _ _) (by omega) _ _
      case rest =>
        clear hbo X4 Z4 O4 G4 R4
        obtain ⟨w6, hwc⟩ : ∃ x, x = wc := ⟨_, rfl⟩
        subst hwc
        obtain ⟨bX, ⟨es, ek, eo, ev⟩, rfl, hbX, HMEM, EX, X6, Z6, O6, G6⟩ := hcut
        have hsh := SS.out _ HMEM.out
        have HSE : Hid (es.size ≤ 41) := hsh.1
        have HKE : Hid (ek.size ≤ 41) := hsh.2.1
        clear hsh
        have t0 := X6.out.cell
        have e0 := EX.out.at0
        have e1 := EX.out.at1
        simp only at e0 e1
        have y0 : (w6.setCell ⟨w.heap.size, 0, none⟩ (.slice (some ⟨gv, 0, none⟩) m c0)).cell? ⟨bX, 0, none⟩ = some (.string es) := (World.cell?_setCell_other w6 ⟨w.heap.size, 0, none⟩ ⟨bX, 0, none⟩ (.slice (some ⟨gv, 0, none⟩) m c0) (by intro e; have e1 := congrArg Addr.block e; simp only at e1; omega)).trans e0
        have y1 : (w6.setCell ⟨w.heap.size, 0, none⟩ (.slice (some ⟨gv, 0, none⟩) m c0)).cell? ⟨bX, 1, none⟩ = some (.string ek) := (World.cell?_setCell_other w6 ⟨w.heap.size, 0, none⟩ ⟨bX, 1, none⟩ (.slice (some ⟨gv, 0, none⟩) m c0) (by intro e; have e1 := congrArg Addr.block e; simp only at e1; omega)).trans e1
        have z0 := Z6.out.cell
        have zf := Z6.out.free
        have HZf : Hid (Box (w6.setCell ⟨w.heap.size, 0, none⟩ (.slice (some ⟨gv, 0, none⟩) m c0)) w.heap.size (.slice (some ⟨gv, 0, none⟩) m c0) 25) := Z6.out.set_ _
        have HN9 : Hid ((Value.slice (some ⟨gv, 0, none⟩) m c0).ownBlock ≠ some w.heap.size) := fun e => by have := (O6.out.lt _ e).1; omega
        have HOF := Lib.hid ((O6.out.setFar (i := 0) HN9.out (.slice (some ⟨gv, 0, none⟩) m c0)).less (show w.heap.size ≤ w.heap.size + 1 by omega))
        have HGF : Hid (w.grownBy (w6.setCell ⟨w.heap.size, 0, none⟩ (.slice (some ⟨gv, 0, none⟩) m c0)) (some g)) := gb_new G6.out (Nat.le_refl _) 0 _
        go_upto_region 6 with (fail)
        go_region
        all_goals
          go_wp2
          have hz := HZf.out.cell
          refine bodyPost_ret (v := .tuple #[.agg #[.slice (some ⟨gv, 0, none⟩) m c0], .string es, .string ek]) (by simp [results, Tryd.results49, go_sem, hz]) rfl ?_
          exact ⟨_, K, es, ek, rfl, ⟨SS.out, by rw [HM.out]; exact hm1⟩, (by first | exact HOF.out | exact HOF.out.keep (Grows.refl _).drew), ⟨HSE.out, HKE.out⟩, (by first | exact HGF.out | exact gb_grows HGF.out (Grows.refl _).drew)⟩
    · have hx2 : ¬ 0 < x := hx
      clear hx
      go_upto_region 7 with (fail)
      have hbo := X4.out.cell
      go_wp2_with fail
      refine wp_region_M 5 (CellsAre [(⟨b3, 0, none⟩, .slice A0 m c0)]) (by kernel_rfl) (by kernel_rfl) ⟨hbo, trivial⟩ (fun hB hS => ?_)
      refine wpAnyM_take (i := 0) (v := ?vg40) hB rfl (by kernel_rfl) (fun _ _ _ h => h) (by rfl) ?yg40 hS ?ng40
      case yg40 => (intro w9 hSw; obtain ⟨s1, _⟩ := hSw; go_simp; try with_reducible rfl)
      refine wpAnyM_take (i := 1) (v := ?vg41) hB rfl (by kernel_rfl) (fun _ _ _ h => h) (by rfl) ?yg41 hS ?ng41
      case yg41 => (intro w9 hSw; obtain ⟨s1, _⟩ := hSw; go_simp; try with_reducible rfl)
      refine wpAnyM_take (i := 3) (v := ?vg43) hB rfl (by kernel_rfl) (fun _ _ _ h => h) (by rfl) ?yg43 hS ?ng43
      case yg43 => (intro w9 hSw; obtain ⟨s1, _⟩ := hSw; go_simp; try with_reducible rfl)
      refine wpAnyM_one (i := 2) rfl (by kernel_rfl) rfl ?_
      clear hS hbo
      go_wp2_with fail
      refine (aSection_any g A n c _ _ (by omega) hn (R4.out.keep (Grows.refl w4).drew)).mono ?_
      rintro e w6 ⟨s, rfl, hsz, q6, a6, b6, r6, k6'⟩
      have k6 : Hid (w4.grownBy w6 (some g)) := (gb_of (Grows.refl w4).drew).trans k6'
      have HSZ := Lib.hid hsz
      have R6 := Lib.hid r6
      have X6 := Lib.hid (X4.out.far k6.out (by intro e; injection e with e; omega))
      have Z6 := Lib.hid (Z4.out.far k6.out (by intro e; injection e with e; omega))
      have O6 := Lib.hid (O4.out.far k6.out (fun k hk e => by injection e with e; have := (O4.out.lt k hk).1; omega))
      have G6 : Hid (w.grownBy w6 (some g)) := G4.out.trans k6.out
      clear hsz r6 k6'
      go_wp2_with fail
      refine ⟨⟨X6.out.cell, trivial⟩, ?_⟩
      refine wpAnyM_one (i := 4) rfl (by kernel_rfl) rfl ?_
      go_wp2_with fail
      refine (aKey_any g A n c q6 _ (by omega) hn R6.out).mono ?_
      rintro e w7 ⟨key, rfl, hkz, q7, a7, b7, r7, k7'⟩
      have k7 := Lib.hid k7'
      have HKZ := Lib.hid hkz
      have X7 := Lib.hid (X6.out.far k7.out (by intro e; injection e with e; omega))
      have Z7 := Lib.hid (Z6.out.far k7.out (by intro e; injection e with e; omega))
      have O7 := Lib.hid (O6.out.far k7.out (fun k hk e => by injection e with e; have := (O6.out.lt k hk).1; omega))
      have G7 : Hid (w.grownBy w7 (some g)) := G6.out.trans k7.out
      clear hkz r7 k7'
      go_wp2_with fail
      refine ⟨⟨X7.out.cell, trivial⟩, ?_⟩
      refine wpAnyM_tail (by kernel_rfl) ?_
      clear hB
      have z0 := Z7.out.cell
      have zf := Z7.out.free
      have HZf : Hid (Box (w7.setCell ⟨w.heap.size, 0, none⟩ (.slice A0 m c0)) w.heap.size (.slice A0 m c0) 25) := Z7.out.set_ _
      have HN9 : Hid ((Value.slice A0 m c0).ownBlock ≠ some w.heap.size) := fun e => by have := (O7.out.lt _ e).1; omega
      have HOF := Lib.hid ((O7.out.setFar (i := 0) HN9.out (.slice A0 m c0)).less (show w.heap.size ≤ w.heap.size + 1 by omega))
      have HGF : Hid (w.grownBy (w7.setCell ⟨w.heap.size, 0, none⟩ (.slice A0 m c0)) (some g)) := gb_new G7.out (Nat.le_refl _) 0 _
      go_wp2
      obtain ⟨wf, hwf⟩ : ∃ wf, w7.setCell ⟨w.heap.size, 0, none⟩ (.slice A0 m c0) = wf := ⟨_, rfl⟩
      rw [hwf] at HZf HOF HGF ⊢
      clear hwf z0 zf
      have hz := HZf.out.cell
      refine bodyPost_ret (v := .tuple #[.agg #[.slice A0 m c0], .string s, .string key]) (by simp [results, Tryd.results49, go_sem, hz]) rfl ?_
      exact ⟨_, K, s, key, rfl, ⟨SS.out, by rw [HM.out]; exact hm1⟩, HOF.out, ⟨HSZ.out, HKZ.out⟩, HGF.out⟩

set_option maxRecDepth 100000 in
set_option maxHeartbeats 8000000 in
theorem DrawCutEntry_any (A : Option Addr) (n c : Nat) (w : World) (hn : n ≤ maxLen) (hc : n ≤ c) (h : BytesAt w A n) :
    Calls Tryd.prog 19 #[.slice A n c] w (DLaySK w) := by
  have HB := Lib.hid (fun o => h.keep ((Grows.refl w).alloc o))
  clear h
  go_enter Tryd.func19, Tryd.ntmps19
  go_wp2_with fail
  refine (newReader_any A n c _ hn hc (HB.out _)).mono ?_
  rintro e w1 ⟨A1, n1, c1, g, rfl, hn1, hg, r1, k1⟩
  have hgw : w.heap.size < g := by simp at hg; omega
  have Z1 : Hid (Box w1 w.heap.size (.slice none 0 0) 25) := row_grow (heap_alloc_new w _) k1
  have R1 := Lib.hid r1
  have G1 : Hid (Grows w w1) := ((Grows.refl w).alloc _).trans k1
  have S1 : w.heap.size < w1.heap.size := Z1.out.lt
  clear r1 k1 hg HB
  go_wp2_with fail
  refine (entryIn_any g A1 n1 c1 0 _ (by omega) hn1 R1.out).mono ?_
  rintro e w2 ⟨v, K, s, key, rfl, ⟨hS, hK⟩, hO, ⟨hs, hk⟩, k2⟩
  have Z2 : Hid (Box w2 w.heap.size (.slice none 0 0) 25) := row_keep Z1.out k2 (by omega)
  have O2 : Hid (OwnE w2 (w.heap.size + 1) v K) := hO.less S1
  have G2 : Hid (Grows w w2) := G1.out.mark k2 (fun i hi => by injection hi with hi; omega)
  have SS := Lib.hid hS
  clear hS hO k2
  have z0 := Z2.out.cell
  have zf := Z2.out.free
  obtain ⟨A9, n9, c9, rfl⟩ := O2.out.form3
  have HZf : Hid (Box (w2.setCell ⟨w.heap.size, 0, none⟩ (.slice A9 n9 c9)) w.heap.size (.slice A9 n9 c9) 25) := Z2.out.set_ _
  have HN9 : Hid ((Value.slice A9 n9 c9).ownBlock ≠ some w.heap.size) := fun e => by have := (O2.out.lt _ e).1; omega
  have HOF := Lib.hid ((O2.out.setFar (i := 0) HN9.out (.slice A9 n9 c9)).less (show w.heap.size ≤ w.heap.size + 1 by omega))
  have HGF : Hid (Grows w (w2.setCell ⟨w.heap.size, 0, none⟩ (.slice A9 n9 c9))) := G2.out.setCell (Nat.le_refl _) _
  go_wp2
  obtain ⟨wf, hwf⟩ : ∃ wf, w2.setCell ⟨w.heap.size, 0, none⟩ (.slice A9 n9 c9) = wf := ⟨_, rfl⟩
  rw [hwf] at HZf HOF HGF ⊢
  clear hwf z0 zf
  have hz := HZf.out.cell
  refine bodyPost_ret (v := .tuple #[.agg #[.slice A9 n9 c9], .string s, .string key]) (by simp [results, Tryd.results19, go_sem, hz]) rfl ?_
  exact ⟨_, K, s, key, rfl, ⟨SS.out, hK⟩, HOF.out, ⟨hs, hk⟩, HGF.out⟩
end Go.Proofs.YtnkggfcibbchdaaDoor
