/-
  The arguments that the drawn laws of layers generate. Conditions: none but that the bytes lie in memory.
-/
import Derived.Test.YtgjineoiebokhaaDoorGLay
namespace Go.Proofs.YtgjineoiebokhaaDoor
open Go.RowKit

/-- a call's end: a layer -/
def DLay (w : World) (e : Ending) (w' : World) : Prop := ∃ (v : Value) (K : List Ent), e = .returned (.agg #[v]) ∧ (ShortE K ∧ K.length ≤ 101) ∧ OwnE w' w.heap.size v K ∧ Grows w w'
/-- a call's end: a layer and a section -/
def DLayS (w : World) (e : Ending) (w' : World) : Prop := ∃ (v : Value) (K : List Ent) (s : ByteArray), e = .returned (.tuple #[.agg #[v], .string s]) ∧ (ShortE K ∧ K.length ≤ 101) ∧ OwnE w' w.heap.size v K ∧ s.size ≤ 41 ∧ Grows w w'

set_option maxRecDepth 100000 in
set_option maxHeartbeats 2000000 in
theorem DrawValidLayer_any (A : Option Addr) (n c : Nat) (w : World) (hn : n ≤ maxLen) (hc : n ≤ c) (h : BytesAt w A n) :
    Calls Tryd.prog 10 #[.slice A n c] w (DLay w) := by
  have HB := Lib.hid (fun o => h.keep ((Grows.refl w).alloc o))
  clear h
  go_enter Tryd.func10, Tryd.ntmps10
  go_wp2_with fail
  refine (newReader_any A n c _ hn hc (HB.out _)).mono ?_
  rintro e w1 ⟨A1, n1, c1, g, rfl, hn1, hg, r1, k1⟩
  have hg1 := Lib.hid r1.lt
  have hgw : w.heap.size < g := by simp at hg; omega
  have Z1 : Hid (Box w1 w.heap.size (.slice none 0 0) 25) := row_grow (heap_alloc_new w _) k1
  have R1 := Lib.hid r1
  have G1 : Hid (Grows w w1) := ((Grows.refl w).alloc _).trans k1
  have S1 : w.heap.size < w1.heap.size := Z1.out.lt
  clear r1 k1 hg HB
  go_wp2_with fail
  refine (someLayer_any g A1 n1 c1 0 _ (by omega) hn1 R1.out).mono ?_
  rintro e w2 ⟨v, K, rfl, hS, hK, hO, q2, a2, b2, r2, k2⟩
  have Z2 : Hid (Box w2 w.heap.size (.slice none 0 0) 25) := row_keep Z1.out k2 (by omega)
  have R2 := Lib.hid r2
  have O2 : Hid (OwnE w2 (w.heap.size + 1) v K) := hO.less S1
  have G2 : Hid (Grows w w2) := G1.out.mark k2 (fun i hi => by injection hi with hi; omega)
  have SS := Lib.hid hS
  clear hS hO r2 k2
  have z0 := Z2.out.cell
  have zf := Z2.out.free
  obtain ⟨A9, n9, c9, rfl⟩ := O2.out.form3
  have HZf : Hid (Box (w2.setCell ⟨w.heap.size, 0, none⟩ (.slice A9 n9 c9)) w.heap.size (.slice A9 n9 c9) 25) := Z2.out.set_ _
  have HN9 : Hid ((Value.slice A9 n9 c9).ownBlock ≠ some w.heap.size) := fun e => by have := (O2.out.lt _ e).1; omega
  have HOF := Lib.hid ((O2.out.setFar (i := 0) HN9.out (.slice A9 n9 c9)).less (show w.heap.size ≤ w.heap.size + 1 by omega))
  have HGF : Hid (Grows w (w2.setCell ⟨w.heap.size, 0, none⟩ (.slice A9 n9 c9))) := G2.out.setCell (Nat.le_refl _) _
  go_wp2
  obtain ⟨wf, hwf⟩ : ∃ wf, w2.setCell ⟨w.heap.size, 0, none⟩ (.slice A9 n9 c9) = wf := ⟨_, rfl⟩
  rw [hwf] at HZf HOF HGF ⊢
  clear hwf z0 zf
  have hz := HZf.out.cell
  refine bodyPost_ret (v := .agg #[.slice A9 n9 c9]) (by simp [results, Tryd.results10, go_sem, hz]) rfl ?_
  exact ⟨_, K, rfl, ⟨SS.out, hK⟩, HOF.out, HGF.out⟩

set_option maxRecDepth 100000 in
set_option maxHeartbeats 2000000 in
theorem DrawLayerSections_any (A : Option Addr) (n c : Nat) (w : World) (hn : n ≤ maxLen) (hc : n ≤ c) (h : BytesAt w A n) :
    Calls Tryd.prog 14 #[.slice A n c] w (DLay w) := by
  have HB := Lib.hid (fun o => h.keep ((Grows.refl w).alloc o))
  clear h
  go_enter Tryd.func14, Tryd.ntmps14
  go_wp2_with fail
  refine (newReader_any A n c _ hn hc (HB.out _)).mono ?_
  rintro e w1 ⟨A1, n1, c1, g, rfl, hn1, hg, r1, k1⟩
  have hg1 := Lib.hid r1.lt
  have hgw : w.heap.size < g := by simp at hg; omega
  have Z1 : Hid (Box w1 w.heap.size (.slice none 0 0) 25) := row_grow (heap_alloc_new w _) k1
  have R1 := Lib.hid r1
  have G1 : Hid (Grows w w1) := ((Grows.refl w).alloc _).trans k1
  have S1 : w.heap.size < w1.heap.size := Z1.out.lt
  clear r1 k1 hg HB
  go_wp2_with fail
  refine (someLayer_any g A1 n1 c1 0 _ (by omega) hn1 R1.out).mono ?_
  rintro e w2 ⟨v, K, rfl, hS, hK, hO, q2, a2, b2, r2, k2⟩
  have Z2 : Hid (Box w2 w.heap.size (.slice none 0 0) 25) := row_keep Z1.out k2 (by omega)
  have R2 := Lib.hid r2
  have O2 : Hid (OwnE w2 (w.heap.size + 1) v K) := hO.less S1
  have G2 : Hid (Grows w w2) := G1.out.mark k2 (fun i hi => by injection hi with hi; omega)
  have SS := Lib.hid hS
  clear hS hO r2 k2
  have z0 := Z2.out.cell
  have zf := Z2.out.free
  obtain ⟨A9, n9, c9, rfl⟩ := O2.out.form3
  have HZf : Hid (Box (w2.setCell ⟨w.heap.size, 0, none⟩ (.slice A9 n9 c9)) w.heap.size (.slice A9 n9 c9) 25) := Z2.out.set_ _
  have HN9 : Hid ((Value.slice A9 n9 c9).ownBlock ≠ some w.heap.size) := fun e => by have := (O2.out.lt _ e).1; omega
  have HOF := Lib.hid ((O2.out.setFar (i := 0) HN9.out (.slice A9 n9 c9)).less (show w.heap.size ≤ w.heap.size + 1 by omega))
  have HGF : Hid (Grows w (w2.setCell ⟨w.heap.size, 0, none⟩ (.slice A9 n9 c9))) := G2.out.setCell (Nat.le_refl _) _
  go_wp2
  obtain ⟨wf, hwf⟩ : ∃ wf, w2.setCell ⟨w.heap.size, 0, none⟩ (.slice A9 n9 c9) = wf := ⟨_, rfl⟩
  rw [hwf] at HZf HOF HGF ⊢
  clear hwf z0 zf
  have hz := HZf.out.cell
  refine bodyPost_ret (v := .agg #[.slice A9 n9 c9]) (by simp [results, Tryd.results14, go_sem, hz]) rfl ?_
  exact ⟨_, K, rfl, ⟨SS.out, hK⟩, HOF.out, HGF.out⟩

set_option maxRecDepth 100000 in
set_option maxHeartbeats 2000000 in
theorem DrawSectionOf_any (A : Option Addr) (n c : Nat) (w : World) (hn : n ≤ maxLen) (hc : n ≤ c) (h : BytesAt w A n) :
    Calls Tryd.prog 20 #[.slice A n c] w (DLayS w) := by
  have HB := Lib.hid (fun o => h.keep ((Grows.refl w).alloc o))
  clear h
  go_enter Tryd.func20, Tryd.ntmps20
  go_wp2_with fail
  refine (newReader_any A n c _ hn hc (HB.out _)).mono ?_
  rintro e w1 ⟨A1, n1, c1, g, rfl, hn1, hg, r1, k1⟩
  have hg1 := Lib.hid r1.lt
  have hgw : w.heap.size < g := by simp at hg; omega
  have Z1 : Hid (Box w1 w.heap.size (.slice none 0 0) 25) := row_grow (heap_alloc_new w _) k1
  have R1 := Lib.hid r1
  have G1 : Hid (Grows w w1) := ((Grows.refl w).alloc _).trans k1
  have S1 : w.heap.size < w1.heap.size := Z1.out.lt
  clear r1 k1 hg HB
  go_wp2_with fail
  refine (someLayer_any g A1 n1 c1 0 _ (by omega) hn1 R1.out).mono ?_
  rintro e w2 ⟨v, K, rfl, hS, hK, hO, q2, a2, b2, r2, k2⟩
  have hgv : ∀ k, v.ownBlock = some k → k ≠ g := fun k hk => by have h1 := (hO.lt k hk).1; have h2 := hg1.out; omega
  have Z2 : Hid (Box w2 w.heap.size (.slice none 0 0) 25) := row_keep Z1.out k2 (by omega)
  have R2 := Lib.hid r2
  have O2 : Hid (OwnE w2 (w.heap.size + 1) v K) := hO.less S1
  have G2 : Hid (Grows w w2) := G1.out.mark k2 (fun i hi => by injection hi with hi; omega)
  have SS := Lib.hid hS
  clear hS hO r2 k2
  go_wp2_with fail
  refine (aSection_any g A1 n1 c1 q2 _ (by omega) hn1 R2.out).mono ?_
  rintro e w3 ⟨s, rfl, hs, q3, a3, b3, r3, k3⟩
  have Z3 : Hid (Box w3 w.heap.size (.slice none 0 0) 25) := row_keep Z2.out k3 (by omega)
  have R3 := Lib.hid r3
  have O3 := Lib.hid (O2.out.far k3 (fun k hk e => by injection e with e; have := hgv k hk; omega))
  have G3 : Hid (Grows w w3) := G2.out.mark k3 (fun i hi => by injection hi with hi; omega)
  have Hs := Lib.hid hs
  clear hs r3 k3
  have z0 := Z3.out.cell
  have zf := Z3.out.free
  obtain ⟨A9, n9, c9, rfl⟩ := O3.out.form3
  have HZf : Hid (Box (w3.setCell ⟨w.heap.size, 0, none⟩ (.slice A9 n9 c9)) w.heap.size (.slice A9 n9 c9) 25) := Z3.out.set_ _
  have HN9 : Hid ((Value.slice A9 n9 c9).ownBlock ≠ some w.heap.size) := fun e => by have := (O3.out.lt _ e).1; omega
  have HOF := Lib.hid ((O3.out.setFar (i := 0) HN9.out (.slice A9 n9 c9)).less (show w.heap.size ≤ w.heap.size + 1 by omega))
  have HGF : Hid (Grows w (w3.setCell ⟨w.heap.size, 0, none⟩ (.slice A9 n9 c9))) := G3.out.setCell (Nat.le_refl _) _
  go_wp2
  obtain ⟨wf, hwf⟩ : ∃ wf, w3.setCell ⟨w.heap.size, 0, none⟩ (.slice A9 n9 c9) = wf := ⟨_, rfl⟩
  rw [hwf] at HZf HOF HGF ⊢
  clear hwf z0 zf
  have hz := HZf.out.cell
  refine bodyPost_ret (v := .tuple #[.agg #[.slice A9 n9 c9], .string s]) (by simp [results, Tryd.results20, go_sem, hz]) rfl ?_
  exact ⟨_, K, s, rfl, ⟨SS.out, hK⟩, HOF.out, Hs.out, HGF.out⟩
end Go.Proofs.YtgjineoiebokhaaDoor
