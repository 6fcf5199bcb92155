/-
  The arguments that the drawn laws of files generate. Conditions: none but that the bytes lie in memory.
-/
import Derived.Test.YtdedidcjbocicaaGKey
namespace Go.Proofs.Ytdedidcjbocicaa
open Go.RowKit

/-- a call's end: a file -/
def DFile (w : World) (e : Ending) (w' : World) : Prop := ∃ (v : Value) (K : List Ln), e = .returned (.agg #[v]) ∧ (ShortL K ∧ K.length ≤ 100) ∧ OwnL w' w.heap.size v K ∧ Grows w w'
/-- a call's end: a file and a section -/
def DFileS (w : World) (e : Ending) (w' : World) : Prop := ∃ (v : Value) (K : List Ln) (s : ByteArray), e = .returned (.tuple #[.agg #[v], .string s]) ∧ (ShortL K ∧ K.length ≤ 100) ∧ OwnL w' w.heap.size v K ∧ s.size ≤ 41 ∧ Grows w w'
/-- a call's end: a file, a section and a key -/
def DFileSK (w : World) (e : Ending) (w' : World) : Prop := ∃ (v : Value) (K : List Ln) (s key : ByteArray), e = .returned (.tuple #[.agg #[v], .string s, .string key]) ∧ (ShortL K ∧ K.length ≤ 100) ∧ OwnL w' w.heap.size v K ∧ (s.size ≤ 41 ∧ key.size ≤ 41) ∧ Grows w w'
/-- a call's end: a file and three texts -/
def DFileSKT (w : World) (e : Ending) (w' : World) : Prop := ∃ (v : Value) (K : List Ln) (s key tt : ByteArray), e = .returned (.tuple #[.agg #[v], .string s, .string key, .string tt]) ∧ (ShortL K ∧ K.length ≤ 100) ∧ OwnL w' w.heap.size v K ∧ (s.size ≤ 41 ∧ key.size ≤ 41 ∧ tt.size ≤ 41) ∧ Grows w w'

set_option maxRecDepth 100000 in
set_option maxHeartbeats 2000000 in
theorem DrawValidFile_any (A : Option Addr) (n c : Nat) (w : World) (hn : n ≤ maxLen) (hc : n ≤ c) (h : BytesAt w A n) :
    Calls Try.prog 6 #[.slice A n c] w (DFile w) := by
  have HB := Lib.hid (fun o => h.keep ((Grows.refl w).alloc o))
  clear h
  go_enter Try.func6, Try.ntmps6
  go_wp2_with fail
  refine (newReader_any A n c _ hn hc (HB.out _)).mono ?_
  rintro e w1 ⟨A1, n1, c1, g, rfl, hn1, hg, r1, k1⟩
  have hg1 := Lib.hid r1.lt
  have hgw : w.heap.size < g := by simp at hg; omega
  have Z1 : Hid (Box w1 w.heap.size (.slice none 0 0) 25) := row_grow (heap_alloc_new w _) k1
  have R1 := Lib.hid r1
  have G1 : Hid (Grows w w1) := ((Grows.refl w).alloc _).trans k1
  have S1 : w.heap.size < w1.heap.size := Z1.out.lt
  clear r1 k1 hg HB
  go_wp2_with fail
  refine (someFile_any g A1 n1 c1 0 _ (by omega) hn1 R1.out).mono ?_
  rintro e w2 ⟨v, K, rfl, hS, hK, hO, q2, a2, b2, r2, k2⟩
  have Z2 : Hid (Box w2 w.heap.size (.slice none 0 0) 25) := row_keep Z1.out k2 (by omega)
  have R2 := Lib.hid r2
  have O2 : Hid (OwnL w2 (w.heap.size + 1) v K) := hO.less S1
  have G2 : Hid (Grows w w2) := G1.out.mark k2 (fun i hi => by injection hi with hi; omega)
  have SS := Lib.hid hS
  clear hS hO r2 k2
  have z0 := Z2.out.cell
  have zf := Z2.out.free
  obtain ⟨A9, n9, c9, rfl⟩ := O2.out.form3
  have HZf : Hid (Box (w2.setCell ⟨w.heap.size, 0, none⟩ (.slice A9 n9 c9)) w.heap.size (.slice A9 n9 c9) 25) := Z2.out.set_ _
  have HN9 : Hid ((Value.slice A9 n9 c9).ownBlock ≠ some w.heap.size) := fun e => by have := (O2.out.lt _ e).1; omega
  have HOF := Lib.hid ((O2.out.setFar (i := 0) HN9.out (.slice A9 n9 c9)).less (show w.heap.size ≤ w.heap.size + 1 by omega))
  have HGF : Hid (Grows w (w2.setCell ⟨w.heap.size, 0, none⟩ (.slice A9 n9 c9))) := G2.out.setCell (Nat.le_refl _) _
  go_wp2
  obtain ⟨wf, hwf⟩ : ∃ wf, w2.setCell ⟨w.heap.size, 0, none⟩ (.slice A9 n9 c9) = wf := ⟨_, rfl⟩
  rw [hwf] at HZf HOF HGF ⊢
  clear hwf z0 zf
  have hz := HZf.out.cell
  refine bodyPost_ret (v := .agg #[.slice A9 n9 c9]) (by simp [results, Try.results6, go_sem, hz]) rfl ?_
  exact ⟨_, K, rfl, ⟨SS.out, hK⟩, HOF.out, HGF.out⟩

set_option maxRecDepth 100000 in
set_option maxHeartbeats 2000000 in
theorem DrawTidyFile_any (A : Option Addr) (n c : Nat) (w : World) (hn : n ≤ maxLen) (hc : n ≤ c) (h : BytesAt w A n) :
    Calls Try.prog 17 #[.slice A n c] w (DFile w) := by
  have HB := Lib.hid (fun o => h.keep ((Grows.refl w).alloc o))
  clear h
  go_enter Try.func17, Try.ntmps17
  go_wp2_with fail
  refine (newReader_any A n c _ hn hc (HB.out _)).mono ?_
  rintro e w1 ⟨A1, n1, c1, g, rfl, hn1, hg, r1, k1⟩
  have hg1 := Lib.hid r1.lt
  have hgw : w.heap.size < g := by simp at hg; omega
  have Z1 : Hid (Box w1 w.heap.size (.slice none 0 0) 25) := row_grow (heap_alloc_new w _) k1
  have R1 := Lib.hid r1
  have G1 : Hid (Grows w w1) := ((Grows.refl w).alloc _).trans k1
  have S1 : w.heap.size < w1.heap.size := Z1.out.lt
  clear r1 k1 hg HB
  go_wp2_with fail
  refine (someFile_any g A1 n1 c1 0 _ (by omega) hn1 R1.out).mono ?_
  rintro e w2 ⟨v, K, rfl, hS, hK, hO, q2, a2, b2, r2, k2⟩
  have Z2 : Hid (Box w2 w.heap.size (.slice none 0 0) 25) := row_keep Z1.out k2 (by omega)
  have R2 := Lib.hid r2
  have O2 : Hid (OwnL w2 (w.heap.size + 1) v K) := hO.less S1
  have G2 : Hid (Grows w w2) := G1.out.mark k2 (fun i hi => by injection hi with hi; omega)
  have SS := Lib.hid hS
  clear hS hO r2 k2
  have z0 := Z2.out.cell
  have zf := Z2.out.free
  obtain ⟨A9, n9, c9, rfl⟩ := O2.out.form3
  have HZf : Hid (Box (w2.setCell ⟨w.heap.size, 0, none⟩ (.slice A9 n9 c9)) w.heap.size (.slice A9 n9 c9) 25) := Z2.out.set_ _
  have HN9 : Hid ((Value.slice A9 n9 c9).ownBlock ≠ some w.heap.size) := fun e => by have := (O2.out.lt _ e).1; omega
  have HOF := Lib.hid ((O2.out.setFar (i := 0) HN9.out (.slice A9 n9 c9)).less (show w.heap.size ≤ w.heap.size + 1 by omega))
  have HGF : Hid (Grows w (w2.setCell ⟨w.heap.size, 0, none⟩ (.slice A9 n9 c9))) := G2.out.setCell (Nat.le_refl _) _
  go_wp2
  obtain ⟨wf, hwf⟩ : ∃ wf, w2.setCell ⟨w.heap.size, 0, none⟩ (.slice A9 n9 c9) = wf := ⟨_, rfl⟩
  rw [hwf] at HZf HOF HGF ⊢
  clear hwf z0 zf
  have hz := HZf.out.cell
  refine bodyPost_ret (v := .agg #[.slice A9 n9 c9]) (by simp [results, Try.results17, go_sem, hz]) rfl ?_
  exact ⟨_, K, rfl, ⟨SS.out, hK⟩, HOF.out, HGF.out⟩

end Go.Proofs.Ytdedidcjbocicaa
