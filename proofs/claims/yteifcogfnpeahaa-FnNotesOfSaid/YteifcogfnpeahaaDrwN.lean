/-
  The arguments that the drawn law of NotesOf generates. Conditions: none but that the bytes lie in memory.
-/
import Derived.Test.YteifcogfnpeahaaDrw
namespace Go.Proofs.Yteifcogfnpeahaa
open Go.RowKit

theorem OwnL.setLine {w : World} {base g n c : Nat} {K : List Ln} (h : OwnL w base (.slice (some ⟨g, 0, none⟩) n c) K) (hn : K.length = n) {k : Nat} (hk : k < K.length) (l : Ln) : OwnL (st6 w g (k * 6) l) base (.slice (some ⟨g, 0, none⟩) n c) (K.set k l) := by
  have e : ∀ (x : Ln), (K.set k x)[k]'(by simpa using hk) = x := fun x => by simp
  have f1 := h.field hn hk 0 (by decide) (.int .i64 l.k) (l := ⟨l.k, K[k].le, K[k].na, K[k].se, K[k].va, K[k].ta⟩) rfl
  have f2 := f1.field (by simpa using hn) (k := k) (by simpa using hk) 1 (by decide) (.string l.le) (l := ⟨l.k, l.le, K[k].na, K[k].se, K[k].va, K[k].ta⟩) (by rw [e]; rfl)
  rw [List.set_set] at f2
  have f3 := f2.field (by simpa using hn) (k := k) (by simpa using hk) 2 (by decide) (.string l.na) (l := ⟨l.k, l.le, l.na, K[k].se, K[k].va, K[k].ta⟩) (by rw [e]; rfl)
  rw [List.set_set] at f3
  have f4 := f3.field (by simpa using hn) (k := k) (by simpa using hk) 3 (by decide) (.string l.se) (l := ⟨l.k, l.le, l.na, l.se, K[k].va, K[k].ta⟩) (by rw [e]; rfl)
  rw [List.set_set] at f4
  have f5 := f4.field (by simpa using hn) (k := k) (by simpa using hk) 4 (by decide) (.string l.va) (l := ⟨l.k, l.le, l.na, l.se, l.va, K[k].ta⟩) (by rw [e]; rfl)
  rw [List.set_set] at f5
  have f6 := f5.field (by simpa using hn) (k := k) (by simpa using hk) 5 (by decide) (.string l.ta) (l := l) (by rw [e]; rfl)
  rw [List.set_set] at f6
  exact f6
theorem gb_st6 (w : World) (g o : Nat) (l : Ln) : w.grownBy (st6 w g o l) (some g) :=
  gb_set (gb_set (gb_set (gb_set (gb_set (gb_set (World.grownBy.refl _ _) _ _) _ _) _ _) _ _) _ _) _ _

set_option maxRecDepth 100000 in
set_option maxHeartbeats 2000000 in
theorem DrawNotesOf_any (A : Option Addr) (n c : Nat) (w : World) (hn : n ≤ maxLen) (hc : n ≤ c) (h : BytesAt w A n) :
    Calls Try.prog 39 #[.slice A n c] w (DFileSK w) := by
  have HB := Lib.hid (fun o => h.keep ((Grows.refl w).alloc o))
  clear h
  go_enter Try.func39, Try.ntmps39
  go_wp2_with fail
  refine (newReader_any A n c _ hn hc (HB.out _)).mono ?_
  rintro e w1 ⟨A1, n1, c1, g, rfl, hn1, hg, r1, k1⟩
  have hg1 := Lib.hid r1.lt
  have hgw : w.heap.size < g := by simp at hg; omega
  have Z1 : Hid (Box w1 w.heap.size (.slice none 0 0) 25) := row_grow (heap_alloc_new w _) k1
  have R1 := Lib.hid r1
  have G1 : Hid (Grows w w1) := ((Grows.refl w).alloc _).trans k1
  have S1 : w.heap.size < w1.heap.size := Z1.out.lt
  clear r1 k1 hg HB
  go_wp2_with fail
  refine (keyIn_any g A1 n1 c1 0 _ (by omega) hn1 R1.out).mono ?_
  rintro e w2 ⟨v, K, s, key, rfl, ⟨hS, hK⟩, hO, ⟨hs, hk⟩, q2, a2, b2, r2, k2⟩
  have HSZ := Lib.hid hs
  have HKZ := Lib.hid hk
  clear hs hk
  have hgv : ∀ k, v.ownBlock = some k → k ≠ g ∧ k < w2.heap.size := fun k hk => by have h1 := (hO.lt k hk).1; have h2 := hg1.out; have h3 := (hO.lt k hk).2; omega
  have Z2 : Hid (Box w2 w.heap.size (.slice none 0 0) 25) := row_keep Z1.out k2 (by omega)
  have R2 := Lib.hid r2
  have O2 : Hid (OwnL w2 (w.heap.size + 1) v K) := hO.less S1
  have G2 : Hid (Grows w w2) := G1.out.mark k2 (fun i hi => by injection hi with hi; omega)
  have SS := Lib.hid hS
  clear hS hO r2 k2
  obtain ⟨A0, c0, rfl, _⟩ := O2.out.form
  obtain ⟨m, hm⟩ : ∃ m, K.length = m := ⟨_, rfl⟩
  rw [hm] at O2 hgv ⊢
  have HM := Lib.hid hm
  have hmK : m ≤ 100 := by omega
  clear hm
  have X3 : Hid (Box (w2.alloc (.cells #[.slice A0 m c0] 25)) w2.heap.size (.slice A0 m c0) 25) := heap_alloc_new w2 _
  have Z3 : Hid (Box (w2.alloc (.cells #[.slice A0 m c0] 25)) w.heap.size (.slice none 0 0) 25) := Z2.out.keep ((Grows.refl _).alloc _)
  have O3 := Lib.hid (O2.out.keep ((Grows.refl w2).alloc (.cells #[.slice A0 m c0] 25)))
  have R3 := Lib.hid (R2.out.keep ((Grows.refl w2).alloc (.cells #[.slice A0 m c0] 25)))
  have G3 : Hid (Grows w (w2.alloc (.cells #[.slice A0 m c0] 25))) := G2.out.alloc _
  have S2 : w.heap.size < w2.heap.size := Z2.out.lt
  have HGV := Lib.hid hgv
  clear hgv
  have hgn : g < w2.heap.size := R2.out.lt
  obtain ⟨w3, hw3⟩ : ∃ w3, w2.alloc (.cells #[.slice A0 m c0] 25) = w3 := ⟨_, rfl⟩
  have HW3 := Lib.hid hw3
  rw [hw3] at X3 Z3 O3 R3 G3
  clear hw3
  have HLP := Lib.hid (lastPair_any A0 c0 K s key w3 (by omega) ((HM.out ▸ O3.out : OwnL w3 (w.heap.size + 1) (.slice A0 K.length c0) K).at))
  rw [HM.out] at HLP
  have hlp := lastP_lt K s key m
  obtain ⟨z, hz⟩ : ∃ z, lastP K s key m = z := ⟨_, rfl⟩
  rw [hz] at HLP hlp
  clear hz
  go_upto_region 3 with (fail)
  rw [HW3.out]
  clear HW3
  have hx3 := X3.out.cell
  go_wp2_with fail
  refine (HLP.out).mono ?_
  rintro e w4 ⟨rfl, g4⟩
  have X4 := Lib.hid (X3.out.keep g4)
  have Z4 := Lib.hid (Z3.out.keep g4)
  have O4 := Lib.hid (O3.out.keep g4)
  have R4 := Lib.hid (R3.out.keep g4)
  have G4 : Hid (Grows w w4) := G3.out.trans g4
  clear g4 hx3 HLP
  by_cases hpos : 0 < z
  · go_wp2_with fail
    refine (pick_any 2 g A1 n1 c1 q2 _ (by omega) (by omega) (by omega) hn1 R4.out).mono ?_
    rintro e w5 ⟨x, rfl, hx0, hx1, r5, k5⟩
    have X5 := Lib.hid (X4.out.far k5 (by intro e; injection e with e; omega))
    have Z5 := Lib.hid (Z4.out.far k5 (by intro e; injection e with e; omega))
    have O5 := Lib.hid (O4.out.far k5 (fun k hk e => by injection e with e; exact (HGV.out k hk).1 e.symm))
    have G5 : Hid (Grows w w5) := G4.out.mark k5 (fun i hi => by injection hi with hi; omega)
    clear hx1 r5 k5
    by_cases hxz : x = 0
    · subst hxz
      obtain ⟨j, hj⟩ : ∃ j : Nat, z = ((j + 1 : Nat) : Int) := ⟨(z - 1).toNat, by omega⟩
      subst hj
      have hjm : j < m := by omega
      obtain ⟨gv, c9, hv9, hgv0, hgv1⟩ := (HM.out ▸ O5.out : OwnL w5 (w.heap.size + 1) (.slice A0 K.length c0) K).row (by rw [HM.out]; omega)
      injection hv9 with hv1 hv2 hv3
      subst hv1
      subst hv3
      clear hv2
      have hgv2 := (HGV.out gv rfl).2
      have hjK : j < K.length := by rw [HM.out]; exact hjm
      obtain ⟨v0, e0⟩ := O5.out.some_ HM.out hjK (d := 0) (by decide)
      obtain ⟨v1, e1⟩ := O5.out.some_ HM.out hjK (d := 1) (by decide)
      obtain ⟨v2, e2⟩ := O5.out.some_ HM.out hjK (d := 2) (by decide)
      obtain ⟨v3, e3⟩ := O5.out.some_ HM.out hjK (d := 3) (by decide)
      obtain ⟨v4, e4⟩ := O5.out.some_ HM.out hjK (d := 4) (by decide)
      obtain ⟨v5, e5⟩ := O5.out.some_ HM.out hjK (d := 5) (by decide)
      rw [Nat.add_zero] at e0
      have f0 := O5.out.free (j * 6)
      have f1 := O5.out.free (j * 6 + 1)
      have f2 := O5.out.free (j * 6 + 2)
      have f3 := O5.out.free (j * 6 + 3)
      have f4 := O5.out.free (j * 6 + 4)
      have f5 := O5.out.free (j * 6 + 5)
      have hx5 := X5.out.cell
      have O6 := Lib.hid (O5.out.setLine HM.out hjK ⟨1, ⟨#[]⟩, ⟨#[]⟩, ⟨#[]⟩, ⟨#[35, 32, 110]⟩, ⟨#[]⟩⟩)
      have X6 := Lib.hid (X5.out.far (gb_st6 w5 gv (j * 6) ⟨1, ⟨#[]⟩, ⟨#[]⟩, ⟨#[]⟩, ⟨#[35, 32, 110]⟩, ⟨#[]⟩⟩) (by intro e; injection e with e; omega))
      have Z6 := Lib.hid (Z5.out.far (gb_st6 w5 gv (j * 6) ⟨1, ⟨#[]⟩, ⟨#[]⟩, ⟨#[]⟩, ⟨#[35, 32, 110]⟩, ⟨#[]⟩⟩) (by intro e; injection e with e; omega))
      have G6 : Hid (Grows w (st6 w5 gv (j * 6) ⟨1, ⟨#[]⟩, ⟨#[]⟩, ⟨#[]⟩, ⟨#[35, 32, 110]⟩, ⟨#[]⟩⟩)) := G5.out.mark (gb_st6 w5 gv (j * 6) ⟨1, ⟨#[]⟩, ⟨#[]⟩, ⟨#[]⟩, ⟨#[35, 32, 110]⟩, ⟨#[]⟩⟩) (fun i hi => by injection hi with hi; omega)
      have SS6 : Hid (ShortL (K.set j ⟨1, ⟨#[]⟩, ⟨#[]⟩, ⟨#[]⟩, ⟨#[35, 32, 110]⟩, ⟨#[]⟩⟩)) := SS.out.set_ _ _ ⟨⟨show (-100 : Int) ≤ 1 by omega, show (1 : Int) ≤ 100 by omega⟩, by decide, by decide, by decide, by decide, by decide⟩
      have hcast : ((j + 1 : Nat) : Int) = (j : Int) + 1 := by omega
      rw [hcast]
      clear hcast
      go_upto_region 6 with (fail)
      change Code.wp _ _ _ _ (st6 w5 gv (j * 6) ⟨1, ⟨#[]⟩, ⟨#[]⟩, ⟨#[]⟩, ⟨#[35, 32, 110]⟩, ⟨#[]⟩⟩)
      obtain ⟨w6, hw6⟩ : ∃ w6, st6 w5 gv (j * 6) ⟨1, ⟨#[]⟩, ⟨#[]⟩, ⟨#[]⟩, ⟨#[35, 32, 110]⟩, ⟨#[]⟩⟩ = w6 := ⟨_, rfl⟩
      rw [hw6] at O6 X6 Z6 G6 ⊢
      clear hw6 e0 e1 e2 e3 e4 e5 f0 f1 f2 f3 f4 f5 hx5
      have hx6 := X6.out.cell
      have z0 := Z6.out.cell
      have zf := Z6.out.free
      have HZf : Hid (Box (w6.setCell ⟨w.heap.size, 0, none⟩ (.slice (some ⟨gv, 0, none⟩) m c0)) w.heap.size (.slice (some ⟨gv, 0, none⟩) m c0) 25) := Z6.out.set_ _
      have HN9 : Hid ((Value.slice (some ⟨gv, 0, none⟩) m c0).ownBlock ≠ some w.heap.size) := fun e => by have := (O6.out.lt _ e).1; omega
      have HOF := Lib.hid ((O6.out.setFar (i := 0) HN9.out (.slice (some ⟨gv, 0, none⟩) m c0)).less (show w.heap.size ≤ w.heap.size + 1 by omega))
      have HGF : Hid (Grows w (w6.setCell ⟨w.heap.size, 0, none⟩ (.slice (some ⟨gv, 0, none⟩) m c0))) := G6.out.setCell (Nat.le_refl _) _
      go_wp2
      obtain ⟨wf, hwf⟩ : ∃ wf, w6.setCell ⟨w.heap.size, 0, none⟩ (.slice (some ⟨gv, 0, none⟩) m c0) = wf := ⟨_, rfl⟩
      rw [hwf] at HZf HOF HGF ⊢
      clear hwf z0 zf
      have hz := HZf.out.cell
      refine bodyPost_ret (v := .tuple #[.agg #[.slice (some ⟨gv, 0, none⟩) m c0], .string s, .string key]) (by simp [results, Try.results39, go_sem, hz]) rfl ?_
      exact ⟨_, K.set j ⟨1, ⟨#[]⟩, ⟨#[]⟩, ⟨#[]⟩, ⟨#[35, 32, 110]⟩, ⟨#[]⟩⟩, s, key, rfl, ⟨SS6.out, by rw [List.length_set, HM.out]; exact hmK⟩, HOF.out, ⟨HSZ.out, HKZ.out⟩, HGF.out⟩
    · have hd : (x == 0) = false := by rw [beq_eq_false_iff_ne]; exact hxz
      clear hxz
      have hx5 := X5.out.cell
      have z0 := Z5.out.cell
      have zf := Z5.out.free
      have HZf : Hid (Box (w5.setCell ⟨w.heap.size, 0, none⟩ (.slice A0 m c0)) w.heap.size (.slice A0 m c0) 25) := Z5.out.set_ _
      have HN9 : Hid ((Value.slice A0 m c0).ownBlock ≠ some w.heap.size) := fun e => by have := (O5.out.lt _ e).1; omega
      have HOF := Lib.hid ((O5.out.setFar (i := 0) HN9.out (.slice A0 m c0)).less (show w.heap.size ≤ w.heap.size + 1 by omega))
      have HGF : Hid (Grows w (w5.setCell ⟨w.heap.size, 0, none⟩ (.slice A0 m c0))) := G5.out.setCell (Nat.le_refl _) _
      go_wp2
      obtain ⟨wf, hwf⟩ : ∃ wf, w5.setCell ⟨w.heap.size, 0, none⟩ (.slice A0 m c0) = wf := ⟨_, rfl⟩
      rw [hwf] at HZf HOF HGF ⊢
      clear hwf z0 zf
      have hz := HZf.out.cell
      refine bodyPost_ret (v := .tuple #[.agg #[.slice A0 m c0], .string s, .string key]) (by simp [results, Try.results39, go_sem, hz]) rfl ?_
      exact ⟨_, K, s, key, rfl, ⟨SS.out, by rw [HM.out]; exact hmK⟩, HOF.out, ⟨HSZ.out, HKZ.out⟩, HGF.out⟩
  · have hx4 := X4.out.cell
    have z0 := Z4.out.cell
    have zf := Z4.out.free
    have HZf : Hid (Box (w4.setCell ⟨w.heap.size, 0, none⟩ (.slice A0 m c0)) w.heap.size (.slice A0 m c0) 25) := Z4.out.set_ _
    have HN9 : Hid ((Value.slice A0 m c0).ownBlock ≠ some w.heap.size) := fun e => by have := (O4.out.lt _ e).1; omega
    have HOF := Lib.hid ((O4.out.setFar (i := 0) HN9.out (.slice A0 m c0)).less (show w.heap.size ≤ w.heap.size + 1 by omega))
    have HGF : Hid (Grows w (w4.setCell ⟨w.heap.size, 0, none⟩ (.slice A0 m c0))) := G4.out.setCell (Nat.le_refl _) _
    go_wp2
    obtain ⟨wf, hwf⟩ : ∃ wf, w4.setCell ⟨w.heap.size, 0, none⟩ (.slice A0 m c0) = wf := ⟨_, rfl⟩
    rw [hwf] at HZf HOF HGF ⊢
    clear hwf z0 zf
    have hz := HZf.out.cell
    refine bodyPost_ret (v := .tuple #[.agg #[.slice A0 m c0], .string s, .string key]) (by simp [results, Try.results39, go_sem, hz]) rfl ?_
    exact ⟨_, K, s, key, rfl, ⟨SS.out, by rw [HM.out]; exact hmK⟩, HOF.out, ⟨HSZ.out, HKZ.out⟩, HGF.out⟩
end Go.Proofs.Yteifcogfnpeahaa
