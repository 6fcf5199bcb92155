/-
  The drawn law of UndoLayer with the arguments that it generates: whatever its bytes, it returns true. Condition: no more bytes than a slice may have.
-/
import Derived.Test.YtoicohheoddfjaaDoorUnd
import Derived.Test.YtoicohheoddfjaaDoorUndX
import Derived.Test.YtoicohheoddfjaaDoorFltX
import Derived.Test.YtoicohheoddfjaaDoorGFlat
import Derived.Test.YtoicohheoddfjaaDoorSameL
import Derived.Test.YtoicohheoddfjaaDoorLayH
namespace Go.Proofs.YtoicohheoddfjaaDoor
open Go.RowKit

theorem findN_flat (V : PV) (s k : ByteArray) : ∀ F : List Ent, (F.filterMap (flatOne V)).find? (fun x => x.of s k) = if (F.any fun x => x.of s k) = true then (V s k).map (fun v => (⟨s, k, 0, v⟩ : Ent)) else none := by
  intro F
  induction F with
  | nil => rfl
  | cons e t ih =>
    have hfl : flatOne V e = (V e.s e.k).map fun v => (⟨e.s, e.k, 0, v⟩ : Ent) := rfl
    by_cases he : e.of s k = true
    · obtain ⟨h1, h2⟩ := (of_iff e s k).1 he
      rw [if_pos (by rw [List.any_cons, he]; rfl)]
      cases hV : V s k with
      | none =>
        have h3 : flatOne V e = none := by rw [hfl, h1, h2, hV]; rfl
        rw [List.filterMap_cons_none h3, ih, hV]
        split <;> rfl
      | some v =>
        have h3 : flatOne V e = some ⟨s, k, 0, v⟩ := by rw [hfl, h1, h2, hV]; rfl
        rw [List.filterMap_cons_some h3, List.find?_cons_of_pos (p := fun x : Ent => x.of s k) ((of_iff _ s k).2 ⟨rfl, rfl⟩)]
        rfl
    · have he' : e.of s k = false := by simpa using he
      have ha : ((e :: t).any fun x => x.of s k) = t.any fun x => x.of s k := by rw [List.any_cons, he', Bool.false_or]
      rw [ha]
      cases hV : V e.s e.k with
      | none =>
        have h3 : flatOne V e = none := by rw [hfl, hV]; rfl
        rw [List.filterMap_cons_none h3, ih]
      | some v =>
        have h3 : flatOne V e = some ⟨e.s, e.k, 0, v⟩ := by rw [hfl, hV]; rfl
        rw [List.filterMap_cons_some h3, List.find?_cons_of_neg (p := fun x : Ent => x.of s k) (by
          intro h4
          have h5 : e.of s k = true := h4
          rw [h5] at he'
          cases he'), ih]
theorem foldN_none (s k : ByteArray) : ∀ (es : List Ent) (V : PV), (es.any fun x => x.of s k) = false → foldV es V s k = V s k := by
  intro es
  induction es with
  | nil => intro V _; rfl
  | cons e t ih =>
    intro V h
    rw [List.any_cons, Bool.or_eq_false_iff] at h
    have h1 : foldV (e :: t) V = foldV t (layV V e) := rfl
    rw [h1, ih _ h.2]
    unfold layV
    rw [if_neg (by rw [h.1]; simp)]
theorem toldN_flat {sl : List (List Ent)} (h : distE (flatR sl) = true) (s k : ByteArray) : toldV [flatR sl] s k = toldV sl s k := by
  rw [told_one _ h]
  have h1 : (flatR sl).find? (fun x => x.of s k) = if ((allE sl).any fun x => x.of s k) = true then (toldV sl s k).map (fun v => (⟨s, k, 0, v⟩ : Ent)) else none := by
    unfold flatR
    rw [findN_flat, firstsE_any]
  rw [h1]
  by_cases ha : ((allE sl).any fun x => x.of s k) = true
  · rw [if_pos ha]
    cases toldV sl s k <;> rfl
  · have ha' : ((allE sl).any fun x => x.of s k) = false := by simpa using ha
    rw [if_neg ha]
    have h2 : toldV sl s k = none := by
      unfold toldV
      rw [foldN_none s k _ _ ha']
      rfl
    rw [h2]
theorem undo_back {xs bs : List Ent} (h : undoB xs bs = true) : flatB [xs, bs] = true ∧ (flatB [undoL xs bs, flatL [xs, bs]] = true → sameL (flatL [undoL xs bs, flatL [xs, bs]]) bs = true) := by
  unfold undoB at h
  rw [Bool.and_eq_true] at h
  obtain ⟨h1, h2⟩ := h
  unfold patchB at h2
  rw [Bool.and_eq_true, Bool.and_eq_true] at h2
  obtain ⟨h3, h4, h5⟩ := h2
  have hu : undoL xs bs = patchR (flatL [xs, bs]) bs := by
    unfold undoL
    rw [if_pos h1, (patchL_yes h3 h4).1]
    unfold chkE
    rw [if_pos h5]
  refine ⟨h1, fun q => ?_⟩
  rw [hu] at q ⊢
  obtain ⟨q1, q2, q3⟩ := flatB_yes q
  refine same_told (flat_flat q) h4 (fun s k => ?_)
  rw [q3, toldN_flat (vlayer_dist q2), told_undo h3 h4 h5]
theorem undoL_fit (xs bs : List Ent) : EFit (undoL xs bs) := by
  unfold undoL
  split
  · unfold patchL
    split
    · rename_i h
      unfold chkE
      split
      · exact patchR_fit (vflat_vlayer h.1) (vflat_vlayer h.2)
      · exact ⟨Nat.zero_le _, fun _ h => absurd h (Nat.not_lt_zero _)⟩
    · exact ⟨Nat.zero_le _, fun _ h => absurd h (Nat.not_lt_zero _)⟩
  · exact ⟨Nat.zero_le _, fun _ h => absurd h (Nat.not_lt_zero _)⟩
theorem implUnd_own (v u : Value) (b1 b2 : Nat) (xs bs : List Ent) (w : World) (hf : EFit xs) (hg : EFit bs) (h1 : OwnE w b1 v xs) (h2 : OwnE w b2 u bs) :
    Calls Tryd.prog 17 #[.agg #[v], .agg #[u]] w (ResEB (undoL xs bs) (undoB xs bs) w) := by
  obtain ⟨A, c, rfl, hc, hA⟩ := h1.formC
  obtain ⟨B, d, rfl, hd, hB⟩ := h2.formC
  exact implUnd_any A c xs B d bs w hc hd hf hA hg hB
theorem specUnd_own (v u : Value) (b1 b2 : Nat) (xs bs : List Ent) (w : World) (hf : EFit xs) (hg : EFit bs) (h1 : OwnE w b1 v xs) (h2 : OwnE w b2 u bs) :
    Calls Tryd.prog 18 #[.agg #[v], .agg #[u]] w (ResEB (undoL xs bs) (undoB xs bs) w) := by
  obtain ⟨A, c, rfl, hc, hA⟩ := h1.formC
  obtain ⟨B, d, rfl, hd, hB⟩ := h2.formC
  exact specUnd_any A c xs B d bs w hc hd hf hA hg hB
theorem implSameU_own (v u : Value) (b1 b2 : Nat) (xs bs : List Ent) (w : World) (hf : EFit xs) (hg : EFit bs) (h1 : OwnE w b1 v xs) (h2 : OwnE w b2 u bs) :
    Calls Tryd.prog 19 #[.agg #[v], .agg #[u]] w fun e w' => e = .returned (.bool (sameL xs bs)) ∧ Grows w w' := by
  obtain ⟨A, c, rfl, hc, hA⟩ := h1.formC
  obtain ⟨B, d, rfl, hd, hB⟩ := h2.formC
  exact implSame_any A c xs B d bs w hf hA hg hB

/-- a call's end: two layers of short texts -/
def DUnd (w : World) (e : Ending) (w' : World) : Prop := ∃ (v : Value) (K : List Ent) (u : Value) (L : List Ent), e = .returned (.tuple #[.agg #[v], .agg #[u]]) ∧ (ShortE K ∧ K.length ≤ 101) ∧ (ShortE L ∧ L.length ≤ 101) ∧ OwnE w' w.heap.size v K ∧ OwnE w' w.heap.size u L ∧ Grows w w'

set_option maxRecDepth 100000 in
set_option maxHeartbeats 8000000 in
theorem DrawUndoLayer_any (A : Option Addr) (n c : Nat) (w : World) (hn : n ≤ maxLen) (hc : n ≤ c) (h : BytesAt w A n) :
    Calls Tryd.prog 16 #[.slice A n c] w (DUnd w) := by
  have HB := Lib.hid (fun o o2 => h.keep (((Grows.refl w).alloc o).alloc o2))
  clear h
  go_enter Tryd.func16, Tryd.ntmps16
  go_wp2_with fail
  refine (newReader_any A n c _ hn hc (HB.out _ _)).mono ?_
  rintro e w1 ⟨A1, n1, c1, g, rfl, hn1, hg, r1, k1⟩
  have hgw : w.heap.size + 1 < g := by simp at hg; omega
  have Z1 : Hid (Box w1 w.heap.size (.slice none 0 0) 27) := row_grow (row_grow (heap_alloc_new w _) ((Grows.refl _).alloc _)) k1
  have V1 : Hid (Box w1 (w.heap.size + 1) (.slice none 0 0) 27) := row_grow (alloc_new2 w _ _) k1
  have R1 := Lib.hid r1
  have G1 : Hid (Grows w w1) := (((Grows.refl w).alloc _).alloc _).trans k1
  have S1 : w.heap.size + 1 < w1.heap.size := V1.out.lt
  have HGL := Lib.hid r1.lt
  clear r1 k1 hg HB
  go_wp2_with fail
  refine (someLayer_any g A1 n1 c1 0 _ (by omega) hn1 R1.out).mono ?_
  rintro e w2 ⟨v, K, rfl, hS, hK, hO, q2, a2, b2, r2, k2⟩
  have Z2 : Hid (Box w2 w.heap.size (.slice none 0 0) 27) := row_keep Z1.out k2 (by omega)
  have V2 : Hid (Box w2 (w.heap.size + 1) (.slice none 0 0) 27) := row_keep V1.out k2 (by omega)
  have R2 := Lib.hid r2
  have O2 : Hid (OwnE w2 (w.heap.size + 2) v K) := hO.less (by omega)
  have G2 : Hid (Grows w w2) := G1.out.mark k2 (fun i hi => by injection hi with hi; omega)
  have hgv : ∀ k, v.ownBlock = some k → k ≠ g := fun k hk => by have h1 := (hO.lt k hk).1; have h2 := HGL.out; omega
  have HGV := Lib.hid hgv
  have SS := Lib.hid hS
  have S2 : w.heap.size + 1 < w2.heap.size := V2.out.lt
  obtain ⟨A9, n9, c9, rfl⟩ := O2.out.form3
  clear hS hO r2 k2 Z1 V1 R1 G1 hgv
  go_wp2_with fail
  refine (someFlat_any g A1 n1 c1 q2 _ (by omega) hn1 R2.out).mono ?_
  rintro e w3 ⟨u, L, rfl, hT, hL, hP, q3, a3, b3, r3, k3⟩
  have Z3 : Hid (Box w3 w.heap.size (.slice none 0 0) 27) := row_keep Z2.out k3 (by omega)
  have V3 : Hid (Box w3 (w.heap.size + 1) (.slice none 0 0) 27) := row_keep V2.out k3 (by omega)
  have O3 := Lib.hid (O2.out.far k3 (fun k hk e => by injection e with e; exact HGV.out k hk e.symm))
  have P3 : Hid (OwnE w3 (w.heap.size + 2) u L) := hP.less (by omega)
  have G3 : Hid (Grows w w3) := G2.out.mark k3 (fun i hi => by injection hi with hi; omega)
  have ST := Lib.hid hT
  obtain ⟨A8, n8, c8, rfl⟩ := P3.out.form3
  clear hT hP r3 k3 Z2 V2 R2 G2 O2
  have z0 := Z3.out.cell
  have zf := Z3.out.free
  have v0 := V3.out.cell
  have vf := V3.out.free
  have HN0 : Hid ((Value.slice A9 n9 c9).ownBlock ≠ some w.heap.size) := fun e => by have := (O3.out.lt _ e).1; omega
  have HN1 : Hid ((Value.slice A9 n9 c9).ownBlock ≠ some (w.heap.size + 1)) := fun e => by have := (O3.out.lt _ e).1; omega
  have HM0 : Hid ((Value.slice A8 n8 c8).ownBlock ≠ some w.heap.size) := fun e => by have := (P3.out.lt _ e).1; omega
  have HM1 : Hid ((Value.slice A8 n8 c8).ownBlock ≠ some (w.heap.size + 1)) := fun e => by have := (P3.out.lt _ e).1; omega
  have F0 : Hid (Box ((w3.setCell ⟨w.heap.size, 0, none⟩ (.slice A9 n9 c9)).setCell ⟨w.heap.size + 1, 0, none⟩ (.slice A8 n8 c8)) w.heap.size (.slice A9 n9 c9) 27) := Box.far (row := some (w.heap.size + 1)) (Z3.out.set_ _) (gb_set (World.grownBy.refl _ _) _ _) (by intro e; injection e with e; omega)
  have F1 : Hid (Box ((w3.setCell ⟨w.heap.size, 0, none⟩ (.slice A9 n9 c9)).setCell ⟨w.heap.size + 1, 0, none⟩ (.slice A8 n8 c8)) (w.heap.size + 1) (.slice A8 n8 c8) 27) := Box.set_ (Box.far (row := some w.heap.size) V3.out (gb_set (World.grownBy.refl _ _) _ _) (by intro e; injection e with e; omega)) _
  have F2 := Lib.hid (((O3.out.setFar (i := 0) HN0.out (.slice A9 n9 c9)).setFar (i := 0) HN1.out (.slice A8 n8 c8)).less (show w.heap.size ≤ w.heap.size + 2 by omega))
  have F3 := Lib.hid (((P3.out.setFar (i := 0) HM0.out (.slice A9 n9 c9)).setFar (i := 0) HM1.out (.slice A8 n8 c8)).less (show w.heap.size ≤ w.heap.size + 2 by omega))
  have F4 : Hid (Grows w ((w3.setCell ⟨w.heap.size, 0, none⟩ (.slice A9 n9 c9)).setCell ⟨w.heap.size + 1, 0, none⟩ (.slice A8 n8 c8))) := (G3.out.setCell (Nat.le_refl _) _).setCell (show w.heap.size ≤ w.heap.size + 1 by omega) _
  go_wp2
  obtain ⟨wf, hwf⟩ : ∃ wf, (w3.setCell ⟨w.heap.size, 0, none⟩ (.slice A9 n9 c9)).setCell ⟨w.heap.size + 1, 0, none⟩ (.slice A8 n8 c8) = wf := ⟨_, rfl⟩
  rw [hwf] at F0 F1 F2 F3 F4 ⊢
  clear hwf z0 zf v0 vf
  have p0 := F0.out.cell
  have p1 := F1.out.cell
  refine bodyPost_ret (v := .tuple #[.agg #[.slice A9 n9 c9], .agg #[.slice A8 n8 c8]]) (by simp [results, Tryd.results16, go_sem, p0, p1]) rfl ?_
  exact ⟨_, K, _, L, rfl, ⟨SS.out, hK⟩, ⟨ST.out, hL⟩, F2.out, F3.out, F4.out⟩

set_option maxRecDepth 100000 in
set_option maxHeartbeats 8000000 in
theorem dUndl_any (A : Option Addr) (n c : Nat) (w : World) (hn : n ≤ maxLen) (hc : n ≤ c) (h : BytesAt w A n) :
    Calls Tryd.prog 5 #[.slice A n c] w fun e w' => e = .returned (.bool true) ∧ Below w.heap.size w w' := by
  by_cases hbig : 1048576 < n
  · clear h
    unfold maxLen at hn
    go_enter Tryd.func5, Tryd.ntmps5
    go_wp2
    go_ret
    exact ⟨rfl, (Grows.refl _).below⟩
  · have HD := Lib.hid (DrawUndoLayer_any A n c w hn hc h)
    clear h
    unfold maxLen at hn
    go_enter Tryd.func5, Tryd.ntmps5
    go_wp2_with fail
    refine (HD.out).mono ?_
    rintro e w1 ⟨v, K, u, L, rfl, ⟨hS, hK⟩, ⟨hT, hL⟩, hO, hQ, g1⟩
    obtain ⟨A0, n0, c0, rfl⟩ := hO.form3
    obtain ⟨B0, d0, e0, rfl⟩ := hQ.form3
    have hf := hS.fit hK
    have hg := hT.fit hL
    have HUB := Lib.hid (fun h => undo_back (xs := K) (bs := L) h)
    have hfP := undoL_fit K L
    have hfN := flatL_fit [K, L]
    obtain ⟨P, hP⟩ : ∃ P, undoL K L = P := ⟨_, rfl⟩
    obtain ⟨β, hβ⟩ : ∃ β, undoB K L = β := ⟨_, rfl⟩
    obtain ⟨N, hN⟩ : ∃ N, flatL [K, L] = N := ⟨_, rfl⟩
    obtain ⟨γ, hγ⟩ : ∃ γ, flatB [K, L] = γ := ⟨_, rfl⟩
    rw [hP] at HUB hfP
    rw [hβ] at HUB
    rw [hN] at HUB hfN
    rw [hγ] at HUB
    have hfM := flatL_fit [P, N]
    obtain ⟨M, hM⟩ : ∃ M, flatL [P, N] = M := ⟨_, rfl⟩
    obtain ⟨θ, hθ⟩ : ∃ θ, flatB [P, N] = θ := ⟨_, rfl⟩
    obtain ⟨σ, hσ⟩ : ∃ σ, sameL M L = σ := ⟨_, rfl⟩
    rw [hM] at HUB hfM
    rw [hθ, hσ] at HUB
    have HM1 := Lib.hid (fun (v u : Value) (b1 b2 : Nat) (w2 : World) (h1 : OwnE w2 b1 v K) (h2 : OwnE w2 b2 u L) => implUnd_own v u b1 b2 K L w2 hf hg h1 h2)
    have HM2 := Lib.hid (fun (v u : Value) (b1 b2 : Nat) (w2 : World) (h1 : OwnE w2 b1 v K) (h2 : OwnE w2 b2 u L) => specUnd_own v u b1 b2 K L w2 hf hg h1 h2)
    have HF1 := Lib.hid (fun (v u : Value) (b d g : Nat) (w2 : World) (h1 : OwnE w2 b v K) (h2 : OwnE w2 d u L) (hc : w2.cell? ⟨g, 0, none⟩ = some v) (hd : w2.cell? ⟨g, 1, none⟩ = some u) (hg2 : g < w2.heap.size) => implFlatten2_own v u b d g K L w2 hf hg h1 h2 hc hd hg2)
    have HF2 := Lib.hid (fun (v u : Value) (b d g : Nat) (w2 : World) (h1 : OwnE w2 b v P) (h2 : OwnE w2 d u N) (hc : w2.cell? ⟨g, 0, none⟩ = some v) (hd : w2.cell? ⟨g, 1, none⟩ = some u) (hg2 : g < w2.heap.size) => implFlatten2_own v u b d g P N w2 hfP hfN h1 h2 hc hd hg2)
    have HSM := Lib.hid (fun (v u : Value) (b1 b2 : Nat) (w2 : World) (h1 : OwnE w2 b1 v M) (h2 : OwnE w2 b2 u L) => implSameU_own v u b1 b2 M L w2 hfM hg h1 h2)
    rw [hP, hβ] at HM1 HM2
    rw [hN, hγ] at HF1
    rw [hM, hθ] at HF2
    rw [hσ] at HSM
    unfold ResEB at HM1 HM2 HF1 HF2
    have hP20 : P.length ≤ 1048576 := hfP.1
    have O0_1 := Lib.hid hO
    have L0_1 := Lib.hid hQ
    have T1 : Hid (Grows w1 w1) := Grows.refl _
    have HG1 := Lib.hid g1
    clear hS hT hO hQ g1 hf hg HD hfP hfN hfM hP hβ hN hγ hM hθ hσ
    go_upto_region 4 with (fail)
    obtain ⟨w2, hw2⟩ : ∃ w', w1.alloc (.cells #[.slice A0 n0 c0] 27) = w' := ⟨_, rfl⟩
    have X3_2 : Hid (Box w2 w1.heap.size (.slice A0 n0 c0) 27) := hw2 ▸ heap_alloc_new w1 _
    have gq : Grows w1 w2 := hw2 ▸ (Grows.refl w1).alloc _
    have hs2 : w2.heap.size = w1.heap.size + 1 := by rw [← hw2]; exact World.size_alloc _ _
    have T2 : Hid (Grows w1 w2) := T1.out.trans gq
    have O0_2 := Lib.hid (O0_1.out.keep gq)
    have L0_2 := Lib.hid (L0_1.out.keep gq)
    clear O0_1 L0_1 T1
    clear gq
    obtain ⟨w3, hw3⟩ : ∃ w', w2.alloc (.cells #[.slice B0 d0 e0] 27) = w' := ⟨_, rfl⟩
    have X4_3 : Hid (Box w3 w2.heap.size (.slice B0 d0 e0) 27) := hw3 ▸ heap_alloc_new w2 _
    have gq : Grows w2 w3 := hw3 ▸ (Grows.refl w2).alloc _
    have T3 : Hid (Grows w1 w3) := T2.out.trans gq
    have O0_3 := Lib.hid (O0_2.out.keep gq)
    have L0_3 := Lib.hid (L0_2.out.keep gq)
    have X3_3 := Lib.hid (X3_2.out.keep gq)
    clear O0_2 L0_2 X3_2 T2
    clear gq
    rw [hw2, hw3]
    rw [hs2] at X4_3
    clear hw2 hw3 hs2
    have cX3 := X3_3.out.cell
    have cX4 := X4_3.out.cell
    go_wp2_with fail
    refine (HM1.out _ _ _ _ _ O0_3.out L0_3.out).mono ?_
    rintro e w4 ⟨u, rfl, hu, gq⟩
    clear cX3
    clear cX4
    have T4 : Hid (Grows w1 w4) := T3.out.trans gq
    have O0_4 := Lib.hid (O0_3.out.keep gq)
    have L0_4 := Lib.hid (L0_3.out.keep gq)
    have X3_4 := Lib.hid (X3_3.out.keep gq)
    have X4_4 := Lib.hid (X4_3.out.keep gq)
    clear O0_3 L0_3 X3_3 X4_3 T3
    clear gq
    obtain ⟨AO4, nO4, cO4, hu'⟩ := OwnE.form3 hu
    subst hu'
    have O4_4 := Lib.hid hu
    clear hu
    go_upto_region 5 with (fail)
    have X5_5 : Hid (Box (w4.alloc (.cells #[(.slice AO4 nO4 cO4)] 27)) w4.heap.size (.slice AO4 nO4 cO4) 27) := heap_alloc_new w4 _
    have gq : Grows w4 (w4.alloc (.cells #[(.slice AO4 nO4 cO4)] 27)) := (Grows.refl _).alloc _
    obtain ⟨w5, hw5⟩ : ∃ w', (w4.alloc (.cells #[(.slice AO4 nO4 cO4)] 27)) = w' := ⟨_, rfl⟩
    rw [hw5] at X5_5 gq ⊢
    clear hw5
    have T5 : Hid (Grows w1 w5) := T4.out.trans gq
    have O0_5 := Lib.hid (O0_4.out.keep gq)
    have L0_5 := Lib.hid (L0_4.out.keep gq)
    have X3_5 := Lib.hid (X3_4.out.keep gq)
    have X4_5 := Lib.hid (X4_4.out.keep gq)
    have O4_5 := Lib.hid (O4_4.out.keep gq)
    clear O0_4 L0_4 X3_4 X4_4 O4_4 T4
    clear gq
    obtain ⟨b_X5, hbb⟩ : ∃ b, w4.heap.size = b := ⟨_, rfl⟩
    rw [hbb] at X5_5 ⊢
    clear hbb
    have cX3 := X3_5.out.cell
    have cX4 := X4_5.out.cell
    go_wp2_with fail
    refine (HM2.out _ _ _ _ _ O0_5.out L0_5.out).mono ?_
    rintro e w6 ⟨u, rfl, hu, gq⟩
    clear cX3
    clear cX4
    have T6 : Hid (Grows w1 w6) := T5.out.trans gq
    have O0_6 := Lib.hid (O0_5.out.keep gq)
    have L0_6 := Lib.hid (L0_5.out.keep gq)
    have X3_6 := Lib.hid (X3_5.out.keep gq)
    have X4_6 := Lib.hid (X4_5.out.keep gq)
    have O4_6 := Lib.hid (O4_5.out.keep gq)
    have X5_6 := Lib.hid (X5_5.out.keep gq)
    clear O0_5 L0_5 X3_5 X4_5 O4_5 X5_5 T5
    clear gq
    obtain ⟨AO5, nO5, cO5, hu'⟩ := OwnE.form3 hu
    subst hu'
    have O5_6 := Lib.hid hu
    clear hu
    go_upto_region 6 with (fail)
    have X7_7 : Hid (Box (w6.alloc (.cells #[(.slice AO5 nO5 cO5)] 27)) w6.heap.size (.slice AO5 nO5 cO5) 27) := heap_alloc_new w6 _
    have gq : Grows w6 (w6.alloc (.cells #[(.slice AO5 nO5 cO5)] 27)) := (Grows.refl _).alloc _
    obtain ⟨w7, hw7⟩ : ∃ w', (w6.alloc (.cells #[(.slice AO5 nO5 cO5)] 27)) = w' := ⟨_, rfl⟩
    rw [hw7] at X7_7 gq ⊢
    clear hw7
    have T7 : Hid (Grows w1 w7) := T6.out.trans gq
    have O0_7 := Lib.hid (O0_6.out.keep gq)
    have L0_7 := Lib.hid (L0_6.out.keep gq)
    have X3_7 := Lib.hid (X3_6.out.keep gq)
    have X4_7 := Lib.hid (X4_6.out.keep gq)
    have O4_7 := Lib.hid (O4_6.out.keep gq)
    have X5_7 := Lib.hid (X5_6.out.keep gq)
    have O5_7 := Lib.hid (O5_6.out.keep gq)
    clear O0_6 L0_6 X3_6 X4_6 O4_6 X5_6 O5_6 T6
    clear gq
    obtain ⟨b_X7, hbb⟩ : ∃ b, w6.heap.size = b := ⟨_, rfl⟩
    rw [hbb] at X7_7 ⊢
    clear hbb
    have cX5 := X5_7.out.cell
    have cX7 := X7_7.out.cell
    go_wp2_with fail
    refine (equalLayer_own _ _ _ _ P _ hP20 O4_7.out O5_7.out).mono ?_
    rintro e w8 ⟨rfl, gq⟩
    clear cX5
    clear cX7
    have T8 : Hid (Grows w1 w8) := T7.out.trans gq
    have O0_8 := Lib.hid (O0_7.out.keep gq)
    have L0_8 := Lib.hid (L0_7.out.keep gq)
    have X3_8 := Lib.hid (X3_7.out.keep gq)
    have X4_8 := Lib.hid (X4_7.out.keep gq)
    have O4_8 := Lib.hid (O4_7.out.keep gq)
    have X5_8 := Lib.hid (X5_7.out.keep gq)
    have O5_8 := Lib.hid (O5_7.out.keep gq)
    have X7_8 := Lib.hid (X7_7.out.keep gq)
    clear O0_7 L0_7 X3_7 X4_7 O4_7 X5_7 O5_7 X7_7 T7
    clear gq
    rcases β with _ | _
    · have cX5 := X5_8.out.cell
      have cX7 := X7_8.out.cell
      go_wp2_with fail
      refine (equalLayer_own _ _ _ _ P _ hP20 O4_8.out O5_8.out).mono ?_
      rintro e w9 ⟨rfl, gq⟩
      clear cX5
      clear cX7
      have T9 : Hid (Grows w1 w9) := T8.out.trans gq
      have O0_9 := Lib.hid (O0_8.out.keep gq)
      have L0_9 := Lib.hid (L0_8.out.keep gq)
      have X3_9 := Lib.hid (X3_8.out.keep gq)
      have X4_9 := Lib.hid (X4_8.out.keep gq)
      have O4_9 := Lib.hid (O4_8.out.keep gq)
      have X5_9 := Lib.hid (X5_8.out.keep gq)
      have O5_9 := Lib.hid (O5_8.out.keep gq)
      have X7_9 := Lib.hid (X7_8.out.keep gq)
      clear O0_8 L0_8 X3_8 X4_8 O4_8 X5_8 O5_8 X7_8 T8
      clear gq
      go_wp2
      go_ret
      exact ⟨rfl, (HG1.out.trans T9.out).below⟩
    · clear X7_8 O5_8 HM1 HM2
      obtain ⟨rfl, HSB⟩ := HUB.out rfl
      clear HUB
      go_upto_region 8 with (fail)
      have cX3 := X3_8.out.cell
      have cX4 := X4_8.out.cell
      go_wp2_with fail
      refine (HF1.out _ _ _ _ w8.heap.size _ (O0_8.out.keep ((Grows.refl _).alloc _)) (L0_8.out.keep ((Grows.refl _).alloc _)) (by simp) (by simp) (by simp)).mono ?_
      rintro e w9 ⟨u, rfl, hu, gq'⟩
      have gq : Grows w8 w9 := ((Grows.refl _).alloc _).trans gq'
      clear gq'
      clear cX3
      clear cX4
      have T9 : Hid (Grows w1 w9) := T8.out.trans gq
      have O0_9 := Lib.hid (O0_8.out.keep gq)
      have L0_9 := Lib.hid (L0_8.out.keep gq)
      have X3_9 := Lib.hid (X3_8.out.keep gq)
      have X4_9 := Lib.hid (X4_8.out.keep gq)
      have O4_9 := Lib.hid (O4_8.out.keep gq)
      have X5_9 := Lib.hid (X5_8.out.keep gq)
      clear O0_8 L0_8 X3_8 X4_8 O4_8 X5_8 T8
      clear gq
      obtain ⟨AO9, nO9, cO9, hu'⟩ := OwnE.form3 hu
      subst hu'
      have O9_9 := Lib.hid hu
      clear hu
      go_upto_region 9 with (fail)
      have X9_10 : Hid (Box (w9.alloc (.cells #[(.slice AO9 nO9 cO9)] 27)) w9.heap.size (.slice AO9 nO9 cO9) 27) := heap_alloc_new w9 _
      have gq : Grows w9 (w9.alloc (.cells #[(.slice AO9 nO9 cO9)] 27)) := (Grows.refl _).alloc _
      obtain ⟨w10, hw10⟩ : ∃ w', (w9.alloc (.cells #[(.slice AO9 nO9 cO9)] 27)) = w' := ⟨_, rfl⟩
      rw [hw10] at X9_10 gq ⊢
      clear hw10
      have T10 : Hid (Grows w1 w10) := T9.out.trans gq
      have O0_10 := Lib.hid (O0_9.out.keep gq)
      have L0_10 := Lib.hid (L0_9.out.keep gq)
      have X3_10 := Lib.hid (X3_9.out.keep gq)
      have X4_10 := Lib.hid (X4_9.out.keep gq)
      have O4_10 := Lib.hid (O4_9.out.keep gq)
      have X5_10 := Lib.hid (X5_9.out.keep gq)
      have O9_10 := Lib.hid (O9_9.out.keep gq)
      clear O0_9 L0_9 X3_9 X4_9 O4_9 X5_9 O9_9 T9
      clear gq
      obtain ⟨b_X9, hbb⟩ : ∃ b, w9.heap.size = b := ⟨_, rfl⟩
      rw [hbb] at X9_10 ⊢
      clear hbb
      have cX5 := X5_10.out.cell
      have cX9 := X9_10.out.cell
      go_wp2_with fail
      refine (HF2.out _ _ _ _ w10.heap.size _ (O4_10.out.keep ((Grows.refl _).alloc _)) (O9_10.out.keep ((Grows.refl _).alloc _)) (by simp) (by simp) (by simp)).mono ?_
      rintro e w11 ⟨u, rfl, hu, gq'⟩
      have gq : Grows w10 w11 := ((Grows.refl _).alloc _).trans gq'
      clear gq'
      clear cX5
      clear cX9
      have T11 : Hid (Grows w1 w11) := T10.out.trans gq
      have O0_11 := Lib.hid (O0_10.out.keep gq)
      have L0_11 := Lib.hid (L0_10.out.keep gq)
      have X3_11 := Lib.hid (X3_10.out.keep gq)
      have X4_11 := Lib.hid (X4_10.out.keep gq)
      have O4_11 := Lib.hid (O4_10.out.keep gq)
      have X5_11 := Lib.hid (X5_10.out.keep gq)
      have O9_11 := Lib.hid (O9_10.out.keep gq)
      have X9_11 := Lib.hid (X9_10.out.keep gq)
      clear O0_10 L0_10 X3_10 X4_10 O4_10 X5_10 O9_10 X9_10 T10
      clear gq
      obtain ⟨AO11, nO11, cO11, hu'⟩ := OwnE.form3 hu
      subst hu'
      have O11_11 := Lib.hid hu
      clear hu
      go_upto_region 10 with (fail)
      have X11_12 : Hid (Box (w11.alloc (.cells #[(.slice AO11 nO11 cO11)] 27)) w11.heap.size (.slice AO11 nO11 cO11) 27) := heap_alloc_new w11 _
      have gq : Grows w11 (w11.alloc (.cells #[(.slice AO11 nO11 cO11)] 27)) := (Grows.refl _).alloc _
      obtain ⟨w12, hw12⟩ : ∃ w', (w11.alloc (.cells #[(.slice AO11 nO11 cO11)] 27)) = w' := ⟨_, rfl⟩
      rw [hw12] at X11_12 gq ⊢
      clear hw12
      have T12 : Hid (Grows w1 w12) := T11.out.trans gq
      have O0_12 := Lib.hid (O0_11.out.keep gq)
      have L0_12 := Lib.hid (L0_11.out.keep gq)
      have X3_12 := Lib.hid (X3_11.out.keep gq)
      have X4_12 := Lib.hid (X4_11.out.keep gq)
      have O4_12 := Lib.hid (O4_11.out.keep gq)
      have X5_12 := Lib.hid (X5_11.out.keep gq)
      have O9_12 := Lib.hid (O9_11.out.keep gq)
      have X9_12 := Lib.hid (X9_11.out.keep gq)
      have O11_12 := Lib.hid (O11_11.out.keep gq)
      clear O0_11 L0_11 X3_11 X4_11 O4_11 X5_11 O9_11 X9_11 O11_11 T11
      clear gq
      obtain ⟨b_X11, hbb⟩ : ∃ b, w11.heap.size = b := ⟨_, rfl⟩
      rw [hbb] at X11_12 ⊢
      clear hbb
      rcases θ with _ | _
      · go_wp2
        go_ret
        exact ⟨rfl, (HG1.out.trans T12.out).below⟩
      · have hs := HSB rfl
        subst hs
        have cX11 := X11_12.out.cell
        have cX4 := X4_12.out.cell
        go_wp2_with fail
        refine (HSM.out _ _ _ _ _ O11_12.out L0_12.out).mono ?_
        rintro e w13 ⟨rfl, gq⟩
        clear cX11
        clear cX4
        have T13 : Hid (Grows w1 w13) := T12.out.trans gq
        have O0_13 := Lib.hid (O0_12.out.keep gq)
        have L0_13 := Lib.hid (L0_12.out.keep gq)
        have X3_13 := Lib.hid (X3_12.out.keep gq)
        have X4_13 := Lib.hid (X4_12.out.keep gq)
        have O4_13 := Lib.hid (O4_12.out.keep gq)
        have X5_13 := Lib.hid (X5_12.out.keep gq)
        have O9_13 := Lib.hid (O9_12.out.keep gq)
        have X9_13 := Lib.hid (X9_12.out.keep gq)
        have O11_13 := Lib.hid (O11_12.out.keep gq)
        have X11_13 := Lib.hid (X11_12.out.keep gq)
        clear O0_12 L0_12 X3_12 X4_12 O4_12 X5_12 O9_12 X9_12 O11_12 X11_12 T12
        clear gq
        go_wp2
        go_ret
        exact ⟨rfl, (HG1.out.trans T13.out).below⟩
end Go.Proofs.YtoicohheoddfjaaDoor
