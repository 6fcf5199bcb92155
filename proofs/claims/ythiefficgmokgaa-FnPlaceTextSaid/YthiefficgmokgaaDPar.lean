/-
  The drawn laws of PlaceText and ParsePlace, with the arguments that they generate. Condition: no more bytes than a slice may have.
-/
import Derived.Test.YthiefficgmokgaaDPlc
namespace Go.Proofs.Ythiefficgmokgaa
open Go.RowKit

/-! ### lists of longer texts -/
/-- all are texts of at most 90 bytes -/
def longsB (arr : Array Value) : Bool := arr.toList.all fun u => match u with | .string s => decide (s.size ≤ 90) | _ => false
theorem longs_get {arr : Array Value} (h : longsB arr = true) {i : Nat} (hi : i < arr.size) : ∃ s : ByteArray, arr[i]? = some (.string s) ∧ s.size ≤ 90 := by
  unfold longsB at h
  rw [List.all_eq_true] at h
  have h1 := h arr[i] (by simp)
  rw [Array.getElem?_eq_getElem hi]
  split at h1
  · rename_i s e
    exact ⟨s, by rw [e], by simpa using h1⟩
  · cases h1
/-- a call's end: a text of at most 90 bytes, at most d places further -/
def LStrRet (d g : Nat) (A : Option Addr) (n c p : Nat) (w : World) (e : Ending) (w' : World) : Prop := ∃ s : ByteArray, e = .returned (.string s) ∧ s.size ≤ 90 ∧ RdOn g A n c p d w w'
theorem LStrRet.of {d g : Nat} {A : Option Addr} {n c p : Nat} {w w0 : World} {e : Ending} {w' : World} (h : LStrRet d g A n c p w e w') (k : Grows w0 w) : LStrRet d g A n c p w0 e w' := by
  obtain ⟨s, h1, h2, q, h3, h4, h5, h6⟩ := h
  exact ⟨s, h1, h2, q, h3, h4, h5, (gb_of k).trans h6⟩
set_option maxRecDepth 100000 in
set_option maxHeartbeats 1000000 in
theorem ofL_any (b m k : Nat) (arr : Array Value) (t : TypeId) (g : Nat) (A : Option Addr) (n c p : Nat) (w : World) (hb : w.heap[b]? = some (.cells arr t (0, 0))) (hm : arr.size = m) (hm0 : 0 < m) (hm1 : m ≤ 1000) (hs : longsB arr = true) (hbg : b ≠ g)
    (hp : p ≤ 100000) (hn : n ≤ 2000) (h : Rd w g A n c p) :
    Calls Try.prog 28 #[.pointer (some ⟨g, 0, none⟩), .slice (some ⟨b, 0, none⟩) m k] w (LStrRet 1 g A n c p w) := by
  have HP := Lib.hid (pick_any (m : Int) g A n c p w (by omega) (by omega) hp hn h)
  have HS : Hid (∀ i, i < m → ∃ s : ByteArray, arr[i]? = some (.string s) ∧ s.size ≤ 90) := fun i hi => longs_get hs (by rw [hm]; exact hi)
  have HB : Hid (∀ w', w.grownBy w' (some g) → w'.heap[b]? = some (.cells arr t (0, 0))) := fun w' k => by
    have hlt : b < w.heap.size := by
      rcases Nat.lt_or_ge b w.heap.size with hlt | hge
      · exact hlt
      · rw [Array.getElem?_eq_none hge] at hb; cases hb
    exact (k.block b hlt (by intro e; injection e with e; exact hbg e)).trans hb
  clear hb hm hs h
  unfold PickRet at HP
  go_enter Try.func28, Try.ntmps28
  go_wp2_with fail
  refine (HP.out).mono ?_
  rintro e w1 ⟨x, rfl, hx0, hx1, hr, hg⟩
  obtain ⟨i, rfl⟩ := Int.eq_ofNat_of_zero_le hx0
  have hi : i < m := by have := hx1 (by omega); omega
  obtain ⟨s, hs1, hs2⟩ := HS.out i hi
  have HX := Lib.hid hs2
  have HR : Hid (RdOn g A n c p 1 w w1) := ⟨p + 1, by omega, Nat.le_refl _, hr, hg⟩
  have c0 : w1.cell? ⟨b, i, none⟩ = some (.string s) := (cell_of_row w1 b i _ _ _ (HB.out _ hg)).trans hs1
  clear hx1 hr hg hs1 hs2
  go_wp2
  go_ret
  exact ⟨s, rfl, HX.out, HR.out⟩


/-- a call's end: a place of short texts -/
def RefRet (d g : Nat) (A : Option Addr) (n c p : Nat) (w : World) (e : Ending) (w' : World) : Prop := ∃ s k : ByteArray, e = .returned (.agg #[.string s, .string k]) ∧ (s.size ≤ 41 ∧ k.size ≤ 41) ∧ RdOn g A n c p d w w'

set_option maxRecDepth 100000 in
set_option maxHeartbeats 2000000 in
theorem aRef_any (g : Nat) (A : Option Addr) (n c p : Nat) (w : World) (hp : p ≤ 90000) (hn : n ≤ 2000) (h : Rd w g A n c p) :
    Calls Try.prog 26 #[.pointer (some ⟨g, 0, none⟩)] w (RefRet 3 g A n c p w) := by
  have hne : w.heap.size ≠ g := Nat.ne_of_gt h.lt
  have H0 := Lib.hid h
  have HP := Lib.hid (pick_any 16 g A n c p (w.alloc (.cells #[.string ⟨#[]⟩, .string ⟨#[]⟩] 26)) (by omega) (by omega) (by omega) hn (h.keep ((Grows.refl w).alloc _)))
  have B0 : Hid ((w.alloc (.cells #[.string ⟨#[]⟩, .string ⟨#[]⟩] 26)).heap[w.heap.size]? = some (.cells #[.string ⟨#[]⟩, .string ⟨#[]⟩] 26 (0, 0))) := heap_alloc_new w _
  have GW : Hid (Grows w (w.alloc (.cells #[.string ⟨#[]⟩, .string ⟨#[]⟩] 26))) := (Grows.refl w).alloc _
  have HNE := Lib.hid hne
  clear h hne
  unfold PickRet at HP
  go_enter Try.func26, Try.ntmps26
  go_upto_region 1 with (fail)
  go_wp2_with fail
  refine (HP.out).mono ?_
  rintro e w1 ⟨x, rfl, hx0, hx1, hr, hg⟩
  have R1 := Lib.hid hr
  have B1 : Hid (w1.heap[w.heap.size]? = some (.cells #[.string ⟨#[]⟩, .string ⟨#[]⟩] 26 (0, 0))) := row_keep B0.out hg HNE.out
  have G1 : Hid (w.grownBy w1 (some g)) := (gb_of GW.out).trans hg
  clear hr hg hx1 B0 HP GW
  by_cases hx : x = 0
  · subst hx
    clear hx0
    go_wp2_with fail
    refine (anyName_any g A n c (p + 1) _ (by omega) hn R1.out).mono ?_
    rintro e w2 ⟨s, rfl, hs, q2, a2, b2, r2, k2⟩
    have HS := Lib.hid hs
    have R2 := Lib.hid r2
    have B2 : Hid (w2.heap[w.heap.size]? = some (.cells #[.string ⟨#[]⟩, .string ⟨#[]⟩] 26 (0, 0))) := row_keep B1.out k2 HNE.out
    have G2 := Lib.hid (G1.out.trans k2)
    clear hs r2 k2 B1 G1 R1
    go_wp2_with fail
    refine (anyName_any g A n c q2 _ (by omega) hn R2.out).mono ?_
    rintro e w3 ⟨t, rfl, ht, q3, a3, b3, r3, k3⟩
    have HT := Lib.hid ht
    have R3 := Lib.hid r3
    have B3 : Hid (w3.heap[w.heap.size]? = some (.cells #[.string ⟨#[]⟩, .string ⟨#[]⟩] 26 (0, 0))) := row_keep B2.out k3 HNE.out
    have G3 := Lib.hid (G2.out.trans k3)
    clear ht r3 k3 B2 G2 R2
    have q0 : w3.cell? ⟨w.heap.size, 0, none⟩ = some (.string ⟨#[]⟩) := by rw [cell_of_row w3 w.heap.size 0 _ _ _ B3.out]; rfl
    have q1 : w3.cell? ⟨w.heap.size, 1, none⟩ = some (.string ⟨#[]⟩) := by rw [cell_of_row w3 w.heap.size 1 _ _ _ B3.out]; rfl
    have f0 := frozen_of_row w3 w.heap.size 0 _ _ B3.out
    have f1 := frozen_of_row w3 w.heap.size 1 _ _ B3.out
    have RF : Hid (Rd ((w3.setCell ⟨w.heap.size, 0, none⟩ (.string s)).setCell ⟨w.heap.size, 1, none⟩ (.string t)) g A n c q3) := H0.out.setNew (H0.out.setNew R3.out (Nat.le_refl _) 0 _) (Nat.le_refl _) 1 _
    have GF : Hid (w.grownBy ((w3.setCell ⟨w.heap.size, 0, none⟩ (.string s)).setCell ⟨w.heap.size, 1, none⟩ (.string t)) (some g)) := gb_new (gb_new G3.out (Nat.le_refl _) 0 _) (Nat.le_refl _) 1 _
    go_wp2
    refine bodyPost_ret (v := .agg #[.string s, .string t]) (by simp [results, Try.results26, go_sem, q0, q1]) rfl ⟨s, t, rfl, ⟨HS.out, HT.out⟩, q3, by omega, by omega, RF.out, GF.out⟩
  · have hb : (x == 0) = false := beq_eq_false_iff_ne.2 hx
    clear hx hx0
    go_wp2_with fail
    refine (aSection_any g A n c (p + 1) _ (by omega) hn R1.out).mono ?_
    rintro e w2 ⟨s, rfl, hs, q2, a2, b2, r2, k2⟩
    have HS := Lib.hid hs
    have R2 := Lib.hid r2
    have B2 : Hid (w2.heap[w.heap.size]? = some (.cells #[.string ⟨#[]⟩, .string ⟨#[]⟩] 26 (0, 0))) := row_keep B1.out k2 HNE.out
    have G2 := Lib.hid (G1.out.trans k2)
    clear hs r2 k2 B1 G1 R1
    go_wp2_with fail
    refine (aKey_any g A n c q2 _ (by omega) hn R2.out).mono ?_
    rintro e w3 ⟨t, rfl, ht, q3, a3, b3, r3, k3⟩
    have HT := Lib.hid ht
    have R3 := Lib.hid r3
    have B3 : Hid (w3.heap[w.heap.size]? = some (.cells #[.string ⟨#[]⟩, .string ⟨#[]⟩] 26 (0, 0))) := row_keep B2.out k3 HNE.out
    have G3 := Lib.hid (G2.out.trans k3)
    clear ht r3 k3 B2 G2 R2
    have q0 : w3.cell? ⟨w.heap.size, 0, none⟩ = some (.string ⟨#[]⟩) := by rw [cell_of_row w3 w.heap.size 0 _ _ _ B3.out]; rfl
    have q1 : w3.cell? ⟨w.heap.size, 1, none⟩ = some (.string ⟨#[]⟩) := by rw [cell_of_row w3 w.heap.size 1 _ _ _ B3.out]; rfl
    have f0 := frozen_of_row w3 w.heap.size 0 _ _ B3.out
    have f1 := frozen_of_row w3 w.heap.size 1 _ _ B3.out
    have RF : Hid (Rd ((w3.setCell ⟨w.heap.size, 0, none⟩ (.string s)).setCell ⟨w.heap.size, 1, none⟩ (.string t)) g A n c q3) := H0.out.setNew (H0.out.setNew R3.out (Nat.le_refl _) 0 _) (Nat.le_refl _) 1 _
    have GF : Hid (w.grownBy ((w3.setCell ⟨w.heap.size, 0, none⟩ (.string s)).setCell ⟨w.heap.size, 1, none⟩ (.string t)) (some g)) := gb_new (gb_new G3.out (Nat.le_refl _) 0 _) (Nat.le_refl _) 1 _
    go_wp2
    refine bodyPost_ret (v := .agg #[.string s, .string t]) (by simp [results, Try.results26, go_sem, q0, q1]) rfl ⟨s, t, rfl, ⟨HS.out, HT.out⟩, q3, by omega, by omega, RF.out, GF.out⟩

set_option maxHeartbeats 1000000 in
theorem DrawPlaceText_any (A : Option Addr) (n c : Nat) (w : World) (hn : n ≤ maxLen) (hc : n ≤ c) (h : BytesAt w A n) :
    Calls Try.prog 15 #[.slice A n c] w fun e w' => ∃ s k : ByteArray, e = .returned (.agg #[.string s, .string k]) ∧ (s.size ≤ 41 ∧ k.size ≤ 41) ∧ Grows w w' := by
  have HB := Lib.hid (h.keep ((Grows.refl w).alloc (.cells #[.string ⟨#[]⟩, .string ⟨#[]⟩] 26)))
  have B0 : Hid ((w.alloc (.cells #[.string ⟨#[]⟩, .string ⟨#[]⟩] 26)).heap[w.heap.size]? = some (.cells #[.string ⟨#[]⟩, .string ⟨#[]⟩] 26 (0, 0))) := heap_alloc_new w _
  have GW : Hid (Grows w (w.alloc (.cells #[.string ⟨#[]⟩, .string ⟨#[]⟩] 26))) := (Grows.refl w).alloc _
  have hz : w.heap.size < (w.alloc (.cells #[.string ⟨#[]⟩, .string ⟨#[]⟩] 26)).heap.size := by simp
  clear h
  go_enter Try.func15, Try.ntmps15
  go_upto_region 1 with (fail)
  obtain ⟨w0, hw0⟩ : ∃ w0, w.alloc (.cells #[.string ⟨#[]⟩, .string ⟨#[]⟩] 26) = w0 := ⟨_, rfl⟩
  rw [hw0] at HB B0 GW hz ⊢
  clear hw0
  go_wp2_with fail
  refine (newReader_any A n c _ hn hc HB.out).mono ?_
  rintro e w1 ⟨A1, n1, c1, g, rfl, hn1, hg, r1, k1⟩
  have R1 := Lib.hid r1
  have G1 : Hid (Grows w w1) := GW.out.trans k1
  have B1 := Lib.hid (row_grow B0.out k1)
  clear r1 k1 HB GW B0
  go_wp2_with fail
  refine (aRef_any g A1 n1 c1 0 _ (by omega) hn1 R1.out).mono ?_
  rintro e w2 ⟨s, t, rfl, hs, q2, a2, b2, r2, k2⟩
  have HS := Lib.hid hs
  have B2 := Lib.hid (row_keep B1.out k2 (by omega))
  have G2 : Hid (Grows w w2) := G1.out.mark k2 (fun i hi => by injection hi with hi; omega)
  have q0 : w2.cell? ⟨w.heap.size, 0, none⟩ = some (.string ⟨#[]⟩) := by rw [cell_of_row w2 w.heap.size 0 _ _ _ B2.out]; rfl
  have q1 : w2.cell? ⟨w.heap.size, 1, none⟩ = some (.string ⟨#[]⟩) := by rw [cell_of_row w2 w.heap.size 1 _ _ _ B2.out]; rfl
  have f0 := frozen_of_row w2 w.heap.size 0 _ _ B2.out
  have f1 := frozen_of_row w2 w.heap.size 1 _ _ B2.out
  clear r2 k2 hs G1 B1 R1
  go_wp2
  refine bodyPost_ret (v := .agg #[.string s, .string t]) (by simp [results, Try.results15, go_sem, q0, q1]) rfl ⟨s, t, rfl, HS.out, ?_⟩
  exact (G2.out.setCell (by exact Nat.le_refl _) _).setCell (by exact Nat.le_refl _) _

theorem plT_83 {a b : ByteArray} (ha : a.size ≤ 41) (hb : b.size ≤ 41) : (plT a b).size ≤ 90 := Nat.le_trans (plT_size a b) (by omega)
set_option maxRecDepth 100000 in
set_option maxHeartbeats 4000000 in
theorem DrawParsePlace_any (A : Option Addr) (n c : Nat) (w : World) (hn : n ≤ maxLen) (hc : n ≤ c) (h : BytesAt w A n) :
    Calls Try.prog 16 #[.slice A n c] w fun e w' => ∃ s : ByteArray, e = .returned (.string s) ∧ s.size ≤ 90 ∧ Grows w w' := by
  have HB := Lib.hid h
  clear h
  go_enter Try.func16, Try.ntmps16
  go_wp2_with fail
  refine (newReader_any A n c _ hn hc HB.out).mono ?_
  rintro e w1 ⟨A1, n1, c1, g, rfl, hn1, hg, r1, k1⟩
  have R1 := Lib.hid r1
  have G1 := Lib.hid k1
  clear r1 k1 HB
  go_wp2_with fail
  refine (aSection_any g A1 n1 c1 0 _ (by omega) hn1 R1.out).mono ?_
  rintro e w2 ⟨s1, rfl, hs1, q2, a2, b2, r2, k2⟩
  have Hs1 := Lib.hid hs1
  have R2 := Lib.hid r2
  have G2 : Hid (Grows w w2) := G1.out.mark k2 (fun i hi => by injection hi with hi; omega)
  clear hs1 r2 k2 R1 G1
  go_wp2_with fail
  refine (aKey_any g A1 n1 c1 q2 _ (by omega) hn1 R2.out).mono ?_
  rintro e w3 ⟨t1, rfl, ht1, q3, a3, b3, r3, k3⟩
  have Ht1 := Lib.hid ht1
  have R3 := Lib.hid r3
  have G3 : Hid (Grows w w3) := G2.out.mark k3 (fun i hi => by injection hi with hi; omega)
  clear ht1 r3 k3 R2 G2
  go_wp2_with fail
  refine (specPlT_any s1 t1 _ (show s1.size ≤ 1048576 from Nat.le_trans Hs1.out (by omega)) (show t1.size ≤ 1048576 from Nat.le_trans Ht1.out (by omega))).mono ?_
  rintro e w' ⟨rfl, rfl⟩
  go_wp2_with fail
  refine (aSection_any g A1 n1 c1 q3 _ (by omega) hn1 R3.out).mono ?_
  rintro e w4 ⟨s2, rfl, hs2, q4, a4, b4, r4, k4⟩
  have Hs2 := Lib.hid hs2
  have R4 := Lib.hid r4
  have G4 : Hid (Grows w w4) := G3.out.mark k4 (fun i hi => by injection hi with hi; omega)
  clear hs2 r4 k4 R3 G3
  go_wp2_with fail
  refine (aKey_any g A1 n1 c1 q4 _ (by omega) hn1 R4.out).mono ?_
  rintro e w5 ⟨t2, rfl, ht2, q5, a5, b5, r5, k5⟩
  have Ht2 := Lib.hid ht2
  have R5 := Lib.hid r5
  have G5 : Hid (Grows w w5) := G4.out.mark k5 (fun i hi => by injection hi with hi; omega)
  clear ht2 r5 k5 R4 G4
  go_wp2_with fail
  refine (specPlT_any s2 t2 _ (show s2.size ≤ 1048576 from Nat.le_trans Hs2.out (by omega)) (show t2.size ≤ 1048576 from Nat.le_trans Ht2.out (by omega))).mono ?_
  rintro e w' ⟨rfl, rfl⟩
  have HU : Hid ((plT s1 t1).size ≤ 90 ∧ (plT s2 t2).size ≤ 90) := ⟨plT_83 Hs1.out Ht1.out, plT_83 Hs2.out Ht2.out⟩
  generalize plT s1 t1 = u1 at HU ⊢
  generalize plT s2 t2 = u2 at HU ⊢
  clear Hs1 Hs2 Ht1 Ht2
  go_wp2_with fail
  refine (ofL_any w5.heap.size 9 _ _ _ g A1 n1 c1 q5 _ (heap_alloc_new w5 _) rfl (by decide) (by decide) (by simp [longsB, HU.out.1, HU.out.2]; decide) (Nat.ne_of_gt R5.out.lt) (by omega) hn1 (R5.out.keep ((Grows.refl w5).alloc _))).mono ?_
  rintro e w6 h6
  obtain ⟨s, rfl, hs, q6, a6, b6, r6, k6⟩ := LStrRet.of h6 ((Grows.refl w5).alloc _)
  have HS := Lib.hid hs
  have G6 : Hid (Grows w w6) := G5.out.mark k6 (fun i hi => by injection hi with hi; omega)
  clear r6 k6 hs h6
  go_wp2
  go_ret
  exact ⟨s, rfl, HS.out, G6.out⟩

set_option maxHeartbeats 4000000 in
theorem dPl_any (A : Option Addr) (n c : Nat) (w : World) (hn : n ≤ maxLen) (hc : n ≤ c) (h : BytesAt w A n) :
    Calls Try.prog 5 #[.slice A n c] w fun e w' => e = .returned (.bool true) ∧ Below w.heap.size w w' := by
  by_cases hbig : 1048576 < n
  · clear h
    unfold maxLen at hn
    go_enter Try.func5, Try.ntmps5
    go_wp2
    go_ret
    exact ⟨rfl, (Grows.refl _).below⟩
  · have HD := Lib.hid (DrawPlaceText_any A n c w hn hc h)
    clear h
    unfold maxLen at hn
    go_enter Try.func5, Try.ntmps5
    go_wp2_with fail
    refine (HD.out).mono ?_
    rintro e w1 ⟨r, k, rfl, hrk, g1⟩
    have HI := Lib.hid (fun w2 => implPl_any r k w2 (by omega) (by omega))
    have HS := Lib.hid (fun w2 => specPl_any r k w2 (by omega) (by omega))
    have HG1 := Lib.hid g1
    have HPP := Lib.hid (fun w2 => implParse_any (plT r k) w2 (Nat.le_trans (plT_83 hrk.1 hrk.2) (by omega)))
    clear g1 HD hrk
    have heq := fun w => eqRefSelf r k w
    go_upto_region 4 with (fail)
    have B1 := Lib.hid (RefBox.new w1 r k)
    have HG2 : Hid (Grows w (w1.alloc (.cells #[.string r, .string k] 26))) := HG1.out.alloc _
    generalize w1.heap.size = bB1 at B1 ⊢
    obtain ⟨w2, hw2⟩ : ∃ w', w1.alloc (.cells #[.string r, .string k] 26) = w' := ⟨_, rfl⟩
    rw [hw2] at B1 HG2 ⊢
    clear hw2 HG1
    by_cases hv : vplace r k = true
    · have e1 : plTB r k = plT r k := by unfold plTB; rw [if_pos hv]
      obtain ⟨a1, a2, a3⟩ := pl_read hv
      have hz := (pl_size hv).2
      rw [a1, a2, a3] at HPP
      rw [e1] at HI HS
      generalize plT r k = t at HI HS HPP hz
      have hne : t.toList.isEmpty = false := isEmpty_ne hz
      clear hv e1 a1 a2 a3 hz
      obtain ⟨B1x, B1y, B1z⟩ := B1.out
      go_wp2_with fail
      refine (HI.out _).mono ?_
      rintro e w3 ⟨rfl, g3⟩
      have HG3 : Hid (Grows w w3) := HG2.out.trans g3
      have B1n := Lib.hid (B1.out.keep g3)
      clear B1 B1x B1y B1z
      have B1 := B1n
      clear B1n
      clear g3 HG2
      obtain ⟨B1x, B1y, B1z⟩ := B1.out
      go_wp2_with fail
      refine (HS.out _).mono ?_
      rintro e w4 ⟨rfl, g4⟩
      have HG4 : Hid (Grows w w4) := HG3.out.trans g4
      have B1n := Lib.hid (B1.out.keep g4)
      clear B1 B1x B1y B1z
      have B1 := B1n
      clear B1n
      clear g4 HG3
      obtain ⟨B1x, B1y, B1z⟩ := B1.out
      go_wp2_with fail
      refine (HPP.out _).mono ?_
      rintro e w5 ⟨rfl, g5⟩
      have HG5 : Hid (Grows w w5) := HG4.out.trans g5
      have B1n := Lib.hid (B1.out.keep g5)
      clear B1 B1x B1y B1z
      have B1 := B1n
      clear B1n
      clear g5 HG4
      go_upto_region 8 with (fail)
      have D1 := Lib.hid (RefBox.new w5 r k)
      have B1n := Lib.hid (B1.out.keep ((Grows.refl w5).alloc (.cells #[.string r, .string k] 26)))
      have HG6 : Hid (Grows w (w5.alloc (.cells #[.string r, .string k] 26))) := HG5.out.alloc _
      generalize w5.heap.size = bD1 at D1 ⊢
      obtain ⟨w6, hw6⟩ : ∃ w', w5.alloc (.cells #[.string r, .string k] 26) = w' := ⟨_, rfl⟩
      rw [hw6] at D1 B1n HG6 ⊢
      clear hw6 HG5
      clear B1
      have B1 := B1n
      clear B1n
      obtain ⟨x0, x1, x2⟩ := B1.out
      obtain ⟨y0, y1, y2⟩ := D1.out
      go_wp2
      go_ret
      exact ⟨rfl, HG6.out.below⟩
    · have e1 : plTB r k = ⟨#[]⟩ := by unfold plTB; rw [if_neg hv]
      rw [e1] at HI HS
      clear hv e1 HPP
      obtain ⟨B1x, B1y, B1z⟩ := B1.out
      go_wp2_with fail
      refine (HI.out _).mono ?_
      rintro e w3 ⟨rfl, g3⟩
      have HG3 : Hid (Grows w w3) := HG2.out.trans g3
      have B1n := Lib.hid (B1.out.keep g3)
      clear B1 B1x B1y B1z
      have B1 := B1n
      clear B1n
      clear g3 HG2
      obtain ⟨B1x, B1y, B1z⟩ := B1.out
      go_wp2_with fail
      refine (HS.out _).mono ?_
      rintro e w4 ⟨rfl, g4⟩
      have HG4 : Hid (Grows w w4) := HG3.out.trans g4
      have B1n := Lib.hid (B1.out.keep g4)
      clear B1 B1x B1y B1z
      have B1 := B1n
      clear B1n
      clear g4 HG3
      obtain ⟨B1x, B1y, B1z⟩ := B1.out
      go_wp2_with fail
      refine (HS.out _).mono ?_
      rintro e w5 ⟨rfl, g5⟩
      have HG5 : Hid (Grows w w5) := HG4.out.trans g5
      have B1n := Lib.hid (B1.out.keep g5)
      clear B1 B1x B1y B1z
      have B1 := B1n
      clear B1n
      clear g5 HG4
      go_wp2
      go_ret
      exact ⟨rfl, HG5.out.below⟩

set_option maxHeartbeats 4000000 in
theorem dPar_any (A : Option Addr) (n c : Nat) (w : World) (hn : n ≤ maxLen) (hc : n ≤ c) (h : BytesAt w A n) :
    Calls Try.prog 6 #[.slice A n c] w fun e w' => e = .returned (.bool true) ∧ Below w.heap.size w w' := by
  by_cases hbig : 1048576 < n
  · clear h
    unfold maxLen at hn
    go_enter Try.func6, Try.ntmps6
    go_wp2
    go_ret
    exact ⟨rfl, (Grows.refl _).below⟩
  · have HD := Lib.hid (DrawParsePlace_any A n c w hn hc h)
    clear h
    unfold maxLen at hn
    go_enter Try.func6, Try.ntmps6
    go_wp2_with fail
    refine (HD.out).mono ?_
    rintro e w1 ⟨s, rfl, hs, g1⟩
    have HI := Lib.hid (fun w2 => implParse_any s w2 (by omega))
    have HS := Lib.hid (fun w2 => specParse_any s w2 (by omega))
    have HG1 := Lib.hid g1
    have HPT := Lib.hid (fun (h : parB s = true) => show plTB (resS s) (resK s) = s by unfold resS resK; rw [if_pos h, if_pos h]; exact par_text h)
    have HT := Lib.hid (fun w2 => implPl_any (resS s) (resK s) w2 (Nat.le_trans (resS_le s) (by omega)) (Nat.le_trans (resK_le s) (by omega)))
    clear g1 HD hs
    generalize resS s = a at HI HS HPT HT
    generalize resK s = b at HI HS HPT HT
    obtain ⟨β, hβ⟩ : ∃ β, parB s = β := ⟨_, rfl⟩
    rw [hβ] at HI HS HPT
    clear hβ
    have HE := Lib.hid (fun w1 => equalRefL_any a b w1)
    go_upto_region 4 with (fail)
    go_wp2_with fail
    refine (HI.out _).mono ?_
    rintro e w2 ⟨rfl, g2⟩
    have HG2 : Hid (Grows w w2) := HG1.out.trans g2
    clear g2 HG1
    go_upto_region 5 with (fail)
    have B1 := Lib.hid (RefBox.new w2 a b)
    have HG3 : Hid (Grows w (w2.alloc (.cells #[.string a, .string b] 26))) := HG2.out.alloc _
    generalize w2.heap.size = bB1 at B1 ⊢
    obtain ⟨w3, hw3⟩ : ∃ w', w2.alloc (.cells #[.string a, .string b] 26) = w' := ⟨_, rfl⟩
    rw [hw3] at B1 HG3 ⊢
    clear hw3 HG2
    obtain ⟨B1x, B1y, B1z⟩ := B1.out
    go_wp2_with fail
    refine (HS.out _).mono ?_
    rintro e w4 ⟨rfl, g4⟩
    have HG4 : Hid (Grows w w4) := HG3.out.trans g4
    have B1n := Lib.hid (B1.out.keep g4)
    clear B1 B1x B1y B1z
    have B1 := B1n
    clear B1n
    clear g4 HG3
    go_upto_region 6 with (fail)
    have D1 := Lib.hid (RefBox.new w4 a b)
    have B1n := Lib.hid (B1.out.keep ((Grows.refl w4).alloc (.cells #[.string a, .string b] 26)))
    have HG5 : Hid (Grows w (w4.alloc (.cells #[.string a, .string b] 26))) := HG4.out.alloc _
    generalize w4.heap.size = bD1 at D1 ⊢
    obtain ⟨w5, hw5⟩ : ∃ w', w4.alloc (.cells #[.string a, .string b] 26) = w' := ⟨_, rfl⟩
    rw [hw5] at D1 B1n HG5 ⊢
    clear hw5 HG4
    clear B1
    have B1 := B1n
    clear B1n
    rcases β with _ | _
    · clear HPT HT
      obtain ⟨B1x, B1y, B1z⟩ := B1.out
      obtain ⟨D1x, D1y, D1z⟩ := D1.out
      go_wp2_with fail
      refine (HE.out _).mono ?_
      rintro e w6 ⟨rfl, g6⟩
      have HG6 : Hid (Grows w w6) := HG5.out.trans g6
      have B1n := Lib.hid (B1.out.keep g6)
      clear B1 B1x B1y B1z
      have B1 := B1n
      clear B1n
      have D1n := Lib.hid (D1.out.keep g6)
      clear D1 D1x D1y D1z
      have D1 := D1n
      clear D1n
      clear g6 HG5
      obtain ⟨B1x, B1y, B1z⟩ := B1.out
      obtain ⟨D1x, D1y, D1z⟩ := D1.out
      go_wp2_with fail
      refine (HE.out _).mono ?_
      rintro e w7 ⟨rfl, g7⟩
      have HG7 : Hid (Grows w w7) := HG6.out.trans g7
      have B1n := Lib.hid (B1.out.keep g7)
      clear B1 B1x B1y B1z
      have B1 := B1n
      clear B1n
      have D1n := Lib.hid (D1.out.keep g7)
      clear D1 D1x D1y D1z
      have D1 := D1n
      clear D1n
      clear g7 HG6
      go_wp2
      go_ret
      exact ⟨rfl, HG7.out.below⟩
    · have hpt := HPT.out rfl
      rw [hpt] at HT
      clear HPT hpt
      obtain ⟨B1x, B1y, B1z⟩ := B1.out
      obtain ⟨D1x, D1y, D1z⟩ := D1.out
      go_wp2_with fail
      refine (HE.out _).mono ?_
      rintro e w6 ⟨rfl, g6⟩
      have HG6 : Hid (Grows w w6) := HG5.out.trans g6
      have B1n := Lib.hid (B1.out.keep g6)
      clear B1 B1x B1y B1z
      have B1 := B1n
      clear B1n
      have D1n := Lib.hid (D1.out.keep g6)
      clear D1 D1x D1y D1z
      have D1 := D1n
      clear D1n
      clear g6 HG5
      obtain ⟨B1x, B1y, B1z⟩ := B1.out
      obtain ⟨D1x, D1y, D1z⟩ := D1.out
      go_wp2_with fail
      refine (HT.out _).mono ?_
      rintro e w7 ⟨rfl, g7⟩
      have HG7 : Hid (Grows w w7) := HG6.out.trans g7
      have B1n := Lib.hid (B1.out.keep g7)
      clear B1 B1x B1y B1z
      have B1 := B1n
      clear B1n
      have D1n := Lib.hid (D1.out.keep g7)
      clear D1 D1x D1y D1z
      have D1 := D1n
      clear D1n
      clear g7 HG6
      go_wp2
      go_ret
      exact ⟨rfl, HG7.out.below⟩
end Go.Proofs.Ythiefficgmokgaa
