/-
  The law of TidyFile: whatever its arguments, it returns true. Conditions: parts no longer than a text may be.
-/
import Derived.Test.YteifcogfnpeahaaTidyS
import Derived.Test.YteifcogfnpeahaaRegM
namespace Go.Proofs.Yteifcogfnpeahaa
open Go.RowKit

set_option maxRecDepth 100000 in
set_option maxHeartbeats 8000000 in
theorem lawTidy_any (A : Option Addr) (c : Nat) (ls : List Ln) (w : World) (hn : ls.length ≤ maxLen) (hr : ∀ i (h : i < ls.length), ls[i].inReach) (hA : LnsAt w A ls) :
    Calls Try.prog 12 #[.agg #[.slice A ls.length c]] w fun e w' => e = .returned (.bool true) ∧ Below w.heap.size w w' := by
  have HZ := Lib.hid (fun w1 (g : Grows w w1) => szFile_any A c ls 1048576 w1 (by omega) (by omega) hn hr (hA.keep g))
  by_cases hw : (wlines ls : Int) ≤ 1048576
  · have hf := fits_of hw
    rw [less_of hw] at HZ
    have HT := Lib.hid (fun w1 (g : Grows w w1) => toFile_any A c ls w1 hf.1 (hA.keep g))
    have HO := Lib.hid (fun w1 (g : Grows w w1) => toFile_own A c ls w1 hf.1 (hA.keep g))
    have HV := Lib.hid (fun (B : Option Addr) (d : Nat) w1 (h : LnsAt w1 B ls) => specTidy_any B d ls  w1 hf h)
    have HI := Lib.hid (fun (B : Option Addr) (d : Nat) w1 (h : LnsAt w1 B ls) => implTidy_any B d ls  w1 hf h)
    have HEF := Lib.hid (fun (B C : Option Addr) (d e : Nat) w1 (h : LnsAt w1 B ls) (h2 : LnsAt w1 C ls) => eqFile_any B C d e ls w1 hn h h2)
    have hxl : (tidyOf ls).length ≤ 1048576 := Nat.le_trans (tidy_le ls) (by omega)
    have HMF := Lib.hid (fun (g : Nat) (w1 : World) (h : Own6 w1 g ls.length) => markFile_any g ls.length ls.length 1 w1 hf.1 (by omega) h)
    obtain ⟨m, hm⟩ : ∃ m, (1048576 : Int) - (wlines ls : Int) = m := ⟨_, rfl⟩
    rw [hm] at HZ
    have hm0 : 0 ≤ m := by omega
    have hn6 := hf.1
    clear hA hr hw hf hn hm
    obtain ⟨n, hnn⟩ : ∃ n, ls.length = n := ⟨_, rfl⟩
    unfold FileRet at HT
    unfold FileOwn at HO
    unfold ResL at HV HI
    rw [hnn] at HZ HT HV HI HEF HO HMF hn6 ⊢
    clear hnn
    obtain ⟨xs, hxs⟩ : ∃ xs, tidyOf ls = xs := ⟨_, rfl⟩
    rw [hxs] at HV HI hxl
    clear hxs
    have HE := Lib.hid (fun (v u : Value) (b1 b2 : Nat) (w1 : World) (h : OwnL w1 b1 v xs) (h2 : OwnL w1 b2 u xs) => eqFile_own v u b1 b2 xs w1 hxl h h2)
    have HMG := Lib.hid (fun (v : Value) (b : Nat) (w1 : World) (h : OwnL w1 b v xs) => markFile_own v b xs.length 1 _ w1 hxl (by omega) h)
    have HHG := Lib.hid (fun (v : Value) (b : Nat) (w1 : World) (h : OwnR w1 b v xs.length (mcells 1 xs.length)) => heldFile_own v b xs.length 1 w1 hxl (by omega) h)
    obtain ⟨q, hq⟩ : ∃ q, xs.length = q := ⟨_, rfl⟩
    rw [hq] at HMG HHG hxl
    clear hq
    have e1 : ((1 + n * 6 : Nat) : Int) = 1 + (n : Int) * 6 := by omega
    have e2 : ((1 + q * 6 : Nat) : Int) = 1 + (q : Int) * 6 := by omega
    rw [e1] at HMF
    rw [e2] at HMG HHG
    clear e1 e2
    have e3 : ((1 : Nat) : Int) = 1 := rfl
    rw [e3] at HMF HMG HHG
    clear e3
    go_enter Try.func12, Try.ntmps12
    go_wp2_with fail
    refine (HZ.out _ ((Grows.refl _).alloc _)).mono ?_
    rintro e w1 ⟨rfl, g1⟩
    have A1 : Hid (Box w1 w.heap.size (.slice A n c) 54) := (Box.new w _ _).keep g1
    have T1 : Hid (Grows w w1) := ((Grows.refl _).alloc _).trans g1
    clear g1
    have cA := A1.out.cell
    have lA := A1.out.lt
    go_wp2_with fail
    refine (HT.out _ (by first | exact T1.out | exact T1.out.alloc _ | exact T1.out.drew)).mono ?_
    rintro e w2 ⟨B, rfl, hB, g2⟩
    have K2 : Hid (Grows w1 w2) := by first | exact g2 | exact ((Grows.refl _).alloc _).trans g2 | exact ((Grows.refl _).drew).trans g2
    have T2 : Hid (Grows w w2) := T1.out.trans K2.out
    have A2 := Lib.hid (A1.out.keep K2.out)
    clear A1
    have HB2 := Lib.hid hB
    clear hB g2
    clear cA lA
    go_wp2_with fail
    refine (HV.out _ _ _ HB2.out).mono ?_
    rintro e w3 ⟨v0, rfl, hv, g3⟩
    have K3 : Hid (Grows w2 w3) := by first | exact g3 | exact ((Grows.refl _).alloc _).trans g3 | exact ((Grows.refl _).drew).trans g3
    have T3 : Hid (Grows w w3) := T2.out.trans K3.out
    have A3 := Lib.hid (A2.out.keep K3.out)
    clear A2
    have V3 : Hid (OwnL w3 w2.heap.size v0 xs) := hv
    obtain ⟨A7, n7, c7, hv7⟩ := hv.form3
    subst hv7
    have NV : Hid (∀ k, (Value.slice A7 n7 c7).ownBlock = some k → k < w3.heap.size) := fun k hk => (V3.out.lt k hk).2
    clear hv g3 HB2
    have cA := A3.out.cell
    have lA := A3.out.lt
    go_wp2_with fail
    refine (HO.out _ (by first | exact T3.out | exact T3.out.alloc _ | exact T3.out.drew)).mono ?_
    rintro e w4 ⟨g, rfl, hC, hown, hgg, g4⟩
    have W4 : Hid (Box w4 w3.heap.size (.slice A7 n7 c7) 25) := (Box.new w3 _ _).keep g4
    have K4 : Hid (Grows w3 w4) := by first | exact g4 | exact ((Grows.refl _).alloc _).trans g4 | exact ((Grows.refl _).drew).trans g4
    have T4 : Hid (Grows w w4) := T3.out.trans K4.out
    have A4 := Lib.hid (A3.out.keep K4.out)
    have V4 := Lib.hid (V3.out.keep K4.out)
    clear A3 V3
    have C4 := Lib.hid hC
    have O4 := Lib.hid hown
    have NG : Hid (w3.heap.size + 1 ≤ g ∧ g < w4.heap.size) := ⟨by have h := hgg; simp only [World.size_alloc] at h; exact h, hown.lt⟩
    clear hC hown hgg g4
    clear cA lA
    go_wp2_with fail
    refine (HI.out _ _ _ (by first | exact C4.out | exact (C4.out).keep ((Grows.refl _).alloc _) | exact (C4.out).keep ((Grows.refl _).drew))).mono ?_
    rintro e w5 ⟨v1, rfl, hv, g5⟩
    have X5 : Hid (Box w5 w4.heap.size (.slice (some ⟨g, 0, none⟩) n n) 25) := (Box.new w4 _ _).keep g5
    have K5 : Hid (Grows w4 w5) := by first | exact g5 | exact ((Grows.refl _).alloc _).trans g5 | exact ((Grows.refl _).drew).trans g5
    have T5 : Hid (Grows w w5) := T4.out.trans K5.out
    have A5 := Lib.hid (A4.out.keep K5.out)
    have V5 := Lib.hid (V4.out.keep K5.out)
    have W5 := Lib.hid (W4.out.keep K5.out)
    have C5 := Lib.hid (C4.out.keep K5.out)
    have O5 := Lib.hid (O4.out.keep K5.out)
    clear A4 V4 W4 C4 O4
    have U5 : Hid (OwnL w5 (w4.heap.size + 1) v1 xs) := by have h := hv; simp only [World.size_alloc] at h; exact h
    obtain ⟨A8, n8, c8, hv8⟩ := hv.form3
    subst hv8
    have NU : Hid (∀ k, (Value.slice A8 n8 c8).ownBlock = some k → w4.heap.size + 1 ≤ k ∧ k < w5.heap.size) := fun k hk => U5.out.lt k hk
    clear hv g5
    have cW := W5.out.cell
    have lW := W5.out.lt
    have cX := X5.out.cell
    have lX := X5.out.lt
    have cA := A5.out.cell
    have lA := A5.out.lt
    go_wp2_with fail
    refine (HE.out _ _ _ _ _ (by first | exact U5.out | exact (U5.out).keep ((Grows.refl _).alloc _) | exact (U5.out).keep ((Grows.refl _).drew)) (by first | exact V5.out | exact (V5.out).keep ((Grows.refl _).alloc _) | exact (V5.out).keep ((Grows.refl _).drew))).mono ?_
    rintro e w6 ⟨rfl, g6⟩
    have G6 : Hid (Box w6 w5.heap.size (.slice A8 n8 c8) 25) := (Box.new w5 _ _).keep g6
    have K6 : Hid (Grows w5 w6) := by first | exact g6 | exact ((Grows.refl _).alloc _).trans g6 | exact ((Grows.refl _).drew).trans g6
    have T6 : Hid (Grows w w6) := T5.out.trans K6.out
    have A6 := Lib.hid (A5.out.keep K6.out)
    have V6 := Lib.hid (V5.out.keep K6.out)
    have W6 := Lib.hid (W5.out.keep K6.out)
    have C6 := Lib.hid (C5.out.keep K6.out)
    have O6 := Lib.hid (O5.out.keep K6.out)
    have X6 := Lib.hid (X5.out.keep K6.out)
    have U6 := Lib.hid (U5.out.keep K6.out)
    clear A5 V5 W5 C5 O5 X5 U5
    clear g6
    clear cW lW cX lX cA lA
    have cX := X6.out.cell
    have lX := X6.out.lt
    have cA := A6.out.cell
    have lA := A6.out.lt
    go_wp2_with fail
    refine wp_region_M 3 (CellsAre [(⟨w4.heap.size, 0, none⟩, .slice (some ⟨g, 0, none⟩) n n), (⟨w.heap.size, 0, none⟩, .slice A n c)]) (by kernel_rfl) (by kernel_rfl) ⟨cX, cA, trivial⟩ (fun hB hS => ?_)
    refine wpAnyM_take (i := 0) (v := ?va0) hB rfl (by kernel_rfl) (fun _ _ _ h => h) (by rfl) ?ya0 hS ?na0
    case ya0 => (intro w9 hSw; obtain ⟨s1, s2, _⟩ := hSw; go_simp; try with_reducible rfl)
    refine wpAnyM_take (i := 1) (v := ?va1) hB rfl (by kernel_rfl) (fun _ _ _ h => h) (by rfl) ?ya1 hS ?na1
    case ya1 => (intro w9 hSw; obtain ⟨s1, s2, _⟩ := hSw; go_simp; try with_reducible rfl)
    refine wpAnyM_one (i := 2) rfl (by kernel_rfl) rfl ?_
    clear cX lX cA lA
    have HS := Lib.hid hS
    clear hS
    go_wp2_with fail
    refine (HT.out _ (by first | exact T6.out.drew | exact T6.out)).mono ?_
    rintro e w7 ⟨D, rfl, hD, g7⟩
    have HS7 := Lib.hid (CellsAre.keep HS.out g7)
    have K7 : Hid (Grows w6 w7) := by first | exact g7 | exact ((Grows.refl _).alloc _).trans g7 | exact ((Grows.refl _).drew).trans g7
    have T7 : Hid (Grows w w7) := T6.out.trans K7.out
    have A7 := Lib.hid (A6.out.keep K7.out)
    have V7 := Lib.hid (V6.out.keep K7.out)
    have W7 := Lib.hid (W6.out.keep K7.out)
    have C7 := Lib.hid (C6.out.keep K7.out)
    have O7 := Lib.hid (O6.out.keep K7.out)
    have X7 := Lib.hid (X6.out.keep K7.out)
    have U7 := Lib.hid (U6.out.keep K7.out)
    have G7 := Lib.hid (G6.out.keep K7.out)
    clear A6 V6 W6 C6 O6 X6 U6 G6
    have D7 := Lib.hid hD
    clear g7 hD HS
    go_wp2_with fail
    refine ⟨HS7.out, ?_⟩
    refine wpAnyM_tail (by kernel_rfl) ?_
    clear HS7 hB
    go_wp2_with fail
    refine (HEF.out _ _ _ _ _ C7.out D7.out).mono ?_
    rintro e w8 ⟨rfl, g8⟩
    have K8 : Hid (Grows w7 w8) := by first | exact g8 | exact ((Grows.refl _).alloc _).trans g8 | exact ((Grows.refl _).drew).trans g8
    have T8 : Hid (Grows w w8) := T7.out.trans K8.out
    have A8 := Lib.hid (A7.out.keep K8.out)
    have V8 := Lib.hid (V7.out.keep K8.out)
    have W8 := Lib.hid (W7.out.keep K8.out)
    have C8 := Lib.hid (C7.out.keep K8.out)
    have O8 := Lib.hid (O7.out.keep K8.out)
    have X8 := Lib.hid (X7.out.keep K8.out)
    have U8 := Lib.hid (U7.out.keep K8.out)
    have G8 := Lib.hid (G7.out.keep K8.out)
    clear A7 V7 W7 C7 O7 X7 U7 G7
    clear g8 D7
    have cX := X8.out.cell
    have lX := X8.out.lt
    go_wp2_with fail
    refine (HMF.out _ _ O8.out).mono ?_
    rintro e w9 ⟨rfl, g9⟩
    have K9 : Hid (w8.grownBy w9 (some g)) := g9
    have T9 : Hid (Grows w w9) := T8.out.mark g9 (fun k hk => by have h1 := NG.out.1; have h2 := T3.out.size; injection hk with hk; omega)
    clear g9
    clear cX lX
    have A9 := Lib.hid (A8.out.far K9.out (fun e => by have h1 := NG.out.1; have h2 := T3.out.size; injection e with e; omega))
    have V9 := Lib.hid (V8.out.far K9.out (fun k hk e => by have h1 := NG.out.1; have h2 := NV.out k hk; injection e with e; omega))
    have W9 := Lib.hid (W8.out.far K9.out (fun e => by have h1 := NG.out.1; injection e with e; omega))
    have X9 := Lib.hid (X8.out.far K9.out (fun e => by have h1 := NG.out.2; injection e with e; omega))
    have U9 := Lib.hid (U8.out.far K9.out (fun k hk e => by have h1 := NG.out.2; have h2 := (U8.out.lt k hk).1; injection e with e; omega))
    have G9 := Lib.hid (G8.out.far K9.out (fun e => by have h1 := NG.out.2; have h2 := K5.out.size; injection e with e; omega))
    clear A8 V8 W8 X8 U8 G8
    have cG := G9.out.cell
    have lG := G9.out.lt
    have cW := W9.out.cell
    have lW := W9.out.lt
    go_wp2_with fail
    refine (HE.out _ _ _ _ _ (by first | exact U9.out | exact (U9.out).keep ((Grows.refl _).alloc _) | exact (U9.out).keep ((Grows.refl _).drew)) (by first | exact V9.out | exact (V9.out).keep ((Grows.refl _).alloc _) | exact (V9.out).keep ((Grows.refl _).drew))).mono ?_
    rintro e w10 ⟨rfl, g10⟩
    have K10 : Hid (Grows w9 w10) := by first | exact g10 | exact ((Grows.refl _).alloc _).trans g10 | exact ((Grows.refl _).drew).trans g10
    have T10 : Hid (Grows w w10) := T9.out.trans K10.out
    have A10 := Lib.hid (A9.out.keep K10.out)
    have V10 := Lib.hid (V9.out.keep K10.out)
    have W10 := Lib.hid (W9.out.keep K10.out)
    have X10 := Lib.hid (X9.out.keep K10.out)
    have U10 := Lib.hid (U9.out.keep K10.out)
    have G10 := Lib.hid (G9.out.keep K10.out)
    clear A9 V9 W9 X9 U9 G9
    clear g10
    clear cG lG cW lW
    have cG := G10.out.cell
    have lG := G10.out.lt
    go_wp2_with fail
    refine (HMG.out _ _ _ U10.out).mono ?_
    rintro e w11 ⟨rfl, g11⟩
    have M11 : Hid (OwnR w11 (w4.heap.size + 1) (.slice A8 n8 c8) q (mcells 1 q)) := g11.1
    have K11 : Hid (w10.grownBy w11 (Value.slice A8 n8 c8).ownBlock) := g11.2
    have T11 : Hid (Grows w w11) := T10.out.mark g11.2 (fun k hk => by have h1 := (NU.out k hk).1; have h2 := T4.out.size; omega)
    clear g11
    clear cG lG
    have A11 := Lib.hid (A10.out.far K11.out (fun e => by have h1 := (NU.out _ e).1; have h2 := T4.out.size; omega))
    have V11 := Lib.hid (V10.out.far K11.out (fun k hk e => by have h1 := (NU.out _ e).1; have h2 := NV.out k hk; have h3 := K4.out.size; omega))
    have W11 := Lib.hid (W10.out.far K11.out (fun e => by have h1 := (NU.out _ e).1; have h2 := K4.out.size; omega))
    have G11 := Lib.hid (G10.out.far K11.out (fun e => by have h1 := (NU.out _ e).2; omega))
    clear A10 V10 W10 G10
    have cG := G11.out.cell
    have lG := G11.out.lt
    go_wp2_with fail
    refine (HHG.out _ _ _ M11.out).mono ?_
    rintro e w12 ⟨rfl, g12⟩
    have K12 : Hid (Grows w11 w12) := by first | exact g12 | exact ((Grows.refl _).alloc _).trans g12 | exact ((Grows.refl _).drew).trans g12
    have T12 : Hid (Grows w w12) := T11.out.trans K12.out
    have A12 := Lib.hid (A11.out.keep K12.out)
    have V12 := Lib.hid (V11.out.keep K12.out)
    have W12 := Lib.hid (W11.out.keep K12.out)
    have G12 := Lib.hid (G11.out.keep K12.out)
    have M12 := Lib.hid (M11.out.keep K12.out)
    clear A11 V11 W11 G11 M11
    clear g12
    clear cG lG
    have cA := A12.out.cell
    have lA := A12.out.lt
    go_wp2_with fail
    refine (HT.out _ (by first | exact T12.out | exact T12.out.alloc _ | exact T12.out.drew)).mono ?_
    rintro e w13 ⟨E, rfl, hE, g13⟩
    have K13 : Hid (Grows w12 w13) := by first | exact g13 | exact ((Grows.refl _).alloc _).trans g13 | exact ((Grows.refl _).drew).trans g13
    have T13 : Hid (Grows w w13) := T12.out.trans K13.out
    have A13 := Lib.hid (A12.out.keep K13.out)
    have V13 := Lib.hid (V12.out.keep K13.out)
    have W13 := Lib.hid (W12.out.keep K13.out)
    have G13 := Lib.hid (G12.out.keep K13.out)
    have M13 := Lib.hid (M12.out.keep K13.out)
    clear A12 V12 W12 G12 M12
    have E13 := Lib.hid hE
    clear g13 hE
    clear cA lA
    go_wp2_with fail
    refine (HI.out _ _ _ E13.out).mono ?_
    rintro e w14 ⟨v2, rfl, hv, g14⟩
    have K14 : Hid (Grows w13 w14) := by first | exact g14 | exact ((Grows.refl _).alloc _).trans g14 | exact ((Grows.refl _).drew).trans g14
    have T14 : Hid (Grows w w14) := T13.out.trans K14.out
    have A14 := Lib.hid (A13.out.keep K14.out)
    have V14 := Lib.hid (V13.out.keep K14.out)
    have W14 := Lib.hid (W13.out.keep K14.out)
    have G14 := Lib.hid (G13.out.keep K14.out)
    have M14 := Lib.hid (M13.out.keep K14.out)
    clear A13 V13 W13 G13 M13
    have Y14 := Lib.hid hv
    obtain ⟨A9, n9, c9, hv9⟩ := hv.form3
    subst hv9
    clear hv g14 E13
    have cW := W14.out.cell
    have lW := W14.out.lt
    go_wp2_with fail
    refine (HE.out _ _ _ _ _ (by first | exact Y14.out | exact (Y14.out).keep ((Grows.refl _).alloc _) | exact (Y14.out).keep ((Grows.refl _).drew)) (by first | exact V14.out | exact (V14.out).keep ((Grows.refl _).alloc _) | exact (V14.out).keep ((Grows.refl _).drew))).mono ?_
    rintro e w15 ⟨rfl, g15⟩
    have K15 : Hid (Grows w14 w15) := by first | exact g15 | exact ((Grows.refl _).alloc _).trans g15 | exact ((Grows.refl _).drew).trans g15
    have T15 : Hid (Grows w w15) := T14.out.trans K15.out
    have A15 := Lib.hid (A14.out.keep K15.out)
    have V15 := Lib.hid (V14.out.keep K15.out)
    have W15 := Lib.hid (W14.out.keep K15.out)
    have G15 := Lib.hid (G14.out.keep K15.out)
    have M15 := Lib.hid (M14.out.keep K15.out)
    clear A14 V14 W14 G14 M14
    clear g15 Y14
    clear cW lW
    have cG := G15.out.cell
    have lG := G15.out.lt
    go_wp2_with fail
    refine (HHG.out _ _ _ M15.out).mono ?_
    rintro e w16 ⟨rfl, g16⟩
    clear cG lG
    go_wp2
    go_ret
    exact ⟨rfl, (T15.out.trans g16).below⟩
  · rw [less_no (by omega)] at HZ
    clear hA hr hw hn
    go_enter Try.func12, Try.ntmps12
    go_wp2_with fail
    refine (HZ.out _ ((Grows.refl _).alloc _)).mono ?_
    rintro e w1 ⟨rfl, g1⟩
    go_wp2
    go_ret
    exact ⟨rfl, (((Grows.refl _).alloc _).trans g1).below⟩
end Go.Proofs.Yteifcogfnpeahaa
