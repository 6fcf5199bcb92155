/-
  The law of CutEntry: whatever its arguments, it returns true. Conditions: parts no longer than a text may be.
-/
import Derived.Test.YtkeiaenacpmilaaDoorCutS
import Derived.Test.YtkeiaenacpmilaaDoorRegM
namespace Go.Proofs.YtkeiaenacpmilaaDoor
open Go.RowKit

set_option maxRecDepth 100000 in
set_option maxHeartbeats 16000000 in
theorem lawCut_any (A0 : Option Addr) (c0 : Nat) (ls0 : List Ent) (s1 : ByteArray) (s2 : ByteArray) (w : World) (hn0 : ls0.length ≤ maxLen) (hr0 : ∀ i (h : i < ls0.length), ls0[i].inReach) (hA0 : EntsAt w A0 ls0) (hs1 : s1.size ≤ maxLen) (hs2 : s2.size ≤ maxLen) :
    Calls Tryd.prog 7 #[.agg #[.slice A0 ls0.length c0], .string s1, .string s2] w fun e w' => e = .returned (.bool true) ∧ Below w.heap.size w w' := by
  by_cases q1 : s1.size ≤ 1048576
  · by_cases q2 : s2.size ≤ 1048576
    · have HZ0 := Lib.hid (fun w1 (g : Grows w w1) => szLayer_any A0 c0 ls0 (1048576) w1 (by omega) (by omega) hn0 hr0 (hA0.keep g))
      by_cases hw0 : (wents ls0 : Int) ≤ 1048576
      · rw [less_of hw0] at HZ0
        have f0 := efits_of (ls := ls0) (m := 1048576) (by omega) (by omega)
        have HF0 := Lib.hid (fun (v : Value) (b : Nat) (w1 : World) (h : OwnE w1 b v ls0) => h.formC)
        have HT0 := Lib.hid (fun w1 (g : Grows w w1) => toLayer_any A0 c0 ls0 w1 f0.1 (hA0.keep g))
        have HE0 := Lib.hid (fun (v u : Value) (b1 b2 : Nat) (w1 : World) (h : OwnE w1 b1 v ls0) (h2 : OwnE w1 b2 u ls0) => eqLayer_own v u b1 b2 ls0 w1 f0.1 h h2)
        have HM0 := Lib.hid (fun (v : Value) (b : Nat) (w1 : World) (h : OwnE w1 b v ls0) => markLayer_own v b ls0.length (1) _ w1 f0.1 (by have := f0.1; omega) h)
        have HV := Lib.hid (fun (w1 : World) (B0 : Option Addr) (d0 : Nat) (hd0 : ls0.length ≤ d0) (h0 : EntsAt w1 B0 ls0) => specCut_any B0 d0 ls0 s1 s2 w1 hd0 f0 h0)
        have HI := Lib.hid (fun (w1 : World) (B0 : Option Addr) (d0 : Nat) (hd0 : ls0.length ≤ d0) (h0 : EntsAt w1 B0 ls0) => implCut_any B0 d0 ls0 s1 s2 w1 f0 h0)
        have hxl : (cutL ls0 s1 s2).length ≤ 1048576 := Nat.le_trans (cutL_le _ _ _) f0.1
        have hm0 := f0.1
        obtain ⟨i0, hi0⟩ : ∃ i, (1048576 : Int) - (wents ls0 : Int) = i := ⟨_, rfl⟩
        rw [hi0] at HZ0
        have hip0 : 0 ≤ i0 := by omega
        clear hi0
        clear hw0
        clear f0 hr0 hA0 hn0
        obtain ⟨n0, hnn0⟩ : ∃ n, ls0.length = n := ⟨_, rfl⟩
        unfold ResEB at HV HI
        unfold ResE at HT0
        rw [hnn0] at HZ0 HT0 HV HI HF0 HM0 hm0 ⊢
        clear hnn0
        obtain ⟨β, hβ⟩ : ∃ β, cutB ls0 s1 s2 = β := ⟨_, rfl⟩
        rw [hβ] at HV HI
        clear hβ
        obtain ⟨xs, hxs⟩ : ∃ xs, cutL ls0 s1 s2 = xs := ⟨_, rfl⟩
        rw [hxs] at HV HI hxl
        clear hxs
        have HE := Lib.hid (fun (v u : Value) (b1 b2 : Nat) (w1 : World) (h : OwnE w1 b1 v xs) (h2 : OwnE w1 b2 u xs) => eqLayer_own v u b1 b2 xs w1 hxl h h2)
        have HMG := Lib.hid (fun (v : Value) (b : Nat) (w1 : World) (h : OwnE w1 b v xs) => markLayer_own v b xs.length 1 _ w1 hxl (by omega) h)
        have HHG := Lib.hid (fun (v : Value) (b : Nat) (w1 : World) (h : OwnQ w1 b v xs.length (qcells 1 xs.length)) => heldLayer_own v b xs.length 1 w1 hxl (by omega) h)
        obtain ⟨q, hq⟩ : ∃ q, xs.length = q := ⟨_, rfl⟩
        rw [hq] at HMG HHG hxl
        clear hq
        have e0m : ((1 + n0 * 4 : Nat) : Int) = 1 + (n0 : Int) * 4 := by omega
        rw [e0m] at HM0
        have e2m : ((1 + q * 4 : Nat) : Int) = 1 + (q : Int) * 4 := by omega
        rw [e2m] at HMG HHG
        clear e2m e0m
        have e3m : ((1 : Nat) : Int) = 1 := rfl
        rw [e3m] at HM0 HMG HHG
        clear e3m
        go_enter Tryd.func7, Tryd.ntmps7
        have HBB : Hid (Grows w (w.alloc (.cells #[.slice A0 n0 c0] 26))) := ((Grows.refl _).alloc _)
        have HB0 : Hid (Box (w.alloc (.cells #[.slice A0 n0 c0] 26)) (w.heap.size) (.slice A0 n0 c0) 26) := by
          have h := (Box.new w (.slice A0 n0 c0) 26).keep (Grows.refl _)
          exact h
        go_wp2_with fail
        refine (HZ0.out _ (by first | exact HBB.out | exact (HBB.out).alloc _ | exact (HBB.out).drew)).mono ?_
        rintro e w1 ⟨rfl, g1⟩
        have K1 : Hid (Grows (w.alloc (.cells #[.slice A0 n0 c0] 26)) w1) := g1
        have T1 : Hid (Grows w w1) := HBB.out.trans K1.out
        have A0_1 := Lib.hid (HB0.out.keep K1.out)
        clear g1
        have cA0 := A0_1.out.cell
        have lA0 := A0_1.out.lt
        go_wp2_with fail
        refine (HT0.out _ (by first | exact T1.out | exact (T1.out).alloc _ | exact (T1.out).drew)).mono ?_
        rintro e w2 ⟨b2, rfl, hb2, g2⟩
        have K2 : Hid (Grows w1 w2) := by first | exact g2 | exact ((Grows.refl _).alloc _).trans g2 | exact ((Grows.refl _).drew).trans g2
        have T2 : Hid (Grows w w2) := T1.out.trans K2.out
        have A0_2 := Lib.hid (A0_1.out.keep K2.out)
        clear A0_1
        obtain ⟨B0, d0, hbe, hd0, hB⟩ := HF0.out _ _ _ hb2
        subst hbe
        have H0 := Lib.hid hB
        clear hB hb2 g2
        clear cA0 lA0
        go_wp2_with fail
        refine (HV.out _ _ _ hd0 H0.out).mono ?_
        rintro e w3 ⟨v0, rfl, hv, g3⟩
        have K3 : Hid (Grows w2 w3) := by first | exact g3 | exact ((Grows.refl _).alloc _).trans g3 | exact ((Grows.refl _).drew).trans g3
        have T3 : Hid (Grows w w3) := T2.out.trans K3.out
        have A0_3 := Lib.hid (A0_2.out.keep K3.out)
        clear A0_2
        clear g3 H0 hd0
        obtain ⟨A7, n7, c7, hv7⟩ := hv.form3
        subst hv7
        have V_3 : Hid (OwnE w3 _ (.slice A7 n7 c7) xs) := hv
        have NV : Hid (∀ k, (Value.slice A7 n7 c7).ownBlock = some k → k < w3.heap.size) := fun k hk => (hv.lt k hk).2
        clear hv
        have cA0 := A0_3.out.cell
        have lA0 := A0_3.out.lt
        go_wp2_with fail
        refine (HT0.out _ (by first | exact T3.out | exact (T3.out).alloc _ | exact (T3.out).drew)).mono ?_
        rintro e w4 ⟨b4, rfl, hb4, g4⟩
        have W_4 : Hid (Box w4 w3.heap.size (.slice A7 n7 c7) 31) := (Box.new w3 _ _).keep g4
        have GW : Hid (w3.heap.size + 1 ≤ w4.heap.size) := Nat.le_trans (by simp) g4.size
        have K4 : Hid (Grows w3 w4) := by first | exact g4 | exact ((Grows.refl _).alloc _).trans g4 | exact ((Grows.refl _).drew).trans g4
        have T4 : Hid (Grows w w4) := T3.out.trans K4.out
        have A0_4 := Lib.hid (A0_3.out.keep K4.out)
        have V_4 := Lib.hid (V_3.out.keep K4.out)
        clear A0_3 V_3
        obtain ⟨X0, z0, hbe, hx0, hB⟩ := HF0.out _ _ _ hb4
        subst hbe
        have O0_4 : Hid (OwnE w4 (w3.heap.size + 1) (.slice X0 n0 z0) ls0) := by have h := hb4; simp only [World.size_alloc] at h; exact h
        clear hB hx0 hb4 g4
        have NO0 : Hid (∀ k, (Value.slice X0 n0 z0).ownBlock = some k → w3.heap.size + 1 ≤ k ∧ k < w4.heap.size) := fun k hk => O0_4.out.lt k hk
        clear cA0 lA0
        go_wp2_with fail
        have ⟨hd0, hB0⟩ : n0 ≤ z0 ∧ EntsAt w4 X0 ls0 := by
          obtain ⟨x, y, he, hd, hh⟩ := HF0.out _ _ _ O0_4.out
          injection he with he1 he2 he3
          subst he1; subst he3
          exact ⟨hd, hh⟩
        have H0 := Lib.hid hB0
        clear hB0
        refine (HI.out _ _ _ hd0 (by first | exact H0.out | exact (H0.out).keep ((Grows.refl _).alloc _))).mono ?_
        rintro e w5 ⟨v1, rfl, hv, g5⟩
        have X0_5 : Hid (Box w5 w4.heap.size (.slice X0 n0 z0) 31) := (Box.new w4 _ _).keep g5
        have GX0 : Hid (w4.heap.size + 1 ≤ w5.heap.size) := Nat.le_trans (by simp) g5.size
        have K5 : Hid (Grows w4 w5) := by first | exact g5 | exact ((Grows.refl _).alloc _).trans g5 | exact ((Grows.refl _).drew).trans g5
        have T5 : Hid (Grows w w5) := T4.out.trans K5.out
        have A0_5 := Lib.hid (A0_4.out.keep K5.out)
        have V_5 := Lib.hid (V_4.out.keep K5.out)
        have W_5 := Lib.hid (W_4.out.keep K5.out)
        have O0_5 := Lib.hid (O0_4.out.keep K5.out)
        clear A0_4 V_4 W_4 O0_4
        have U_5 : Hid (OwnE w5 (w4.heap.size + 1) v1 xs) := by have h := hv; first | exact h | (simp only [World.size_alloc] at h; exact h)
        obtain ⟨A8, n8, c8, hv8⟩ := hv.form3
        subst hv8
        have NU : Hid (∀ k, (Value.slice A8 n8 c8).ownBlock = some k → w4.heap.size + 1 ≤ k ∧ k < w5.heap.size) := fun k hk => U_5.out.lt k hk
        clear hv g5 H0 hd0
        have cW := W_5.out.cell
        have lW := W_5.out.lt
        have cX0 := X0_5.out.cell
        have lX0 := X0_5.out.lt
        have cA0 := A0_5.out.cell
        have lA0 := A0_5.out.lt
        go_wp2_with fail
        refine (HE.out _ _ _ _ _ (by first | exact U_5.out | exact (U_5.out).keep ((Grows.refl _).alloc _) | exact (U_5.out).keep ((Grows.refl _).drew)) (by first | exact V_5.out | exact (V_5.out).keep ((Grows.refl _).alloc _) | exact (V_5.out).keep ((Grows.refl _).drew))).mono ?_
        rintro e w6 ⟨rfl, g6⟩
        have G_6 : Hid (Box w6 w5.heap.size (.slice A8 n8 c8) 31) := (Box.new w5 _ _).keep g6
        clear cW lW cX0 lX0 cA0 lA0
        have K6 : Hid (Grows w5 w6) := by first | exact g6 | exact ((Grows.refl _).alloc _).trans g6 | exact ((Grows.refl _).drew).trans g6
        have T6 : Hid (Grows w w6) := T5.out.trans K6.out
        have A0_6 := Lib.hid (A0_5.out.keep K6.out)
        have V_6 := Lib.hid (V_5.out.keep K6.out)
        have W_6 := Lib.hid (W_5.out.keep K6.out)
        have O0_6 := Lib.hid (O0_5.out.keep K6.out)
        have X0_6 := Lib.hid (X0_5.out.keep K6.out)
        have U_6 := Lib.hid (U_5.out.keep K6.out)
        clear A0_5 V_5 W_5 O0_5 X0_5 U_5
        clear g6
        have cX0 := X0_6.out.cell
        have lX0 := X0_6.out.lt
        have cA0 := A0_6.out.cell
        have lA0 := A0_6.out.lt
        go_wp2_with fail
        refine wp_region_M 3 (CellsAre [(⟨w4.heap.size, 0, none⟩, (.slice X0 n0 z0)), (⟨w.heap.size, 0, none⟩, (.slice A0 n0 c0))]) (by kernel_rfl) (by kernel_rfl) ⟨cX0, cA0, trivial⟩ (fun hB hS => ?_)
        refine wpAnyM_take (i := 0) (v := ?vt1x0) hB rfl (by kernel_rfl) (fun _ _ _ h => h) (by rfl) ?yt1x0 hS ?nt1x0
        case yt1x0 => (intro w9 hSw; obtain ⟨s1, s2, _⟩ := hSw; go_simp; try with_reducible rfl)
        refine wpAnyM_take (i := 1) (v := ?vt1x1) hB rfl (by kernel_rfl) (fun _ _ _ h => h) (by rfl) ?yt1x1 hS ?nt1x1
        case yt1x1 => (intro w9 hSw; obtain ⟨s1, s2, _⟩ := hSw; go_simp; try with_reducible rfl)
        refine wpAnyM_one (i := 2) rfl (by kernel_rfl) rfl ?_
        clear cX0 lX0 cA0 lA0
        have HSt1x := Lib.hid hS
        clear hS
        go_wp2_with fail
        refine (HT0.out _ (by first | exact T6.out | exact (T6.out).alloc _ | exact (T6.out).drew)).mono ?_
        rintro e w7 ⟨b7, rfl, hb7, g7⟩
        have HSt1x' := Lib.hid (CellsAre.keep HSt1x.out g7)
        have K7 : Hid (Grows w6 w7) := by first | exact g7 | exact ((Grows.refl _).alloc _).trans g7 | exact ((Grows.refl _).drew).trans g7
        have T7 : Hid (Grows w w7) := T6.out.trans K7.out
        have A0_7 := Lib.hid (A0_6.out.keep K7.out)
        have V_7 := Lib.hid (V_6.out.keep K7.out)
        have W_7 := Lib.hid (W_6.out.keep K7.out)
        have O0_7 := Lib.hid (O0_6.out.keep K7.out)
        have X0_7 := Lib.hid (X0_6.out.keep K7.out)
        have U_7 := Lib.hid (U_6.out.keep K7.out)
        have G_7 := Lib.hid (G_6.out.keep K7.out)
        clear A0_6 V_6 W_6 O0_6 X0_6 U_6 G_6
        have D_7 := Lib.hid hb7
        obtain ⟨Bx, dx, hbe, hdx, hBx⟩ := HF0.out _ _ _ hb7
        subst hbe
        clear hb7 g7 hdx hBx HSt1x
        go_wp2_with fail
        refine ⟨HSt1x'.out, ?_⟩
        refine wpAnyM_tail (by kernel_rfl) ?_
        clear HSt1x' hB
        go_wp2_with fail
        refine (HE0.out _ _ _ _ _ (by first | exact O0_7.out | exact (O0_7.out).keep ((Grows.refl _).alloc _) | exact (O0_7.out).keep ((Grows.refl _).drew)) D_7.out).mono ?_
        rintro e w8 ⟨rfl, g8⟩
        have K8 : Hid (Grows w7 w8) := by first | exact g8 | exact ((Grows.refl _).alloc _).trans g8 | exact ((Grows.refl _).drew).trans g8
        have T8 : Hid (Grows w w8) := T7.out.trans K8.out
        have A0_8 := Lib.hid (A0_7.out.keep K8.out)
        have V_8 := Lib.hid (V_7.out.keep K8.out)
        have W_8 := Lib.hid (W_7.out.keep K8.out)
        have O0_8 := Lib.hid (O0_7.out.keep K8.out)
        have X0_8 := Lib.hid (X0_7.out.keep K8.out)
        have U_8 := Lib.hid (U_7.out.keep K8.out)
        have G_8 := Lib.hid (G_7.out.keep K8.out)
        clear A0_7 V_7 W_7 O0_7 X0_7 U_7 G_7
        clear g8 D_7
        have HSZ : Hid (w.heap.size + 1 ≤ w1.heap.size ∧ w1.heap.size ≤ w2.heap.size ∧ w2.heap.size ≤ w3.heap.size ∧ w3.heap.size ≤ w4.heap.size ∧ w4.heap.size ≤ w5.heap.size ∧ w5.heap.size ≤ w6.heap.size ∧ w6.heap.size ≤ w7.heap.size ∧ w7.heap.size ≤ w8.heap.size) := ⟨by have h := K1.out.size; simp at h; omega, K2.out.size, K3.out.size, K4.out.size, K5.out.size, K6.out.size, K7.out.size, K8.out.size⟩
        have cX0 := X0_8.out.cell
        have lX0 := X0_8.out.lt
        go_wp2_with fail
        refine (HM0.out _ _ _ O0_8.out).mono ?_
        rintro e w9 ⟨rfl, g9⟩
        have K9 : Hid (w8.grownBy w9 (Value.slice X0 n0 z0).ownBlock) := g9.2
        have T9 : Hid (Grows w w9) := T8.out.mark g9.2 (fun k hk => by have h1 := NO0.out k hk; obtain ⟨z1, z2, z3, z4, z5, z6, z7, z8⟩ := HSZ.out; have yGW := GW.out; have yGX0 := GX0.out; (try injection e with e); omega)
        clear cX0 lX0
        clear O0_8 g9
        have A0_9 := Lib.hid (A0_8.out.far K9.out (fun e => by have h1 := NO0.out _ e; obtain ⟨z1, z2, z3, z4, z5, z6, z7, z8⟩ := HSZ.out; have yGW := GW.out; have yGX0 := GX0.out; (try injection e with e); omega))
        have V_9 := Lib.hid (V_8.out.far K9.out (fun k hk e => by have h1 := NO0.out _ e; have h2 := NV.out k hk; obtain ⟨z1, z2, z3, z4, z5, z6, z7, z8⟩ := HSZ.out; have yGW := GW.out; have yGX0 := GX0.out; (try injection e with e); omega))
        have W_9 := Lib.hid (W_8.out.far K9.out (fun e => by have h1 := NO0.out _ e; obtain ⟨z1, z2, z3, z4, z5, z6, z7, z8⟩ := HSZ.out; have yGW := GW.out; have yGX0 := GX0.out; (try injection e with e); omega))
        have X0_9 := Lib.hid (X0_8.out.far K9.out (fun e => by have h1 := NO0.out _ e; obtain ⟨z1, z2, z3, z4, z5, z6, z7, z8⟩ := HSZ.out; have yGW := GW.out; have yGX0 := GX0.out; (try injection e with e); omega))
        have U_9 := Lib.hid (U_8.out.far K9.out (fun k hk e => by have h1 := NO0.out _ e; have h2 := NU.out k hk; obtain ⟨z1, z2, z3, z4, z5, z6, z7, z8⟩ := HSZ.out; have yGW := GW.out; have yGX0 := GX0.out; (try injection e with e); omega))
        have G_9 := Lib.hid (G_8.out.far K9.out (fun e => by have h1 := NO0.out _ e; obtain ⟨z1, z2, z3, z4, z5, z6, z7, z8⟩ := HSZ.out; have yGW := GW.out; have yGX0 := GX0.out; (try injection e with e); omega))
        clear A0_8 V_8 W_8 X0_8 U_8 G_8
        have cG := G_9.out.cell
        have lG := G_9.out.lt
        have cW := W_9.out.cell
        have lW := W_9.out.lt
        go_wp2_with fail
        refine (HE.out _ _ _ _ _ (by first | exact U_9.out | exact (U_9.out).keep ((Grows.refl _).alloc _) | exact (U_9.out).keep ((Grows.refl _).drew)) (by first | exact V_9.out | exact (V_9.out).keep ((Grows.refl _).alloc _) | exact (V_9.out).keep ((Grows.refl _).drew))).mono ?_
        rintro e w10 ⟨rfl, g10⟩
        have K10 : Hid (Grows w9 w10) := by first | exact g10 | exact ((Grows.refl _).alloc _).trans g10 | exact ((Grows.refl _).drew).trans g10
        have T10 : Hid (Grows w w10) := T9.out.trans K10.out
        have A0_10 := Lib.hid (A0_9.out.keep K10.out)
        have V_10 := Lib.hid (V_9.out.keep K10.out)
        have W_10 := Lib.hid (W_9.out.keep K10.out)
        have X0_10 := Lib.hid (X0_9.out.keep K10.out)
        have U_10 := Lib.hid (U_9.out.keep K10.out)
        have G_10 := Lib.hid (G_9.out.keep K10.out)
        clear A0_9 V_9 W_9 X0_9 U_9 G_9
        clear g10
        clear cG lG cW lW
        have cG := G_10.out.cell
        have lG := G_10.out.lt
        go_wp2_with fail
        refine (HMG.out _ _ _ U_10.out).mono ?_
        rintro e w11 ⟨rfl, g11⟩
        have M_11 : Hid (OwnQ w11 (w4.heap.size + 1) (.slice A8 n8 c8) q (qcells 1 q)) := g11.1
        have K11 : Hid (w10.grownBy w11 (Value.slice A8 n8 c8).ownBlock) := g11.2
        have T11 : Hid (Grows w w11) := T10.out.mark g11.2 (fun k hk => by have h1 := (NU.out k hk).1; obtain ⟨z1, z2, z3, z4, z5, z6, z7, z8⟩ := HSZ.out; have yGW := GW.out; have yGX0 := GX0.out; (try injection e with e); omega)
        clear U_10 g11
        clear cG lG
        have A0_11 := Lib.hid (A0_10.out.far K11.out (fun e => by have h1 := (NU.out _ e).1; obtain ⟨z1, z2, z3, z4, z5, z6, z7, z8⟩ := HSZ.out; have yGW := GW.out; have yGX0 := GX0.out; (try injection e with e); omega))
        have V_11 := Lib.hid (V_10.out.far K11.out (fun k hk e => by have h1 := (NU.out _ e).1; have h2 := NV.out k hk; obtain ⟨z1, z2, z3, z4, z5, z6, z7, z8⟩ := HSZ.out; have yGW := GW.out; have yGX0 := GX0.out; (try injection e with e); omega))
        have W_11 := Lib.hid (W_10.out.far K11.out (fun e => by have h1 := (NU.out _ e).1; obtain ⟨z1, z2, z3, z4, z5, z6, z7, z8⟩ := HSZ.out; have yGW := GW.out; have yGX0 := GX0.out; (try injection e with e); omega))
        have X0_11 := Lib.hid (X0_10.out.far K11.out (fun e => by have h1 := (NU.out _ e).1; obtain ⟨z1, z2, z3, z4, z5, z6, z7, z8⟩ := HSZ.out; have yGW := GW.out; have yGX0 := GX0.out; (try injection e with e); omega))
        have G_11 := Lib.hid (G_10.out.far K11.out (fun e => by have h1 := (NU.out _ e).2; obtain ⟨z1, z2, z3, z4, z5, z6, z7, z8⟩ := HSZ.out; have yGW := GW.out; have yGX0 := GX0.out; (try injection e with e); omega))
        clear A0_10 V_10 W_10 X0_10 G_10
        have cG := G_11.out.cell
        have lG := G_11.out.lt
        go_wp2_with fail
        refine (HHG.out _ _ _ M_11.out).mono ?_
        rintro e w12 ⟨rfl, g12⟩
        have K12 : Hid (Grows w11 w12) := by first | exact g12 | exact ((Grows.refl _).alloc _).trans g12 | exact ((Grows.refl _).drew).trans g12
        have T12 : Hid (Grows w w12) := T11.out.trans K12.out
        have A0_12 := Lib.hid (A0_11.out.keep K12.out)
        have V_12 := Lib.hid (V_11.out.keep K12.out)
        have W_12 := Lib.hid (W_11.out.keep K12.out)
        have X0_12 := Lib.hid (X0_11.out.keep K12.out)
        have G_12 := Lib.hid (G_11.out.keep K12.out)
        have M_12 := Lib.hid (M_11.out.keep K12.out)
        clear A0_11 V_11 W_11 X0_11 G_11 M_11
        clear g12
        clear cG lG
        have cA0 := A0_12.out.cell
        have lA0 := A0_12.out.lt
        go_wp2_with fail
        refine (HT0.out _ (by first | exact T12.out | exact (T12.out).alloc _ | exact (T12.out).drew)).mono ?_
        rintro e w13 ⟨b13, rfl, hb13, g13⟩
        have K13 : Hid (Grows w12 w13) := by first | exact g13 | exact ((Grows.refl _).alloc _).trans g13 | exact ((Grows.refl _).drew).trans g13
        have T13 : Hid (Grows w w13) := T12.out.trans K13.out
        have A0_13 := Lib.hid (A0_12.out.keep K13.out)
        have V_13 := Lib.hid (V_12.out.keep K13.out)
        have W_13 := Lib.hid (W_12.out.keep K13.out)
        have X0_13 := Lib.hid (X0_12.out.keep K13.out)
        have G_13 := Lib.hid (G_12.out.keep K13.out)
        have M_13 := Lib.hid (M_12.out.keep K13.out)
        clear A0_12 V_12 W_12 X0_12 G_12 M_12
        obtain ⟨B0, d0, hbe, hd0, hB⟩ := HF0.out _ _ _ hb13
        subst hbe
        have H0 := Lib.hid hB
        clear hB hb13 g13
        clear cA0 lA0
        go_wp2_with fail
        refine (HI.out _ _ _ hd0 H0.out).mono ?_
        rintro e w14 ⟨v2, rfl, hv, g14⟩
        have K14 : Hid (Grows w13 w14) := by first | exact g14 | exact ((Grows.refl _).alloc _).trans g14 | exact ((Grows.refl _).drew).trans g14
        have T14 : Hid (Grows w w14) := T13.out.trans K14.out
        have A0_14 := Lib.hid (A0_13.out.keep K14.out)
        have V_14 := Lib.hid (V_13.out.keep K14.out)
        have W_14 := Lib.hid (W_13.out.keep K14.out)
        have X0_14 := Lib.hid (X0_13.out.keep K14.out)
        have G_14 := Lib.hid (G_13.out.keep K14.out)
        have M_14 := Lib.hid (M_13.out.keep K14.out)
        clear A0_13 V_13 W_13 X0_13 G_13 M_13
        clear g14 H0 hd0
        have Y_14 := Lib.hid hv
        obtain ⟨A9, n9, c9, hv9⟩ := hv.form3
        subst hv9
        clear hv
        have cW := W_14.out.cell
        have lW := W_14.out.lt
        go_wp2_with fail
        refine (HE.out _ _ _ _ _ (by first | exact Y_14.out | exact (Y_14.out).keep ((Grows.refl _).alloc _)) (by first | exact V_14.out | exact (V_14.out).keep ((Grows.refl _).alloc _) | exact (V_14.out).keep ((Grows.refl _).drew))).mono ?_
        rintro e w15 ⟨rfl, g15⟩
        have K15 : Hid (Grows w14 w15) := by first | exact g15 | exact ((Grows.refl _).alloc _).trans g15 | exact ((Grows.refl _).drew).trans g15
        have T15 : Hid (Grows w w15) := T14.out.trans K15.out
        have A0_15 := Lib.hid (A0_14.out.keep K15.out)
        have V_15 := Lib.hid (V_14.out.keep K15.out)
        have W_15 := Lib.hid (W_14.out.keep K15.out)
        have X0_15 := Lib.hid (X0_14.out.keep K15.out)
        have G_15 := Lib.hid (G_14.out.keep K15.out)
        have M_15 := Lib.hid (M_14.out.keep K15.out)
        clear A0_14 V_14 W_14 X0_14 G_14 M_14
        clear g15 Y_14
        clear cW lW
        have cG := G_15.out.cell
        have lG := G_15.out.lt
        go_wp2_with fail
        refine (HHG.out _ _ _ M_15.out).mono ?_
        rintro e w16 ⟨rfl, g16⟩
        clear cG lG
        go_wp2
        go_ret
        exact ⟨rfl, (T15.out.trans g16).below⟩
      · rw [less_no (by omega)] at HZ0
        clear hw0 hr0 hA0 hn0
        obtain ⟨n0, hnn0⟩ : ∃ n, ls0.length = n := ⟨_, rfl⟩
        rw [hnn0] at HZ0 ⊢
        clear hnn0
        go_enter Tryd.func7, Tryd.ntmps7
        have HBB : Hid (Grows w (w.alloc (.cells #[.slice A0 n0 c0] 26))) := ((Grows.refl _).alloc _)
        have HB0 : Hid (Box (w.alloc (.cells #[.slice A0 n0 c0] 26)) (w.heap.size) (.slice A0 n0 c0) 26) := by
          have h := (Box.new w (.slice A0 n0 c0) 26).keep (Grows.refl _)
          exact h
        go_wp2_with fail
        refine (HZ0.out _ (by first | exact HBB.out | exact (HBB.out).alloc _ | exact (HBB.out).drew)).mono ?_
        rintro e w1 ⟨rfl, g1⟩
        have K1 : Hid (Grows (w.alloc (.cells #[.slice A0 n0 c0] 26)) w1) := g1
        have T1 : Hid (Grows w w1) := HBB.out.trans K1.out
        have A0_1 := Lib.hid (HB0.out.keep K1.out)
        clear g1
        go_wp2
        go_ret
        exact ⟨rfl, T1.out.below⟩
    · clear hr0 hn0 hA0
      unfold maxLen at hs1
      unfold maxLen at hs2
      go_enter Tryd.func7, Tryd.ntmps7
      go_wp2
      go_ret
      exact ⟨rfl, (((Grows.refl _).alloc _)).below⟩
  · clear hr0 hn0 hA0
    unfold maxLen at hs1
    unfold maxLen at hs2
    go_enter Tryd.func7, Tryd.ntmps7
    go_wp2
    go_ret
    exact ⟨rfl, (((Grows.refl _).alloc _)).below⟩
end Go.Proofs.YtkeiaenacpmilaaDoor
