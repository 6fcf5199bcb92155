/-
  The law of CountChanges: whatever its arguments, it returns true. Conditions: parts no longer than a text may be.
-/
import Derived.Test.YtcecjdjfbgmogaaDoorCntS
import Derived.Test.YtcecjdjfbgmogaaDoorEqE
import Derived.Test.YtcecjdjfbgmogaaDoorEntH
import Derived.Test.YtcecjdjfbgmogaaDoorRegM
namespace Go.Proofs.YtcecjdjfbgmogaaDoor
open Go.RowKit

set_option maxRecDepth 100000 in
set_option maxHeartbeats 16000000 in
theorem lawCnt_any (A0 : Option Addr) (c0 : Nat) (ls0 : List Ent) (A1 : Option Addr) (c1 : Nat) (ls1 : List Ent) (w : World) (hn0 : ls0.length ≤ maxLen) (hr0 : ∀ i (h : i < ls0.length), ls0[i].inReach) (hA0 : EntsAt w A0 ls0) (hn1 : ls1.length ≤ maxLen) (hr1 : ∀ i (h : i < ls1.length), ls1[i].inReach) (hA1 : EntsAt w A1 ls1) :
    Calls Tryd.prog 7 #[.agg #[.slice A0 ls0.length c0], .agg #[.slice A1 ls1.length c1]] w fun e w' => e = .returned (.bool true) ∧ Below w.heap.size w w' := by
  have HZ0 := Lib.hid (fun w1 (g : Grows w w1) => szLayer_any A0 c0 ls0 (1048576) w1 (by omega) (by omega) hn0 hr0 (hA0.keep g))
  by_cases hw0 : (wents ls0 : Int) ≤ 1048576
  · rw [less_of hw0] at HZ0
    have HZ1 := Lib.hid (fun w1 (g : Grows w w1) => szLayer_any A1 c1 ls1 (1048576 - (wents ls0 : Int)) w1 (by omega) (by omega) hn1 hr1 (hA1.keep g))
    by_cases hw1 : (wents ls1 : Int) ≤ 1048576 - (wents ls0 : Int)
    · rw [less_of hw1] at HZ1
      have f0 := efits_of (ls := ls0) (m := 1048576) (by omega) (by omega)
      have f1 := efits_of (ls := ls1) (m := 1048576 - (wents ls0 : Int)) (by omega) (by omega)
      have HF0 := Lib.hid (fun (v : Value) (b : Nat) (w1 : World) (h : OwnE w1 b v ls0) => h.formC)
      have HF1 := Lib.hid (fun (v : Value) (b : Nat) (w1 : World) (h : OwnE w1 b v ls1) => h.formC)
      have HT0 := Lib.hid (fun w1 (g : Grows w w1) => toLayer_any A0 c0 ls0 w1 f0.1 (hA0.keep g))
      have HE0 := Lib.hid (fun (v u : Value) (b1 b2 : Nat) (w1 : World) (h : OwnE w1 b1 v ls0) (h2 : OwnE w1 b2 u ls0) => eqLayer_own v u b1 b2 ls0 w1 f0.1 h h2)
      have HT1 := Lib.hid (fun w1 (g : Grows w w1) => toLayer_any A1 c1 ls1 w1 f1.1 (hA1.keep g))
      have HE1 := Lib.hid (fun (v u : Value) (b1 b2 : Nat) (w1 : World) (h : OwnE w1 b1 v ls1) (h2 : OwnE w1 b2 u ls1) => eqLayer_own v u b1 b2 ls1 w1 f1.1 h h2)
      have HV := Lib.hid (fun (w1 : World) (B0 : Option Addr) (d0 : Nat) (hd0 : ls0.length ≤ d0) (B1 : Option Addr) (d1 : Nat) (hd1 : ls1.length ≤ d1) (h0 : EntsAt w1 B0 ls0) (h1 : EntsAt w1 B1 ls1) => specCnt_any B0 d0 ls0 B1 d1 ls1 w1 hd0 hd1 f0 h0 f1 h1)
      have HI := Lib.hid (fun (w1 : World) (B0 : Option Addr) (d0 : Nat) (hd0 : ls0.length ≤ d0) (B1 : Option Addr) (d1 : Nat) (hd1 : ls1.length ≤ d1) (h0 : EntsAt w1 B0 ls0) (h1 : EntsAt w1 B1 ls1) => implCnt_any B0 d0 ls0 B1 d1 ls1 w1 hd0 hd1 f0 h0 f1 h1)
      unfold CntRet at HV HI
      obtain ⟨r0, hrr0⟩ : ∃ r, chgN ls0 ls1 0 = r := ⟨_, rfl⟩
      obtain ⟨r1, hrr1⟩ : ∃ r, chgN ls0 ls1 1 = r := ⟨_, rfl⟩
      obtain ⟨r2, hrr2⟩ : ∃ r, chgN ls0 ls1 2 = r := ⟨_, rfl⟩
      rw [hrr0, hrr1, hrr2] at HV HI
      have hne0 : (r0 != r0) = false := bne_self_eq_false r0
      have hne1 : (r1 != r1) = false := bne_self_eq_false r1
      have hne2 : (r2 != r2) = false := bne_self_eq_false r2
      obtain ⟨i0, hi0⟩ : ∃ i, (1048576 : Int) - (wents ls0 : Int) = i := ⟨_, rfl⟩
      rw [hi0] at HZ0 HZ1
      have hip0 : 0 ≤ i0 := by omega
      obtain ⟨i1, hi1⟩ : ∃ i, (i0 : Int) - (wents ls1 : Int) = i := ⟨_, rfl⟩
      rw [hi1] at HZ1
      have hip1 : 0 ≤ i1 := by omega
      clear hrr0 hrr1 hrr2 hi0 hi1 hw0 hw1 f0 f1 hr0 hA0 hn0 hr1 hA1 hn1
      obtain ⟨n0, hnn0⟩ : ∃ n, ls0.length = n := ⟨_, rfl⟩
      obtain ⟨n1, hnn1⟩ : ∃ n, ls1.length = n := ⟨_, rfl⟩
      unfold ResE at HT0 HT1
      rw [hnn0] at HZ0 HT0 HV HI HF0 ⊢
      rw [hnn1] at HZ1 HT1 HV HI HF1 ⊢
      clear hnn0 hnn1
      go_enter Tryd.func7, Tryd.ntmps7
      have HBB : Hid (Grows w ((w.alloc (.cells #[.slice A0 n0 c0] 54)).alloc (.cells #[.slice A1 n1 c1] 54))) := (((Grows.refl _).alloc _).alloc _)
      have HB0 : Hid (Box ((w.alloc (.cells #[.slice A0 n0 c0] 54)).alloc (.cells #[.slice A1 n1 c1] 54)) (w.heap.size) (.slice A0 n0 c0) 54) := (Box.new w (.slice A0 n0 c0) 54).keep ((Grows.refl _).alloc _)
      have HB1 : Hid (Box ((w.alloc (.cells #[.slice A0 n0 c0] 54)).alloc (.cells #[.slice A1 n1 c1] 54)) (w.heap.size + 1) (.slice A1 n1 c1) 54) := by
        have h : Box ((w.alloc (.cells #[.slice A0 n0 c0] 54)).alloc (.cells #[.slice A1 n1 c1] 54)) _ (.slice A1 n1 c1) 54 := Box.new (w.alloc (.cells #[.slice A0 n0 c0] 54)) (.slice A1 n1 c1) 54
        simp only [World.size_alloc] at h
        exact h
      go_wp2_with fail
      refine (HZ0.out _ HBB.out).mono ?_
      rintro e w1 ⟨rfl, g1⟩
      have K1 : Hid (Grows ((w.alloc (.cells #[.slice A0 n0 c0] 54)).alloc (.cells #[.slice A1 n1 c1] 54)) w1) := g1
      have T1 : Hid (Grows w w1) := HBB.out.trans K1.out
      have A0_1 := Lib.hid (HB0.out.keep K1.out)
      have A1_1 := Lib.hid (HB1.out.keep K1.out)
      clear g1
      have cA1 := A1_1.out.cell
      have lA1 := A1_1.out.lt
      go_wp2_with fail
      refine (HZ1.out _ (by first | exact T1.out | exact (T1.out).alloc _ | exact (T1.out).drew)).mono ?_
      rintro e w2 ⟨rfl, g2⟩
      have K2 : Hid (Grows w1 w2) := by first | exact g2 | exact ((Grows.refl _).alloc _).trans g2 | exact ((Grows.refl _).drew).trans g2
      have T2 : Hid (Grows w w2) := T1.out.trans K2.out
      have A0_2 := Lib.hid (A0_1.out.keep K2.out)
      have A1_2 := Lib.hid (A1_1.out.keep K2.out)
      clear A0_1 A1_1 g2
      clear cA1 lA1
      have cA0 := A0_2.out.cell
      have lA0 := A0_2.out.lt
      have cA1 := A1_2.out.cell
      have lA1 := A1_2.out.lt
      go_wp2_with fail
      refine wp_region_M 11 (CellsAre [(⟨w.heap.size, 0, none⟩, (.slice A0 n0 c0)), (⟨w.heap.size + 1, 0, none⟩, (.slice A1 n1 c1))]) (by kernel_rfl) (by kernel_rfl) ⟨cA0, cA1, trivial⟩ (fun hB hS => ?_)
      refine wpAnyM_take (i := 0) (v := ?vp1x0) hB rfl (by kernel_rfl) (fun _ _ _ h => h) (by first | kernel_rfl | simp [Region.wanted, yielded, Act.put]) ?yp1x0 hS ?np1x0
      case yp1x0 => (intro w9 hSw; obtain ⟨s1, s2, _⟩ := hSw; go_simp; try with_reducible rfl)
      refine wpAnyM_take (i := 2) (v := ?vp1x2) hB rfl (by kernel_rfl) (fun _ _ _ h => h) (by first | kernel_rfl | simp [Region.wanted, yielded, Act.put]) ?yp1x2 hS ?np1x2
      case yp1x2 => (intro w9 hSw; obtain ⟨s1, s2, _⟩ := hSw; go_simp; try with_reducible rfl)
      have HS := Lib.hid hS
      clear hS
      clear cA0 lA0 cA1 lA1
      refine wpAnyM_one (i := 1) rfl (by kernel_rfl) rfl ?_
      go_wp2_with fail
      refine (HT0.out _ (by first | exact T2.out | exact (T2.out).alloc _ | exact (T2.out).drew)).mono ?_
      rintro e w3 ⟨b3, rfl, hb3, g3⟩
      have HS3 := Lib.hid (CellsAre.keep HS.out g3)
      clear HS
      have K3 : Hid (Grows w2 w3) := by first | exact g3 | exact ((Grows.refl _).alloc _).trans g3 | exact ((Grows.refl _).drew).trans g3
      have T3 : Hid (Grows w w3) := T2.out.trans K3.out
      have A0_3 := Lib.hid (A0_2.out.keep K3.out)
      have A1_3 := Lib.hid (A1_2.out.keep K3.out)
      clear A0_2 A1_2 g3
      obtain ⟨B0, d0, hbe, hd0, hB9⟩ := HF0.out _ _ _ hb3
      subst hbe
      have H0 := Lib.hid hB9
      clear hB9 hb3
      go_wp2_with fail
      refine ⟨HS3.out, ?_⟩
      refine wpAnyM_one (i := 3) rfl (by kernel_rfl) rfl ?_
      go_wp2_with fail
      refine (HT1.out _ (by first | exact T3.out | exact (T3.out).alloc _ | exact (T3.out).drew)).mono ?_
      rintro e w4 ⟨b4, rfl, hb4, g4⟩
      have HS4 := Lib.hid (CellsAre.keep HS3.out g4)
      clear HS3
      have K4 : Hid (Grows w3 w4) := by first | exact g4 | exact ((Grows.refl _).alloc _).trans g4 | exact ((Grows.refl _).drew).trans g4
      have T4 : Hid (Grows w w4) := T3.out.trans K4.out
      have A0_4 := Lib.hid (A0_3.out.keep K4.out)
      have A1_4 := Lib.hid (A1_3.out.keep K4.out)
      clear A0_3 A1_3 g4
      have H0' := Lib.hid (H0.out.keep K4.out)
      clear H0
      have H0 := H0'
      clear H0'
      obtain ⟨B1, d1, hbe, hd1, hB9⟩ := HF1.out _ _ _ hb4
      subst hbe
      have H1 := Lib.hid hB9
      clear hB9 hb4
      go_wp2_with fail
      refine ⟨HS4.out, ?_⟩
      refine wpAnyM_one (i := 4) rfl (by kernel_rfl) rfl ?_
      go_wp2_with fail
      refine (HV.out _ _ _ hd0 _ _ hd1 H0.out H1.out).mono ?_
      rintro e w5 ⟨rfl, g5⟩
      have HS5 := Lib.hid (CellsAre.keep HS4.out g5)
      clear HS4
      have K5 : Hid (Grows w4 w5) := by first | exact g5 | exact ((Grows.refl _).alloc _).trans g5 | exact ((Grows.refl _).drew).trans g5
      have T5 : Hid (Grows w w5) := T4.out.trans K5.out
      have A0_5 := Lib.hid (A0_4.out.keep K5.out)
      have A1_5 := Lib.hid (A1_4.out.keep K5.out)
      clear A0_4 A1_4 g5
      clear H0 H1 hd0 hd1
      go_wp2_with fail
      refine ⟨HS5.out, ?_⟩
      have hS := HS5.out
      refine wpAnyM_take (i := 5) (v := ?vp5x5) hB rfl (by kernel_rfl) (fun _ _ _ h => h) (by first | kernel_rfl | simp [Region.wanted, yielded, Act.put]) ?yp5x5 hS ?np5x5
      case yp5x5 => (intro w9 hSw; obtain ⟨s1, s2, _⟩ := hSw; go_simp; try with_reducible rfl)
      refine wpAnyM_take (i := 6) (v := ?vp5x6) hB rfl (by kernel_rfl) (fun _ _ _ h => h) (by first | kernel_rfl | simp [Region.wanted, yielded, Act.put]) ?yp5x6 hS ?np5x6
      case yp5x6 => (intro w9 hSw; obtain ⟨s1, s2, _⟩ := hSw; go_simp; try with_reducible rfl)
      refine wpAnyM_take (i := 7) (v := ?vp5x7) hB rfl (by kernel_rfl) (fun _ _ _ h => h) (by first | kernel_rfl | simp [Region.wanted, yielded, Act.put]) ?yp5x7 hS ?np5x7
      case yp5x7 => (intro w9 hSw; obtain ⟨s1, s2, _⟩ := hSw; go_simp; try with_reducible rfl)
      refine wpAnyM_take (i := 8) (v := ?vp5x8) hB rfl (by kernel_rfl) (fun _ _ _ h => h) (by first | kernel_rfl | simp [Region.wanted, yielded, Act.put]) ?yp5x8 hS ?np5x8
      case yp5x8 => (intro w9 hSw; obtain ⟨s1, s2, _⟩ := hSw; go_simp; try with_reducible rfl)
      refine wpAnyM_take (i := 9) (v := ?vp5x9) hB rfl (by kernel_rfl) (fun _ _ _ h => h) (by first | kernel_rfl | simp [Region.wanted, yielded, Act.put]) ?yp5x9 hS ?np5x9
      case yp5x9 => (intro w9 hSw; obtain ⟨s1, s2, _⟩ := hSw; go_simp; try with_reducible rfl)
      refine wpAnyM_take (i := 10) (v := ?vp5x10) hB rfl (by kernel_rfl) (fun _ _ _ h => h) (by first | kernel_rfl | simp [Region.wanted, yielded, Act.put]) ?yp5x10 hS ?np5x10
      case yp5x10 => (intro w9 hSw; obtain ⟨s1, s2, _⟩ := hSw; go_simp; try with_reducible rfl)
      refine wpAnyM_tail (by kernel_rfl) ?_
      clear hB hS HS5
      have cA0 := A0_5.out.cell
      have lA0 := A0_5.out.lt
      go_wp2_with fail
      refine (HT0.out _ (by first | exact T5.out | exact (T5.out).alloc _ | exact (T5.out).drew)).mono ?_
      rintro e w6 ⟨b6, rfl, hb6, g6⟩
      have K6 : Hid (Grows w5 w6) := by first | exact g6 | exact ((Grows.refl _).alloc _).trans g6 | exact ((Grows.refl _).drew).trans g6
      have T6 : Hid (Grows w w6) := T5.out.trans K6.out
      have A0_6 := Lib.hid (A0_5.out.keep K6.out)
      have A1_6 := Lib.hid (A1_5.out.keep K6.out)
      clear A0_5 A1_5 g6
      clear cA0 lA0
      obtain ⟨X0, z0, hbe, hd0, hB9⟩ := HF0.out _ _ _ hb6
      subst hbe
      have O0_6 := Lib.hid hb6
      clear hb6 hB9
      have cA1 := A1_6.out.cell
      have lA1 := A1_6.out.lt
      go_wp2_with fail
      refine (HT1.out _ (by first | exact T6.out | exact (T6.out).alloc _ | exact (T6.out).drew)).mono ?_
      rintro e w7 ⟨b7, rfl, hb7, g7⟩
      have X0_7 : Hid (Box w7 w6.heap.size (.slice X0 n0 z0) 25) := (Box.new w6 _ _).keep g7
      have K7 : Hid (Grows w6 w7) := by first | exact g7 | exact ((Grows.refl _).alloc _).trans g7 | exact ((Grows.refl _).drew).trans g7
      have T7 : Hid (Grows w w7) := T6.out.trans K7.out
      have A0_7 := Lib.hid (A0_6.out.keep K7.out)
      have A1_7 := Lib.hid (A1_6.out.keep K7.out)
      have O0_7 := Lib.hid (O0_6.out.keep K7.out)
      clear A0_6 A1_6 O0_6 g7
      clear cA1 lA1
      obtain ⟨X1, z1, hbe, hd1, hB9⟩ := HF1.out _ _ _ hb7
      subst hbe
      have O1_7 := Lib.hid hb7
      clear hb7 hB9
      have cX0 := X0_7.out.cell
      have lX0 := X0_7.out.lt
      go_wp2_with fail
      have hq0 : EntsAt w7 X0 ls0 := by
        obtain ⟨x, y, he, _, hh⟩ := HF0.out _ _ _ O0_7.out
        injection he with he1 he2 he3
        subst he1
        exact hh
      have hq1 : EntsAt w7 X1 ls1 := by
        obtain ⟨x, y, he, _, hh⟩ := HF1.out _ _ _ O1_7.out
        injection he with he1 he2 he3
        subst he1
        exact hh
      have HQ0 := Lib.hid hq0
      have HQ1 := Lib.hid hq1
      clear hq0 hq1
      refine (HI.out _ _ _ hd0 _ _ hd1 (by first | exact HQ0.out | exact HQ0.out.keep ((Grows.refl _).alloc _)) (by first | exact HQ1.out | exact HQ1.out.keep ((Grows.refl _).alloc _))).mono ?_
      rintro e w8 ⟨rfl, g8⟩
      have X1_8 : Hid (Box w8 w7.heap.size (.slice X1 n1 z1) 25) := (Box.new w7 _ _).keep g8
      clear cX0 lX0
      have K8 : Hid (Grows w7 w8) := by first | exact g8 | exact ((Grows.refl _).alloc _).trans g8 | exact ((Grows.refl _).drew).trans g8
      have T8 : Hid (Grows w w8) := T7.out.trans K8.out
      have A0_8 := Lib.hid (A0_7.out.keep K8.out)
      have A1_8 := Lib.hid (A1_7.out.keep K8.out)
      have O0_8 := Lib.hid (O0_7.out.keep K8.out)
      have X0_8 := Lib.hid (X0_7.out.keep K8.out)
      have O1_8 := Lib.hid (O1_7.out.keep K8.out)
      clear A0_7 A1_7 O0_7 X0_7 O1_7 g8
      clear HQ0 HQ1 hd0 hd1
      have cX0 := X0_8.out.cell
      have lX0 := X0_8.out.lt
      have cA0 := A0_8.out.cell
      have lA0 := A0_8.out.lt
      go_wp2_with fail
      refine wp_region_M 3 (CellsAre [(⟨w6.heap.size, 0, none⟩, (.slice X0 n0 z0)), (⟨w.heap.size, 0, none⟩, (.slice A0 n0 c0))]) (by kernel_rfl) (by kernel_rfl) ⟨cX0, cA0, trivial⟩ (fun hB hS => ?_)
      refine wpAnyM_take (i := 0) (v := ?vp2y0) hB rfl (by kernel_rfl) (fun _ _ _ h => h) (by first | kernel_rfl | simp [Region.wanted, yielded, Act.put]) ?yp2y0 hS ?np2y0
      case yp2y0 => (intro w9 hSw; obtain ⟨s1, s2, _⟩ := hSw; go_simp; try with_reducible rfl)
      refine wpAnyM_take (i := 1) (v := ?vp2y1) hB rfl (by kernel_rfl) (fun _ _ _ h => h) (by first | kernel_rfl | simp [Region.wanted, yielded, Act.put]) ?yp2y1 hS ?np2y1
      case yp2y1 => (intro w9 hSw; obtain ⟨s1, s2, _⟩ := hSw; go_simp; try with_reducible rfl)
      refine wpAnyM_one (i := 2) rfl (by kernel_rfl) rfl ?_
      clear cX0 lX0 cA0 lA0
      have HS := Lib.hid hS
      clear hS
      go_wp2_with fail
      refine (HT0.out _ (by first | exact T8.out | exact (T8.out).alloc _ | exact (T8.out).drew)).mono ?_
      rintro e w9 ⟨bb, rfl, hbb, g9⟩
      have HS' := Lib.hid (CellsAre.keep HS.out g9)
      clear HS
      have K9 : Hid (Grows w8 w9) := by first | exact g9 | exact ((Grows.refl _).alloc _).trans g9 | exact ((Grows.refl _).drew).trans g9
      have T9 : Hid (Grows w w9) := T8.out.trans K9.out
      have A0_9 := Lib.hid (A0_8.out.keep K9.out)
      have A1_9 := Lib.hid (A1_8.out.keep K9.out)
      have O0_9 := Lib.hid (O0_8.out.keep K9.out)
      have X0_9 := Lib.hid (X0_8.out.keep K9.out)
      have O1_9 := Lib.hid (O1_8.out.keep K9.out)
      have X1_9 := Lib.hid (X1_8.out.keep K9.out)
      clear A0_8 A1_8 O0_8 X0_8 O1_8 X1_8 g9
      have D := Lib.hid hbb
      obtain ⟨Bx, dx, hbe, hdx, hBx⟩ := HF0.out _ _ _ hbb
      subst hbe
      clear hbb hdx hBx
      go_wp2_with fail
      refine ⟨HS'.out, ?_⟩
      refine wpAnyM_tail (by kernel_rfl) ?_
      clear HS' hB
      go_wp2_with fail
      refine (HE0.out _ _ _ _ _ (by first | exact O0_9.out | exact (O0_9.out).keep ((Grows.refl _).alloc _) | exact (O0_9.out).keep ((Grows.refl _).drew)) D.out).mono ?_
      rintro e w10 ⟨rfl, g10⟩
      have K10 : Hid (Grows w9 w10) := by first | exact g10 | exact ((Grows.refl _).alloc _).trans g10 | exact ((Grows.refl _).drew).trans g10
      have T10 : Hid (Grows w w10) := T9.out.trans K10.out
      have A0_10 := Lib.hid (A0_9.out.keep K10.out)
      have A1_10 := Lib.hid (A1_9.out.keep K10.out)
      have O0_10 := Lib.hid (O0_9.out.keep K10.out)
      have X0_10 := Lib.hid (X0_9.out.keep K10.out)
      have O1_10 := Lib.hid (O1_9.out.keep K10.out)
      have X1_10 := Lib.hid (X1_9.out.keep K10.out)
      clear A0_9 A1_9 O0_9 X0_9 O1_9 X1_9 g10
      clear D
      have cX1 := X1_10.out.cell
      have lX1 := X1_10.out.lt
      have cA1 := A1_10.out.cell
      have lA1 := A1_10.out.lt
      go_wp2_with fail
      refine wp_region_M 3 (CellsAre [(⟨w7.heap.size, 0, none⟩, (.slice X1 n1 z1)), (⟨w.heap.size + 1, 0, none⟩, (.slice A1 n1 c1))]) (by kernel_rfl) (by kernel_rfl) ⟨cX1, cA1, trivial⟩ (fun hB hS => ?_)
      refine wpAnyM_take (i := 0) (v := ?vp3y0) hB rfl (by kernel_rfl) (fun _ _ _ h => h) (by first | kernel_rfl | simp [Region.wanted, yielded, Act.put]) ?yp3y0 hS ?np3y0
      case yp3y0 => (intro w9 hSw; obtain ⟨s1, s2, _⟩ := hSw; go_simp; try with_reducible rfl)
      refine wpAnyM_take (i := 1) (v := ?vp3y1) hB rfl (by kernel_rfl) (fun _ _ _ h => h) (by first | kernel_rfl | simp [Region.wanted, yielded, Act.put]) ?yp3y1 hS ?np3y1
      case yp3y1 => (intro w9 hSw; obtain ⟨s1, s2, _⟩ := hSw; go_simp; try with_reducible rfl)
      refine wpAnyM_one (i := 2) rfl (by kernel_rfl) rfl ?_
      clear cX1 lX1 cA1 lA1
      have HS := Lib.hid hS
      clear hS
      go_wp2_with fail
      refine (HT1.out _ (by first | exact T10.out | exact (T10.out).alloc _ | exact (T10.out).drew)).mono ?_
      rintro e w11 ⟨bb, rfl, hbb, g11⟩
      have HS' := Lib.hid (CellsAre.keep HS.out g11)
      clear HS
      have K11 : Hid (Grows w10 w11) := by first | exact g11 | exact ((Grows.refl _).alloc _).trans g11 | exact ((Grows.refl _).drew).trans g11
      have T11 : Hid (Grows w w11) := T10.out.trans K11.out
      have A0_11 := Lib.hid (A0_10.out.keep K11.out)
      have A1_11 := Lib.hid (A1_10.out.keep K11.out)
      have O0_11 := Lib.hid (O0_10.out.keep K11.out)
      have X0_11 := Lib.hid (X0_10.out.keep K11.out)
      have O1_11 := Lib.hid (O1_10.out.keep K11.out)
      have X1_11 := Lib.hid (X1_10.out.keep K11.out)
      clear A0_10 A1_10 O0_10 X0_10 O1_10 X1_10 g11
      have D := Lib.hid hbb
      obtain ⟨Bx, dx, hbe, hdx, hBx⟩ := HF1.out _ _ _ hbb
      subst hbe
      clear hbb hdx hBx
      go_wp2_with fail
      refine ⟨HS'.out, ?_⟩
      refine wpAnyM_tail (by kernel_rfl) ?_
      clear HS' hB
      go_wp2_with fail
      refine (HE1.out _ _ _ _ _ (by first | exact O1_11.out | exact (O1_11.out).keep ((Grows.refl _).alloc _) | exact (O1_11.out).keep ((Grows.refl _).drew)) D.out).mono ?_
      rintro e w12 ⟨rfl, g12⟩
      have K12 : Hid (Grows w11 w12) := by first | exact g12 | exact ((Grows.refl _).alloc _).trans g12 | exact ((Grows.refl _).drew).trans g12
      have T12 : Hid (Grows w w12) := T11.out.trans K12.out
      have A0_12 := Lib.hid (A0_11.out.keep K12.out)
      have A1_12 := Lib.hid (A1_11.out.keep K12.out)
      have O0_12 := Lib.hid (O0_11.out.keep K12.out)
      have X0_12 := Lib.hid (X0_11.out.keep K12.out)
      have O1_12 := Lib.hid (O1_11.out.keep K12.out)
      have X1_12 := Lib.hid (X1_11.out.keep K12.out)
      clear A0_11 A1_11 O0_11 X0_11 O1_11 X1_11 g12
      clear D
      go_wp2
      go_ret
      exact ⟨rfl, T12.out.below⟩
    · rw [less_no (by omega)] at HZ1
      obtain ⟨i0, hi0⟩ : ∃ i, (1048576 : Int) - (wents ls0 : Int) = i := ⟨_, rfl⟩
      rw [hi0] at HZ0 HZ1
      have hip0 : 0 ≤ i0 := by omega
      clear hi0
      clear hw0 hw1 hr0 hA0 hn0 hr1 hA1 hn1
      obtain ⟨n0, hnn0⟩ : ∃ n, ls0.length = n := ⟨_, rfl⟩
      obtain ⟨n1, hnn1⟩ : ∃ n, ls1.length = n := ⟨_, rfl⟩
      rw [hnn0] at HZ0 ⊢
      rw [hnn1] at HZ1 ⊢
      clear hnn0 hnn1
      go_enter Tryd.func7, Tryd.ntmps7
      have HBB : Hid (Grows w ((w.alloc (.cells #[.slice A0 n0 c0] 54)).alloc (.cells #[.slice A1 n1 c1] 54))) := (((Grows.refl _).alloc _).alloc _)
      have HB0 : Hid (Box ((w.alloc (.cells #[.slice A0 n0 c0] 54)).alloc (.cells #[.slice A1 n1 c1] 54)) (w.heap.size) (.slice A0 n0 c0) 54) := (Box.new w (.slice A0 n0 c0) 54).keep ((Grows.refl _).alloc _)
      have HB1 : Hid (Box ((w.alloc (.cells #[.slice A0 n0 c0] 54)).alloc (.cells #[.slice A1 n1 c1] 54)) (w.heap.size + 1) (.slice A1 n1 c1) 54) := by
        have h : Box ((w.alloc (.cells #[.slice A0 n0 c0] 54)).alloc (.cells #[.slice A1 n1 c1] 54)) _ (.slice A1 n1 c1) 54 := Box.new (w.alloc (.cells #[.slice A0 n0 c0] 54)) (.slice A1 n1 c1) 54
        simp only [World.size_alloc] at h
        exact h
      go_wp2_with fail
      refine (HZ0.out _ HBB.out).mono ?_
      rintro e w1 ⟨rfl, g1⟩
      have K1 : Hid (Grows ((w.alloc (.cells #[.slice A0 n0 c0] 54)).alloc (.cells #[.slice A1 n1 c1] 54)) w1) := g1
      have T1 : Hid (Grows w w1) := HBB.out.trans K1.out
      have A0_1 := Lib.hid (HB0.out.keep K1.out)
      have A1_1 := Lib.hid (HB1.out.keep K1.out)
      clear g1
      have cA1 := A1_1.out.cell
      have lA1 := A1_1.out.lt
      go_wp2_with fail
      refine (HZ1.out _ (by first | exact T1.out | exact (T1.out).alloc _ | exact (T1.out).drew)).mono ?_
      rintro e w2 ⟨rfl, g2⟩
      have K2 : Hid (Grows w1 w2) := by first | exact g2 | exact ((Grows.refl _).alloc _).trans g2 | exact ((Grows.refl _).drew).trans g2
      have T2 : Hid (Grows w w2) := T1.out.trans K2.out
      have A0_2 := Lib.hid (A0_1.out.keep K2.out)
      have A1_2 := Lib.hid (A1_1.out.keep K2.out)
      clear A0_1 A1_1 g2
      clear cA1 lA1
      go_wp2
      go_ret
      exact ⟨rfl, T2.out.below⟩
  · rw [less_no (by omega)] at HZ0
    clear hw0 hr0 hA0 hn0 hr1 hA1 hn1
    obtain ⟨n0, hnn0⟩ : ∃ n, ls0.length = n := ⟨_, rfl⟩
    obtain ⟨n1, hnn1⟩ : ∃ n, ls1.length = n := ⟨_, rfl⟩
    rw [hnn0] at HZ0 ⊢
    rw [hnn1]
    clear hnn0 hnn1
    go_enter Tryd.func7, Tryd.ntmps7
    have HBB : Hid (Grows w ((w.alloc (.cells #[.slice A0 n0 c0] 54)).alloc (.cells #[.slice A1 n1 c1] 54))) := (((Grows.refl _).alloc _).alloc _)
    have HB0 : Hid (Box ((w.alloc (.cells #[.slice A0 n0 c0] 54)).alloc (.cells #[.slice A1 n1 c1] 54)) (w.heap.size) (.slice A0 n0 c0) 54) := (Box.new w (.slice A0 n0 c0) 54).keep ((Grows.refl _).alloc _)
    have HB1 : Hid (Box ((w.alloc (.cells #[.slice A0 n0 c0] 54)).alloc (.cells #[.slice A1 n1 c1] 54)) (w.heap.size + 1) (.slice A1 n1 c1) 54) := by
      have h : Box ((w.alloc (.cells #[.slice A0 n0 c0] 54)).alloc (.cells #[.slice A1 n1 c1] 54)) _ (.slice A1 n1 c1) 54 := Box.new (w.alloc (.cells #[.slice A0 n0 c0] 54)) (.slice A1 n1 c1) 54
      simp only [World.size_alloc] at h
      exact h
    go_wp2_with fail
    refine (HZ0.out _ HBB.out).mono ?_
    rintro e w1 ⟨rfl, g1⟩
    have K1 : Hid (Grows ((w.alloc (.cells #[.slice A0 n0 c0] 54)).alloc (.cells #[.slice A1 n1 c1] 54)) w1) := g1
    have T1 : Hid (Grows w w1) := HBB.out.trans K1.out
    have A0_1 := Lib.hid (HB0.out.keep K1.out)
    have A1_1 := Lib.hid (HB1.out.keep K1.out)
    clear g1
    go_wp2
    go_ret
    exact ⟨rfl, T1.out.below⟩
end Go.Proofs.YtcecjdjfbgmogaaDoor
