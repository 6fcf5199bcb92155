/-
  The law of UndoLayer: whatever its arguments, it returns true. Conditions: parts no longer than a text may be.
-/
import Derived.Test.YtoicohheoddfjaaDoorUnd
import Derived.Test.YtoicohheoddfjaaDoorRegM
import Derived.Test.YtoicohheoddfjaaDoorApartB
import Derived.Deep.DeepCutAuto
namespace Go.Proofs.YtoicohheoddfjaaDoor
open Go.RowKit

set_option maxRecDepth 100000 in
set_option maxHeartbeats 16000000 in
theorem lawUnd_any (A0 : Option Addr) (c0 : Nat) (ls0 : List Ent) (A1 : Option Addr) (c1 : Nat) (ls1 : List Ent) (w : World) (hn0 : ls0.length ≤ maxLen) (hr0 : ∀ i (h : i < ls0.length), ls0[i].inReach) (hA0 : EntsAt w A0 ls0) (hn1 : ls1.length ≤ maxLen) (hr1 : ∀ i (h : i < ls1.length), ls1[i].inReach) (hA1 : EntsAt w A1 ls1) :
    Calls Tryd.prog 6 #[.agg #[.slice A0 ls0.length c0], .agg #[.slice A1 ls1.length c1]] w fun e w' => e = .returned (.bool true) ∧ Below w.heap.size w w' := by
  have HZ0 := Lib.hid (fun w1 (g : Grows w w1) => szLayer_any A0 c0 ls0 (1048576) w1 (by omega) (by omega) hn0 hr0 (hA0.keep g))
  by_cases hw0 : (wents ls0 : Int) ≤ 1048576
  · rw [less_of hw0] at HZ0
    have HZ1 := Lib.hid (fun w1 (g : Grows w w1) => szLayer_any A1 c1 ls1 (1048576 - (wents ls0 : Int)) w1 (by omega) (by omega) hn1 hr1 (hA1.keep g))
    by_cases hw1 : (wents ls1 : Int) ≤ 1048576 - (wents ls0 : Int)
    · rw [less_of hw1] at HZ1
      have f0 := efits_of (ls := ls0) (m := 1048576) (by omega) (by omega)
      have f1 := efits_of (ls := ls1) (m := 1048576 - (wents ls0 : Int)) (by omega) (by omega)
      have HF0 := Lib.hid (fun (v : Value) (b : Nat) (w1 : World) (h : OwnE w1 b v ls0) => h.formC)
      have HF1 := Lib.hid (fun (v : Value) (b : Nat) (w1 : World) (h : OwnE w1 b v ls1) => h.formC)
      have HT0 := Lib.hid (fun w1 (g : Grows w w1) => toLayer_any A0 c0 ls0 w1 f0.1 (hA0.keep g))
      have HE0 := Lib.hid (fun (v u : Value) (b1 b2 : Nat) (w1 : World) (h : OwnE w1 b1 v ls0) (h2 : OwnE w1 b2 u ls0) => eqLayer_own v u b1 b2 ls0 w1 f0.1 h h2)
      have HM0 := Lib.hid (fun (v : Value) (b : Nat) (w1 : World) (h : OwnE w1 b v ls0) => markLayer_own v b ls0.length (1) _ w1 f0.1 (by have := f0.1; have := f1.1; omega) h)
      have HT1 := Lib.hid (fun w1 (g : Grows w w1) => toLayer_any A1 c1 ls1 w1 f1.1 (hA1.keep g))
      have HE1 := Lib.hid (fun (v u : Value) (b1 b2 : Nat) (w1 : World) (h : OwnE w1 b1 v ls1) (h2 : OwnE w1 b2 u ls1) => eqLayer_own v u b1 b2 ls1 w1 f1.1 h h2)
      have HM1 := Lib.hid (fun (v : Value) (b : Nat) (w1 : World) (h : OwnE w1 b v ls1) => markLayer_own v b ls1.length (1 + ls0.length * 4) _ w1 f1.1 (by have := f0.1; have := f1.1; omega) h)
      have HV := Lib.hid (fun (w1 : World) (B0 : Option Addr) (d0 : Nat) (hd0 : ls0.length ≤ d0) (B1 : Option Addr) (d1 : Nat) (hd1 : ls1.length ≤ d1) (h0 : EntsAt w1 B0 ls0) (h1 : EntsAt w1 B1 ls1) => specUnd_any B0 d0 ls0 B1 d1 ls1 w1 hd0 hd1 f0 h0 f1 h1)
      have HI := Lib.hid (fun (w1 : World) (B0 : Option Addr) (d0 : Nat) (hd0 : ls0.length ≤ d0) (B1 : Option Addr) (d1 : Nat) (hd1 : ls1.length ≤ d1) (h0 : EntsAt w1 B0 ls0) (h1 : EntsAt w1 B1 ls1) => implUnd_any B0 d0 ls0 B1 d1 ls1 w1 hd0 hd1 f0 h0 f1 h1)
      have hxl : (undoL ls0 ls1).length ≤ 1048576 := Nat.le_trans (undoL_20 _ _) (by omega)
      have hm0 := f0.1
      have hm1 := f1.1
      obtain ⟨i0, hi0⟩ : ∃ i, (1048576 : Int) - (wents ls0 : Int) = i := ⟨_, rfl⟩
      rw [hi0] at HZ0 HZ1
      have hip0 : 0 ≤ i0 := by omega
      obtain ⟨i1, hi1⟩ : ∃ i, (i0 : Int) - (wents ls1 : Int) = i := ⟨_, rfl⟩
      rw [hi1] at HZ1
      have hip1 : 0 ≤ i1 := by omega
      clear hi0 hi1
      clear hw0 hw1
      clear f0 f1 hr0 hA0 hn0 hr1 hA1 hn1
      obtain ⟨n0, hnn0⟩ : ∃ n, ls0.length = n := ⟨_, rfl⟩
      obtain ⟨n1, hnn1⟩ : ∃ n, ls1.length = n := ⟨_, rfl⟩
      unfold ResEB at HV HI
      unfold ResE at HT0 HT1
      rw [hnn0] at HZ0 HT0 HV HI HF0 HM0 hm0 HM1 ⊢
      rw [hnn1] at HZ1 HT1 HV HI HF1 HM1 hm1 ⊢
      clear hnn0 hnn1
      obtain ⟨β, hβ⟩ : ∃ β, undoB ls0 ls1 = β := ⟨_, rfl⟩
      rw [hβ] at HV HI
      clear hβ
      obtain ⟨xs, hxs⟩ : ∃ xs, undoL ls0 ls1 = xs := ⟨_, rfl⟩
      rw [hxs] at HV HI hxl
      clear hxs
      have HE := Lib.hid (fun (v u : Value) (b1 b2 : Nat) (w1 : World) (h : OwnE w1 b1 v xs) (h2 : OwnE w1 b2 u xs) => eqLayer_own v u b1 b2 xs w1 hxl h h2)
      have HMG := Lib.hid (fun (v : Value) (b : Nat) (w1 : World) (h : OwnE w1 b v xs) => markLayer_own v b xs.length 1 _ w1 hxl (by omega) h)
      have HHG := Lib.hid (fun (v : Value) (b : Nat) (w1 : World) (h : OwnQ w1 b v xs.length (qcells 1 xs.length)) => heldLayer_own v b xs.length 1 w1 hxl (by omega) h)
      obtain ⟨q, hq⟩ : ∃ q, xs.length = q := ⟨_, rfl⟩
      rw [hq] at HMG HHG hxl
      clear hq
      have e0m : ((1 + n0 * 4 : Nat) : Int) = 1 + (n0 : Int) * 4 := by omega
      have e1m : ((1 + n0 * 4 + n1 * 4 : Nat) : Int) = 1 + (n0 : Int) * 4 + (n1 : Int) * 4 := by omega
      rw [e0m] at HM0 HM1
      rw [e1m] at HM1
      have e2m : ((1 + q * 4 : Nat) : Int) = 1 + (q : Int) * 4 := by omega
      rw [e2m] at HMG HHG
      clear e2m e0m e1m
      have e3m : ((1 : Nat) : Int) = 1 := rfl
      rw [e3m] at HM0 HMG HHG
      clear e3m
      go_enter Tryd.func6, Tryd.ntmps6
      have HBB : Hid (Grows w ((w.alloc (.cells #[.slice A0 n0 c0] 45)).alloc (.cells #[.slice A1 n1 c1] 45))) := (((Grows.refl _).alloc _).alloc _)
      have HB0 : Hid (Box ((w.alloc (.cells #[.slice A0 n0 c0] 45)).alloc (.cells #[.slice A1 n1 c1] 45)) (w.heap.size) (.slice A0 n0 c0) 45) := (Box.new w (.slice A0 n0 c0) 45).keep ((Grows.refl _).alloc _)
      have HB1 : Hid (Box ((w.alloc (.cells #[.slice A0 n0 c0] 45)).alloc (.cells #[.slice A1 n1 c1] 45)) (w.heap.size + 1) (.slice A1 n1 c1) 45) := by
        have h : Box ((w.alloc (.cells #[.slice A0 n0 c0] 45)).alloc (.cells #[.slice A1 n1 c1] 45)) _ (.slice A1 n1 c1) 45 := Box.new (w.alloc (.cells #[.slice A0 n0 c0] 45)) (.slice A1 n1 c1) 45
        simp only [World.size_alloc] at h
        exact h
      go_wp2_with fail
      refine (HZ0.out _ (by first | exact HBB.out | exact (HBB.out).alloc _ | exact (HBB.out).drew)).mono ?_
      rintro e w1 ⟨rfl, g1⟩
      have K1 : Hid (Grows ((w.alloc (.cells #[.slice A0 n0 c0] 45)).alloc (.cells #[.slice A1 n1 c1] 45)) w1) := g1
      have T1 : Hid (Grows w w1) := HBB.out.trans K1.out
      have A0_1 := Lib.hid (HB0.out.keep K1.out)
      have A1_1 := Lib.hid (HB1.out.keep K1.out)
      clear g1
      have cA1 := A1_1.out.cell
      have lA1 := A1_1.out.lt
      go_wp2_with fail
      refine (HZ1.out _ (by first | exact T1.out | exact (T1.out).alloc _ | exact (T1.out).drew)).mono ?_
      rintro e w2 ⟨rfl, g2⟩
      have K2 : Hid (Grows w1 w2) := by first | exact g2 | exact ((Grows.refl _).alloc _).trans g2 | exact ((Grows.refl _).drew).trans g2
      have T2 : Hid (Grows w w2) := T1.out.trans K2.out
      have A0_2 := Lib.hid (A0_1.out.keep K2.out)
      have A1_2 := Lib.hid (A1_1.out.keep K2.out)
      clear A0_1 A1_1
      clear g2
      clear cA1 lA1
      have cA0 := A0_2.out.cell
      have lA0 := A0_2.out.lt
      have cA1 := A1_2.out.cell
      have lA1 := A1_2.out.lt
      go_wp2_with fail
      go_cut [6, 7] (fun sW sB wx => ∃ (bX : Nat) (v : Value), sW = .pointer (some ⟨bX, 0, none⟩) ∧ sB = .bool β ∧ Hid (Box wx bX v 27) ∧ Hid (OwnE wx w2.heap.size v xs) ∧ Hid (w2.heap.size ≤ bX) ∧ Hid (Grows w2 wx))
      case first =>
        refine wp_region_M 10 (CellsAre [(⟨w.heap.size, 0, none⟩, (.slice A0 n0 c0)), (⟨w.heap.size + 1, 0, none⟩, (.slice A1 n1 c1))]) (by kernel_rfl) (by kernel_rfl) ⟨cA0, cA1, trivial⟩ (fun hB hS => ?_)
        refine wpAnyM_take (i := 0) (v := ?vt1x0) hB rfl (by kernel_rfl) (fun _ _ _ h => h) (by rfl) ?yt1x0 hS ?nt1x0
        case yt1x0 => (intro w9 hSw; obtain ⟨s1, s2, _⟩ := hSw; go_simp; try with_reducible rfl)
        refine wpAnyM_take (i := 2) (v := ?vt1x2) hB rfl (by kernel_rfl) (fun _ _ _ h => h) (by rfl) ?yt1x2 hS ?nt1x2
        case yt1x2 => (intro w9 hSw; obtain ⟨s1, s2, _⟩ := hSw; go_simp; try with_reducible rfl)
        have HSB : Hid (CellsAre [(⟨w.heap.size, 0, none⟩, (.slice A0 n0 c0)), (⟨w.heap.size + 1, 0, none⟩, (.slice A1 n1 c1))] w2) := ⟨cA0, cA1, trivial⟩
        have HS0 := Lib.hid hS
        clear hS cA0 cA1
        have GG0 : Hid (Grows w2 w2.drew) := (Grows.refl _).drew
        refine wpAnyM_two (i := 1) (j := 8) rfl rfl (by kernel_rfl) rfl rfl ?_ ?_
        · go_wp2_with fail
          refine (HT0.out _ (T2.out.trans GG0.out)).mono ?_
          rintro e y1W ⟨bb, rfl, hbb, gg⟩
          obtain ⟨B0, d0, hbe, hd0, hB9⟩ := HF0.out _ _ _ hbb
          subst hbe
          have H0 := Lib.hid hB9
          clear hB9 hbb
          have GG_1 : Hid (Grows w2 y1W) := GG0.out.trans gg
          have HS_1 := Lib.hid (CellsAre.keep HS0.out gg)
          clear gg HS0 GG0
          go_wp2_with fail
          refine ⟨HS_1.out, ?_⟩
          refine wpAnyM_two (i := 3) (j := 8) rfl rfl (by kernel_rfl) rfl rfl ?_ ?_
          · go_wp2_with fail
            refine (HT1.out _ (T2.out.trans GG_1.out)).mono ?_
            rintro e y2W ⟨bb, rfl, hbb, gg⟩
            have H0z := Lib.hid (H0.out.keep gg)
            clear H0
            have H0 := H0z
            clear H0z
            obtain ⟨B1, d1, hbe, hd1, hB9⟩ := HF1.out _ _ _ hbb
            subst hbe
            have H1 := Lib.hid hB9
            clear hB9 hbb
            have GG_2 : Hid (Grows w2 y2W) := GG_1.out.trans gg
            have HS_2 := Lib.hid (CellsAre.keep HS_1.out gg)
            clear gg HS_1 GG_1
            go_wp2_with fail
            refine ⟨HS_2.out, ?_⟩
            refine wpAnyM_two (i := 4) (j := 8) rfl rfl (by kernel_rfl) rfl rfl ?_ ?_
            · go_wp2_with fail
              refine (HV.out _ _ _ hd0 _ _ hd1 H0.out H1.out).mono ?_
              rintro e y3W ⟨vv, rfl, hbb, gg⟩
              have H0z := Lib.hid (H0.out.keep gg)
              clear H0
              have H0 := H0z
              clear H0z
              have H1z := Lib.hid (H1.out.keep gg)
              clear H1
              have H1 := H1z
              clear H1z
              obtain ⟨A7, n7, c7, hv7⟩ := hbb.form3
              subst hv7
              have HVV : Hid (OwnE y3W w2.heap.size (.slice A7 n7 c7) xs) := hbb.less (by have h1 := GG_2.out.size; first | omega | exact h1 | (simp only [World.size_alloc] at *; omega))
              clear hbb
              have GG_3 : Hid (Grows w2 y3W) := GG_2.out.trans gg
              have HS_3 := Lib.hid (CellsAre.keep HS_2.out gg)
              clear gg HS_2 GG_2
              go_wp2_with fail
              refine ⟨HS_3.out, ?_⟩
              have hS := HS_3.out
              refine wpAnyM_take (i := 5) (v := ?vt1xp3x5) hB rfl (by kernel_rfl) (fun _ _ _ h => h) (by rfl) ?yt1xp3x5 hS ?nt1xp3x5
              case yt1xp3x5 => (intro w9 hSw; obtain ⟨s1, s2, _⟩ := hSw; go_simp; try with_reducible rfl)
              refine wpAnyM_take (i := 6) (v := ?vt1xp3x6) hB rfl (by kernel_rfl) (fun _ _ _ h => h) (by rfl) ?yt1xp3x6 hS ?nt1xp3x6
              case yt1xp3x6 => (intro w9 hSw; obtain ⟨s1, s2, _⟩ := hSw; go_simp; try with_reducible rfl)
              refine wpAnyM_take (i := 7) (v := ?vt1xp3x7) hB rfl (by kernel_rfl) (fun _ _ _ h => h) (by rfl) ?yt1xp3x7 hS ?nt1xp3x7
              case yt1xp3x7 => (intro w9 hSw; obtain ⟨s1, s2, _⟩ := hSw; go_simp; try with_reducible rfl)
              clear hS
              refine wpAnyM_one (i := 8) rfl (by kernel_rfl) rfl ?_
              go_wp2_with fail
              have HZZ : Hid (Box (y3W.alloc (.cells #[.slice none 0 0] 27)) y3W.heap.size (.slice none 0 0) 27) := Box.new _ _ _
              have HVVo := HVV
              have GGo := GG_3
              have HVVz := Lib.hid (HVV.out.keep ((Grows.refl _).alloc (.cells #[.slice none 0 0] 27)))
              clear HVV
              have HVV := HVVz
              clear HVVz
              have GG_4 : Hid (Grows w2 (y3W.alloc (.cells #[.slice none 0 0] 27))) := GG_3.out.alloc _
              have HS_4 := Lib.hid (CellsAre.keep HS_3.out ((Grows.refl _).alloc (.cells #[.slice none 0 0] 27)))
              have NZZ : Hid (w2.heap.size ≤ y3W.heap.size) := GG_3.out.size
              clear HS_3 GG_3
              refine ⟨HS_4.out, ?_⟩
              refine wpAnyM_one (i := 9) rfl (by kernel_rfl) rfl ?_
              have cZZ := HZZ.out.cell
              have fZZ := HZZ.out.free
              have lZZ := HZZ.out.lt
              go_wp2_with fail
              refine ⟨by first | exact CellsAre.keep HSB.out (GG_4.out.setCell NZZ.out _) | exact CellsAre.keep HSB.out (GGo.out.alloc _), ?_⟩
              refine wpAnyM_tail (by kernel_rfl) ?_
              clear hB HS_4 cZZ fZZ lZZ
              go_wp2_with fail
              go_meet
              first | exact ⟨_, _, rfl, rfl, HZZ.out.set_ _, HVV.out.setFar (apartBox HVV.out HZZ.out) _, NZZ.out, GG_4.out.setCell NZZ.out _⟩ | exact ⟨_, _, rfl, rfl, Box.new _ _ _, HVVo.out.keep ((Grows.refl _).alloc _), NZZ.out, GGo.out.alloc _⟩
            · go_wp2_with fail
              have HZZ : Hid (Box (y2W.alloc (.cells #[.slice none 0 0] 27)) y2W.heap.size (.slice none 0 0) 27) := Box.new _ _ _
              have H0z := Lib.hid (H0.out.keep ((Grows.refl _).alloc (.cells #[.slice none 0 0] 27)))
              clear H0
              have H0 := H0z
              clear H0z
              have H1z := Lib.hid (H1.out.keep ((Grows.refl _).alloc (.cells #[.slice none 0 0] 27)))
              clear H1
              have H1 := H1z
              clear H1z
              have GG_5 : Hid (Grows w2 (y2W.alloc (.cells #[.slice none 0 0] 27))) := GG_2.out.alloc _
              have HS_5 := Lib.hid (CellsAre.keep HS_2.out ((Grows.refl _).alloc (.cells #[.slice none 0 0] 27)))
              have NZZ : Hid (w2.heap.size ≤ y2W.heap.size) := GG_2.out.size
              clear HS_2 GG_2
              refine ⟨HS_5.out, ?_⟩
              refine wpAnyM_one (i := 4) rfl (by kernel_rfl) rfl ?_
              go_wp2_with fail
              refine (HV.out _ _ _ hd0 _ _ hd1 H0.out H1.out).mono ?_
              rintro e y6W ⟨vv, rfl, hbb, gg⟩
              have H0z := Lib.hid (H0.out.keep gg)
              clear H0
              have H0 := H0z
              clear H0z
              have H1z := Lib.hid (H1.out.keep gg)
              clear H1
              have H1 := H1z
              clear H1z
              have HZZz := Lib.hid (HZZ.out.keep gg)
              clear HZZ
              have HZZ := HZZz
              clear HZZz
              obtain ⟨A7, n7, c7, hv7⟩ := hbb.form3
              subst hv7
              have HVV : Hid (OwnE y6W w2.heap.size (.slice A7 n7 c7) xs) := hbb.less (by have h1 := GG_5.out.size; first | omega | exact h1 | (simp only [World.size_alloc] at *; omega))
              clear hbb
              have GG_6 : Hid (Grows w2 y6W) := GG_5.out.trans gg
              have HS_6 := Lib.hid (CellsAre.keep HS_5.out gg)
              clear gg HS_5 GG_5
              go_wp2_with fail
              refine ⟨HS_6.out, ?_⟩
              have hS := HS_6.out
              refine wpAnyM_take (i := 5) (v := ?vt1xp6x5) hB rfl (by kernel_rfl) (fun _ _ _ h => h) (by rfl) ?yt1xp6x5 hS ?nt1xp6x5
              case yt1xp6x5 => (intro w9 hSw; obtain ⟨s1, s2, _⟩ := hSw; go_simp; try with_reducible rfl)
              refine wpAnyM_take (i := 6) (v := ?vt1xp6x6) hB rfl (by kernel_rfl) (fun _ _ _ h => h) (by rfl) ?yt1xp6x6 hS ?nt1xp6x6
              case yt1xp6x6 => (intro w9 hSw; obtain ⟨s1, s2, _⟩ := hSw; go_simp; try with_reducible rfl)
              refine wpAnyM_take (i := 7) (v := ?vt1xp6x7) hB rfl (by kernel_rfl) (fun _ _ _ h => h) (by rfl) ?yt1xp6x7 hS ?nt1xp6x7
              case yt1xp6x7 => (intro w9 hSw; obtain ⟨s1, s2, _⟩ := hSw; go_simp; try with_reducible rfl)
              clear hS
              refine wpAnyM_one (i := 9) rfl (by kernel_rfl) rfl ?_
              have cZZ := HZZ.out.cell
              have fZZ := HZZ.out.free
              have lZZ := HZZ.out.lt
              go_wp2_with fail
              refine ⟨by first | exact CellsAre.keep HSB.out (GG_6.out.setCell NZZ.out _), ?_⟩
              refine wpAnyM_tail (by kernel_rfl) ?_
              clear hB HS_6 cZZ fZZ lZZ
              go_wp2_with fail
              go_meet
              exact ⟨_, _, rfl, rfl, HZZ.out.set_ _, HVV.out.setFar (apartBox HVV.out HZZ.out) _, NZZ.out, GG_6.out.setCell NZZ.out _⟩
          · go_wp2_with fail
            have HZZ : Hid (Box (y1W.alloc (.cells #[.slice none 0 0] 27)) y1W.heap.size (.slice none 0 0) 27) := Box.new _ _ _
            have H0z := Lib.hid (H0.out.keep ((Grows.refl _).alloc (.cells #[.slice none 0 0] 27)))
            clear H0
            have H0 := H0z
            clear H0z
            have GG_7 : Hid (Grows w2 (y1W.alloc (.cells #[.slice none 0 0] 27))) := GG_1.out.alloc _
            have HS_7 := Lib.hid (CellsAre.keep HS_1.out ((Grows.refl _).alloc (.cells #[.slice none 0 0] 27)))
            have NZZ : Hid (w2.heap.size ≤ y1W.heap.size) := GG_1.out.size
            clear HS_1 GG_1
            refine ⟨HS_7.out, ?_⟩
            refine wpAnyM_one (i := 3) rfl (by kernel_rfl) rfl ?_
            go_wp2_with fail
            refine (HT1.out _ (T2.out.trans GG_7.out)).mono ?_
            rintro e y8W ⟨bb, rfl, hbb, gg⟩
            have H0z := Lib.hid (H0.out.keep gg)
            clear H0
            have H0 := H0z
            clear H0z
            have HZZz := Lib.hid (HZZ.out.keep gg)
            clear HZZ
            have HZZ := HZZz
            clear HZZz
            obtain ⟨B1, d1, hbe, hd1, hB9⟩ := HF1.out _ _ _ hbb
            subst hbe
            have H1 := Lib.hid hB9
            clear hB9 hbb
            have GG_8 : Hid (Grows w2 y8W) := GG_7.out.trans gg
            have HS_8 := Lib.hid (CellsAre.keep HS_7.out gg)
            clear gg HS_7 GG_7
            go_wp2_with fail
            refine ⟨HS_8.out, ?_⟩
            refine wpAnyM_one (i := 4) rfl (by kernel_rfl) rfl ?_
            go_wp2_with fail
            refine (HV.out _ _ _ hd0 _ _ hd1 H0.out H1.out).mono ?_
            rintro e y9W ⟨vv, rfl, hbb, gg⟩
            have H0z := Lib.hid (H0.out.keep gg)
            clear H0
            have H0 := H0z
            clear H0z
            have HZZz := Lib.hid (HZZ.out.keep gg)
            clear HZZ
            have HZZ := HZZz
            clear HZZz
            have H1z := Lib.hid (H1.out.keep gg)
            clear H1
            have H1 := H1z
            clear H1z
            obtain ⟨A7, n7, c7, hv7⟩ := hbb.form3
            subst hv7
            have HVV : Hid (OwnE y9W w2.heap.size (.slice A7 n7 c7) xs) := hbb.less (by have h1 := GG_8.out.size; first | omega | exact h1 | (simp only [World.size_alloc] at *; omega))
            clear hbb
            have GG_9 : Hid (Grows w2 y9W) := GG_8.out.trans gg
            have HS_9 := Lib.hid (CellsAre.keep HS_8.out gg)
            clear gg HS_8 GG_8
            go_wp2_with fail
            refine ⟨HS_9.out, ?_⟩
            have hS := HS_9.out
            refine wpAnyM_take (i := 5) (v := ?vt1xp9x5) hB rfl (by kernel_rfl) (fun _ _ _ h => h) (by rfl) ?yt1xp9x5 hS ?nt1xp9x5
            case yt1xp9x5 => (intro w9 hSw; obtain ⟨s1, s2, _⟩ := hSw; go_simp; try with_reducible rfl)
            refine wpAnyM_take (i := 6) (v := ?vt1xp9x6) hB rfl (by kernel_rfl) (fun _ _ _ h => h) (by rfl) ?yt1xp9x6 hS ?nt1xp9x6
            case yt1xp9x6 => (intro w9 hSw; obtain ⟨s1, s2, _⟩ := hSw; go_simp; try with_reducible rfl)
            refine wpAnyM_take (i := 7) (v := ?vt1xp9x7) hB rfl (by kernel_rfl) (fun _ _ _ h => h) (by rfl) ?yt1xp9x7 hS ?nt1xp9x7
            case yt1xp9x7 => (intro w9 hSw; obtain ⟨s1, s2, _⟩ := hSw; go_simp; try with_reducible rfl)
            clear hS
            refine wpAnyM_one (i := 9) rfl (by kernel_rfl) rfl ?_
            have cZZ := HZZ.out.cell
            have fZZ := HZZ.out.free
            have lZZ := HZZ.out.lt
            go_wp2_with fail
            refine ⟨by first | exact CellsAre.keep HSB.out (GG_9.out.setCell NZZ.out _), ?_⟩
            refine wpAnyM_tail (by kernel_rfl) ?_
            clear hB HS_9 cZZ fZZ lZZ
            go_wp2_with fail
            go_meet
            exact ⟨_, _, rfl, rfl, HZZ.out.set_ _, HVV.out.setFar (apartBox HVV.out HZZ.out) _, NZZ.out, GG_9.out.setCell NZZ.out _⟩
        · go_wp2_with fail
          have HZZ : Hid (Box (w2.drew.alloc (.cells #[.slice none 0 0] 27)) w2.heap.size (.slice none 0 0) 27) := Box.new _ _ _
          have GG_10 : Hid (Grows w2 (w2.drew.alloc (.cells #[.slice none 0 0] 27))) := GG0.out.alloc _
          have HS_10 := Lib.hid (CellsAre.keep HS0.out ((Grows.refl _).alloc (.cells #[.slice none 0 0] 27)))
          have NZZ : Hid (w2.heap.size ≤ w2.heap.size) := GG0.out.size
          clear HS0 GG0
          refine ⟨HS_10.out, ?_⟩
          refine wpAnyM_one (i := 1) rfl (by kernel_rfl) rfl ?_
          go_wp2_with fail
          refine (HT0.out _ (T2.out.trans GG_10.out)).mono ?_
          rintro e y11W ⟨bb, rfl, hbb, gg⟩
          have HZZz := Lib.hid (HZZ.out.keep gg)
          clear HZZ
          have HZZ := HZZz
          clear HZZz
          obtain ⟨B0, d0, hbe, hd0, hB9⟩ := HF0.out _ _ _ hbb
          subst hbe
          have H0 := Lib.hid hB9
          clear hB9 hbb
          have GG_11 : Hid (Grows w2 y11W) := GG_10.out.trans gg
          have HS_11 := Lib.hid (CellsAre.keep HS_10.out gg)
          clear gg HS_10 GG_10
          go_wp2_with fail
          refine ⟨HS_11.out, ?_⟩
          refine wpAnyM_one (i := 3) rfl (by kernel_rfl) rfl ?_
          go_wp2_with fail
          refine (HT1.out _ (T2.out.trans GG_11.out)).mono ?_
          rintro e y12W ⟨bb, rfl, hbb, gg⟩
          have HZZz := Lib.hid (HZZ.out.keep gg)
          clear HZZ
          have HZZ := HZZz
          clear HZZz
          have H0z := Lib.hid (H0.out.keep gg)
          clear H0
          have H0 := H0z
          clear H0z
          obtain ⟨B1, d1, hbe, hd1, hB9⟩ := HF1.out _ _ _ hbb
          subst hbe
          have H1 := Lib.hid hB9
          clear hB9 hbb
          have GG_12 : Hid (Grows w2 y12W) := GG_11.out.trans gg
          have HS_12 := Lib.hid (CellsAre.keep HS_11.out gg)
          clear gg HS_11 GG_11
          go_wp2_with fail
          refine ⟨HS_12.out, ?_⟩
          refine wpAnyM_one (i := 4) rfl (by kernel_rfl) rfl ?_
          go_wp2_with fail
          refine (HV.out _ _ _ hd0 _ _ hd1 H0.out H1.out).mono ?_
          rintro e y13W ⟨vv, rfl, hbb, gg⟩
          have HZZz := Lib.hid (HZZ.out.keep gg)
          clear HZZ
          have HZZ := HZZz
          clear HZZz
          have H0z := Lib.hid (H0.out.keep gg)
          clear H0
          have H0 := H0z
          clear H0z
          have H1z := Lib.hid (H1.out.keep gg)
          clear H1
          have H1 := H1z
          clear H1z
          obtain ⟨A7, n7, c7, hv7⟩ := hbb.form3
          subst hv7
          have HVV : Hid (OwnE y13W w2.heap.size (.slice A7 n7 c7) xs) := hbb.less (by have h1 := GG_12.out.size; first | omega | exact h1 | (simp only [World.size_alloc] at *; omega))
          clear hbb
          have GG_13 : Hid (Grows w2 y13W) := GG_12.out.trans gg
          have HS_13 := Lib.hid (CellsAre.keep HS_12.out gg)
          clear gg HS_12 GG_12
          go_wp2_with fail
          refine ⟨HS_13.out, ?_⟩
          have hS := HS_13.out
          refine wpAnyM_take (i := 5) (v := ?vt1xp13x5) hB rfl (by kernel_rfl) (fun _ _ _ h => h) (by rfl) ?yt1xp13x5 hS ?nt1xp13x5
          case yt1xp13x5 => (intro w9 hSw; obtain ⟨s1, s2, _⟩ := hSw; go_simp; try with_reducible rfl)
          refine wpAnyM_take (i := 6) (v := ?vt1xp13x6) hB rfl (by kernel_rfl) (fun _ _ _ h => h) (by rfl) ?yt1xp13x6 hS ?nt1xp13x6
          case yt1xp13x6 => (intro w9 hSw; obtain ⟨s1, s2, _⟩ := hSw; go_simp; try with_reducible rfl)
          refine wpAnyM_take (i := 7) (v := ?vt1xp13x7) hB rfl (by kernel_rfl) (fun _ _ _ h => h) (by rfl) ?yt1xp13x7 hS ?nt1xp13x7
          case yt1xp13x7 => (intro w9 hSw; obtain ⟨s1, s2, _⟩ := hSw; go_simp; try with_reducible rfl)
          clear hS
          refine wpAnyM_one (i := 9) rfl (by kernel_rfl) rfl ?_
          have cZZ := HZZ.out.cell
          have fZZ := HZZ.out.free
          have lZZ := HZZ.out.lt
          go_wp2_with fail
          refine ⟨by first | exact CellsAre.keep HSB.out (GG_13.out.setCell NZZ.out _), ?_⟩
          refine wpAnyM_tail (by kernel_rfl) ?_
          clear hB HS_13 cZZ fZZ lZZ
          go_wp2_with fail
          go_meet
          exact ⟨_, _, rfl, rfl, HZZ.out.set_ _, HVV.out.setFar (apartBox HVV.out HZZ.out) _, NZZ.out, GG_13.out.setCell NZZ.out _⟩
      case rest =>
        clear cA0 lA0 cA1 lA1
        obtain ⟨w3, hwc⟩ : ∃ x, x = wc := ⟨_, rfl⟩
        subst hwc
        obtain ⟨bW, vW, rfl, rfl, HBX, HOX, HNX, g3⟩ := hcut
        have g3 := g3.out
        have K3 : Hid (Grows w2 w3) := by first | exact g3 | exact ((Grows.refl _).alloc _).trans g3 | exact ((Grows.refl _).drew).trans g3
        have T3 : Hid (Grows w w3) := T2.out.trans K3.out
        have A0_3 := Lib.hid (A0_2.out.keep K3.out)
        have A1_3 := Lib.hid (A1_2.out.keep K3.out)
        clear A0_2 A1_2
        have hv := HOX.out
        have WB_3 := HBX
        have LW := Lib.hid HBX.out.lt
        clear g3 HBX HOX
        obtain ⟨A7, n7, c7, hv7⟩ := hv.form3
        subst hv7
        have V_3 : Hid (OwnE w3 _ (.slice A7 n7 c7) xs) := hv
        have NV : Hid (∀ k, (Value.slice A7 n7 c7).ownBlock = some k → k < w3.heap.size) := fun k hk => (hv.lt k hk).2
        clear hv
        have W_3 : Hid (Box w3 bW (.slice A7 n7 c7) 27) := WB_3
        clear WB_3
        have cA0 := A0_3.out.cell
        have lA0 := A0_3.out.lt
        go_wp2_with fail
        refine (HT0.out _ (by first | exact T3.out | exact (T3.out).alloc _ | exact (T3.out).drew)).mono ?_
        rintro e w4 ⟨b4, rfl, hb4, g4⟩
        have K4 : Hid (Grows w3 w4) := by first | exact g4 | exact ((Grows.refl _).alloc _).trans g4 | exact ((Grows.refl _).drew).trans g4
        have T4 : Hid (Grows w w4) := T3.out.trans K4.out
        have A0_4 := Lib.hid (A0_3.out.keep K4.out)
        have A1_4 := Lib.hid (A1_3.out.keep K4.out)
        have V_4 := Lib.hid (V_3.out.keep K4.out)
        have W_4 := Lib.hid (W_3.out.keep K4.out)
        clear A0_3 A1_3 V_3 W_3
        obtain ⟨X0, z0, hbe, hx0, hB⟩ := HF0.out _ _ _ hb4
        subst hbe
        have O0_4 : Hid (OwnE w4 (w3.heap.size) (.slice X0 n0 z0) ls0) := by have h := hb4; first | exact h | (simp only [World.size_alloc] at h; exact h)
        clear hB hx0 hb4 g4
        have NO0 : Hid (∀ k, (Value.slice X0 n0 z0).ownBlock = some k → w3.heap.size ≤ k ∧ k < w4.heap.size) := fun k hk => O0_4.out.lt k hk
        clear cA0 lA0
        have cA1 := A1_4.out.cell
        have lA1 := A1_4.out.lt
        go_wp2_with fail
        refine (HT1.out _ (by first | exact T4.out | exact (T4.out).alloc _ | exact (T4.out).drew)).mono ?_
        rintro e w5 ⟨b5, rfl, hb5, g5⟩
        have X0_5 : Hid (Box w5 w4.heap.size (.slice X0 n0 z0) 27) := (Box.new w4 _ _).keep g5
        have GX0 : Hid (w4.heap.size + 1 ≤ w5.heap.size) := Nat.le_trans (by simp) g5.size
        have K5 : Hid (Grows w4 w5) := by first | exact g5 | exact ((Grows.refl _).alloc _).trans g5 | exact ((Grows.refl _).drew).trans g5
        have T5 : Hid (Grows w w5) := T4.out.trans K5.out
        have A0_5 := Lib.hid (A0_4.out.keep K5.out)
        have A1_5 := Lib.hid (A1_4.out.keep K5.out)
        have V_5 := Lib.hid (V_4.out.keep K5.out)
        have W_5 := Lib.hid (W_4.out.keep K5.out)
        have O0_5 := Lib.hid (O0_4.out.keep K5.out)
        clear A0_4 A1_4 V_4 W_4 O0_4
        obtain ⟨X1, z1, hbe, hx1, hB⟩ := HF1.out _ _ _ hb5
        subst hbe
        have O1_5 : Hid (OwnE w5 (w4.heap.size + 1) (.slice X1 n1 z1) ls1) := by have h := hb5; first | exact h | (simp only [World.size_alloc] at h; exact h)
        clear hB hx1 hb5 g5
        have NO1 : Hid (∀ k, (Value.slice X1 n1 z1).ownBlock = some k → w4.heap.size + 1 ≤ k ∧ k < w5.heap.size) := fun k hk => O1_5.out.lt k hk
        clear cA1 lA1
        have cX0 := X0_5.out.cell
        have lX0 := X0_5.out.lt
        go_wp2_with fail
        have ⟨hd0, hB0⟩ : n0 ≤ z0 ∧ EntsAt w5 X0 ls0 := by
          obtain ⟨x, y, he, hd, hh⟩ := HF0.out _ _ _ O0_5.out
          injection he with he1 he2 he3
          subst he1; subst he3
          exact ⟨hd, hh⟩
        have H0 := Lib.hid hB0
        clear hB0
        have ⟨hd1, hB1⟩ : n1 ≤ z1 ∧ EntsAt w5 X1 ls1 := by
          obtain ⟨x, y, he, hd, hh⟩ := HF1.out _ _ _ O1_5.out
          injection he with he1 he2 he3
          subst he1; subst he3
          exact ⟨hd, hh⟩
        have H1 := Lib.hid hB1
        clear hB1
        refine (HI.out _ _ _ hd0 _ _ hd1 (by first | exact H0.out | exact (H0.out).keep ((Grows.refl _).alloc _)) (by first | exact H1.out | exact (H1.out).keep ((Grows.refl _).alloc _))).mono ?_
        rintro e w6 ⟨v1, rfl, hv, g6⟩
        clear cX0 lX0
        have X1_6 : Hid (Box w6 w5.heap.size (.slice X1 n1 z1) 27) := (Box.new w5 _ _).keep g6
        have GX1 : Hid (w5.heap.size + 1 ≤ w6.heap.size) := Nat.le_trans (by simp) g6.size
        have K6 : Hid (Grows w5 w6) := by first | exact g6 | exact ((Grows.refl _).alloc _).trans g6 | exact ((Grows.refl _).drew).trans g6
        have T6 : Hid (Grows w w6) := T5.out.trans K6.out
        have A0_6 := Lib.hid (A0_5.out.keep K6.out)
        have A1_6 := Lib.hid (A1_5.out.keep K6.out)
        have V_6 := Lib.hid (V_5.out.keep K6.out)
        have W_6 := Lib.hid (W_5.out.keep K6.out)
        have O0_6 := Lib.hid (O0_5.out.keep K6.out)
        have X0_6 := Lib.hid (X0_5.out.keep K6.out)
        have O1_6 := Lib.hid (O1_5.out.keep K6.out)
        clear A0_5 A1_5 V_5 W_5 O0_5 X0_5 O1_5
        have U_6 : Hid (OwnE w6 (w5.heap.size + 1) v1 xs) := by have h := hv; first | exact h | (simp only [World.size_alloc] at h; exact h)
        obtain ⟨A8, n8, c8, hv8⟩ := hv.form3
        subst hv8
        have NU : Hid (∀ k, (Value.slice A8 n8 c8).ownBlock = some k → w5.heap.size + 1 ≤ k ∧ k < w6.heap.size) := fun k hk => U_6.out.lt k hk
        clear hv g6 H0 hd0 H1 hd1
        have cW := W_6.out.cell
        have lW := W_6.out.lt
        have cX0 := X0_6.out.cell
        have lX0 := X0_6.out.lt
        have cX1 := X1_6.out.cell
        have lX1 := X1_6.out.lt
        have cA0 := A0_6.out.cell
        have lA0 := A0_6.out.lt
        have cA1 := A1_6.out.cell
        have lA1 := A1_6.out.lt
        go_wp2_with fail
        refine (HE.out _ _ _ _ _ (by first | exact U_6.out | exact (U_6.out).keep ((Grows.refl _).alloc _) | exact (U_6.out).keep ((Grows.refl _).drew)) (by first | exact V_6.out | exact (V_6.out).keep ((Grows.refl _).alloc _) | exact (V_6.out).keep ((Grows.refl _).drew))).mono ?_
        rintro e w7 ⟨rfl, g7⟩
        have G_7 : Hid (Box w7 w6.heap.size (.slice A8 n8 c8) 27) := (Box.new w6 _ _).keep g7
        clear cW lW cX0 lX0 cX1 lX1 cA0 lA0 cA1 lA1
        have K7 : Hid (Grows w6 w7) := by first | exact g7 | exact ((Grows.refl _).alloc _).trans g7 | exact ((Grows.refl _).drew).trans g7
        have T7 : Hid (Grows w w7) := T6.out.trans K7.out
        have A0_7 := Lib.hid (A0_6.out.keep K7.out)
        have A1_7 := Lib.hid (A1_6.out.keep K7.out)
        have V_7 := Lib.hid (V_6.out.keep K7.out)
        have W_7 := Lib.hid (W_6.out.keep K7.out)
        have O0_7 := Lib.hid (O0_6.out.keep K7.out)
        have X0_7 := Lib.hid (X0_6.out.keep K7.out)
        have O1_7 := Lib.hid (O1_6.out.keep K7.out)
        have X1_7 := Lib.hid (X1_6.out.keep K7.out)
        have U_7 := Lib.hid (U_6.out.keep K7.out)
        clear A0_6 A1_6 V_6 W_6 O0_6 X0_6 O1_6 X1_6 U_6
        clear g7
        have cX0 := X0_7.out.cell
        have lX0 := X0_7.out.lt
        have cA0 := A0_7.out.cell
        have lA0 := A0_7.out.lt
        go_wp2_with fail
        refine wp_region_M 3 (CellsAre [(⟨w4.heap.size, 0, none⟩, (.slice X0 n0 z0)), (⟨w.heap.size, 0, none⟩, (.slice A0 n0 c0))]) (by kernel_rfl) (by kernel_rfl) ⟨cX0, cA0, trivial⟩ (fun hB hS => ?_)
        refine wpAnyM_take (i := 0) (v := ?vt2x0) hB rfl (by kernel_rfl) (fun _ _ _ h => h) (by rfl) ?yt2x0 hS ?nt2x0
        case yt2x0 => (intro w9 hSw; obtain ⟨s1, s2, _⟩ := hSw; go_simp; try with_reducible rfl)
        refine wpAnyM_take (i := 1) (v := ?vt2x1) hB rfl (by kernel_rfl) (fun _ _ _ h => h) (by rfl) ?yt2x1 hS ?nt2x1
        case yt2x1 => (intro w9 hSw; obtain ⟨s1, s2, _⟩ := hSw; go_simp; try with_reducible rfl)
        refine wpAnyM_one (i := 2) rfl (by kernel_rfl) rfl ?_
        clear cX0 lX0 cA0 lA0
        have HSt2x := Lib.hid hS
        clear hS
        go_wp2_with fail
        refine (HT0.out _ (by first | exact T7.out | exact (T7.out).alloc _ | exact (T7.out).drew)).mono ?_
        rintro e w8 ⟨b8, rfl, hb8, g8⟩
        have HSt2x' := Lib.hid (CellsAre.keep HSt2x.out g8)
        have K8 : Hid (Grows w7 w8) := by first | exact g8 | exact ((Grows.refl _).alloc _).trans g8 | exact ((Grows.refl _).drew).trans g8
        have T8 : Hid (Grows w w8) := T7.out.trans K8.out
        have A0_8 := Lib.hid (A0_7.out.keep K8.out)
        have A1_8 := Lib.hid (A1_7.out.keep K8.out)
        have V_8 := Lib.hid (V_7.out.keep K8.out)
        have W_8 := Lib.hid (W_7.out.keep K8.out)
        have O0_8 := Lib.hid (O0_7.out.keep K8.out)
        have X0_8 := Lib.hid (X0_7.out.keep K8.out)
        have O1_8 := Lib.hid (O1_7.out.keep K8.out)
        have X1_8 := Lib.hid (X1_7.out.keep K8.out)
        have U_8 := Lib.hid (U_7.out.keep K8.out)
        have G_8 := Lib.hid (G_7.out.keep K8.out)
        clear A0_7 A1_7 V_7 W_7 O0_7 X0_7 O1_7 X1_7 U_7 G_7
        have D_8 := Lib.hid hb8
        obtain ⟨Bx, dx, hbe, hdx, hBx⟩ := HF0.out _ _ _ hb8
        subst hbe
        clear hb8 g8 hdx hBx HSt2x
        go_wp2_with fail
        refine ⟨HSt2x'.out, ?_⟩
        refine wpAnyM_tail (by kernel_rfl) ?_
        clear HSt2x' hB
        go_wp2_with fail
        refine (HE0.out _ _ _ _ _ (by first | exact O0_8.out | exact (O0_8.out).keep ((Grows.refl _).alloc _) | exact (O0_8.out).keep ((Grows.refl _).drew)) D_8.out).mono ?_
        rintro e w9 ⟨rfl, g9⟩
        have K9 : Hid (Grows w8 w9) := by first | exact g9 | exact ((Grows.refl _).alloc _).trans g9 | exact ((Grows.refl _).drew).trans g9
        have T9 : Hid (Grows w w9) := T8.out.trans K9.out
        have A0_9 := Lib.hid (A0_8.out.keep K9.out)
        have A1_9 := Lib.hid (A1_8.out.keep K9.out)
        have V_9 := Lib.hid (V_8.out.keep K9.out)
        have W_9 := Lib.hid (W_8.out.keep K9.out)
        have O0_9 := Lib.hid (O0_8.out.keep K9.out)
        have X0_9 := Lib.hid (X0_8.out.keep K9.out)
        have O1_9 := Lib.hid (O1_8.out.keep K9.out)
        have X1_9 := Lib.hid (X1_8.out.keep K9.out)
        have U_9 := Lib.hid (U_8.out.keep K9.out)
        have G_9 := Lib.hid (G_8.out.keep K9.out)
        clear A0_8 A1_8 V_8 W_8 O0_8 X0_8 O1_8 X1_8 U_8 G_8
        clear g9 D_8
        have cX1 := X1_9.out.cell
        have lX1 := X1_9.out.lt
        have cA1 := A1_9.out.cell
        have lA1 := A1_9.out.lt
        go_wp2_with fail
        refine wp_region_M 3 (CellsAre [(⟨w5.heap.size, 0, none⟩, (.slice X1 n1 z1)), (⟨w.heap.size + 1, 0, none⟩, (.slice A1 n1 c1))]) (by kernel_rfl) (by kernel_rfl) ⟨cX1, cA1, trivial⟩ (fun hB hS => ?_)
        refine wpAnyM_take (i := 0) (v := ?vt3x0) hB rfl (by kernel_rfl) (fun _ _ _ h => h) (by rfl) ?yt3x0 hS ?nt3x0
        case yt3x0 => (intro w9 hSw; obtain ⟨s1, s2, _⟩ := hSw; go_simp; try with_reducible rfl)
        refine wpAnyM_take (i := 1) (v := ?vt3x1) hB rfl (by kernel_rfl) (fun _ _ _ h => h) (by rfl) ?yt3x1 hS ?nt3x1
        case yt3x1 => (intro w9 hSw; obtain ⟨s1, s2, _⟩ := hSw; go_simp; try with_reducible rfl)
        refine wpAnyM_one (i := 2) rfl (by kernel_rfl) rfl ?_
        clear cX1 lX1 cA1 lA1
        have HSt3x := Lib.hid hS
        clear hS
        go_wp2_with fail
        refine (HT1.out _ (by first | exact T9.out | exact (T9.out).alloc _ | exact (T9.out).drew)).mono ?_
        rintro e w10 ⟨b10, rfl, hb10, g10⟩
        have HSt3x' := Lib.hid (CellsAre.keep HSt3x.out g10)
        have K10 : Hid (Grows w9 w10) := by first | exact g10 | exact ((Grows.refl _).alloc _).trans g10 | exact ((Grows.refl _).drew).trans g10
        have T10 : Hid (Grows w w10) := T9.out.trans K10.out
        have A0_10 := Lib.hid (A0_9.out.keep K10.out)
        have A1_10 := Lib.hid (A1_9.out.keep K10.out)
        have V_10 := Lib.hid (V_9.out.keep K10.out)
        have W_10 := Lib.hid (W_9.out.keep K10.out)
        have O0_10 := Lib.hid (O0_9.out.keep K10.out)
        have X0_10 := Lib.hid (X0_9.out.keep K10.out)
        have O1_10 := Lib.hid (O1_9.out.keep K10.out)
        have X1_10 := Lib.hid (X1_9.out.keep K10.out)
        have U_10 := Lib.hid (U_9.out.keep K10.out)
        have G_10 := Lib.hid (G_9.out.keep K10.out)
        clear A0_9 A1_9 V_9 W_9 O0_9 X0_9 O1_9 X1_9 U_9 G_9
        have D_10 := Lib.hid hb10
        obtain ⟨Bx, dx, hbe, hdx, hBx⟩ := HF1.out _ _ _ hb10
        subst hbe
        clear hb10 g10 hdx hBx HSt3x
        go_wp2_with fail
        refine ⟨HSt3x'.out, ?_⟩
        refine wpAnyM_tail (by kernel_rfl) ?_
        clear HSt3x' hB
        go_wp2_with fail
        refine (HE1.out _ _ _ _ _ (by first | exact O1_10.out | exact (O1_10.out).keep ((Grows.refl _).alloc _) | exact (O1_10.out).keep ((Grows.refl _).drew)) D_10.out).mono ?_
        rintro e w11 ⟨rfl, g11⟩
        have K11 : Hid (Grows w10 w11) := by first | exact g11 | exact ((Grows.refl _).alloc _).trans g11 | exact ((Grows.refl _).drew).trans g11
        have T11 : Hid (Grows w w11) := T10.out.trans K11.out
        have A0_11 := Lib.hid (A0_10.out.keep K11.out)
        have A1_11 := Lib.hid (A1_10.out.keep K11.out)
        have V_11 := Lib.hid (V_10.out.keep K11.out)
        have W_11 := Lib.hid (W_10.out.keep K11.out)
        have O0_11 := Lib.hid (O0_10.out.keep K11.out)
        have X0_11 := Lib.hid (X0_10.out.keep K11.out)
        have O1_11 := Lib.hid (O1_10.out.keep K11.out)
        have X1_11 := Lib.hid (X1_10.out.keep K11.out)
        have U_11 := Lib.hid (U_10.out.keep K11.out)
        have G_11 := Lib.hid (G_10.out.keep K11.out)
        clear A0_10 A1_10 V_10 W_10 O0_10 X0_10 O1_10 X1_10 U_10 G_10
        clear g11 D_10
        have HSZ : Hid (w.heap.size + 2 ≤ w1.heap.size ∧ w1.heap.size ≤ w2.heap.size ∧ w2.heap.size ≤ w3.heap.size ∧ w3.heap.size ≤ w4.heap.size ∧ w4.heap.size ≤ w5.heap.size ∧ w5.heap.size ≤ w6.heap.size ∧ w6.heap.size ≤ w7.heap.size ∧ w7.heap.size ≤ w8.heap.size ∧ w8.heap.size ≤ w9.heap.size ∧ w9.heap.size ≤ w10.heap.size ∧ w10.heap.size ≤ w11.heap.size) := ⟨by have h := K1.out.size; simp at h; omega, K2.out.size, K3.out.size, K4.out.size, K5.out.size, K6.out.size, K7.out.size, K8.out.size, K9.out.size, K10.out.size, K11.out.size⟩
        have cX0 := X0_11.out.cell
        have lX0 := X0_11.out.lt
        go_wp2_with fail
        refine (HM0.out _ _ _ O0_11.out).mono ?_
        rintro e w12 ⟨rfl, g12⟩
        have K12 : Hid (w11.grownBy w12 (Value.slice X0 n0 z0).ownBlock) := g12.2
        have T12 : Hid (Grows w w12) := T11.out.mark g12.2 (fun k hk => by have h1 := NO0.out k hk; obtain ⟨z1, z2, z3, z4, z5, z6, z7, z8, z9, z10, z11⟩ := HSZ.out; have yGX0 := GX0.out; have yGX1 := GX1.out; have yLW := LW.out; (try injection e with e); omega)
        clear cX0 lX0
        clear O0_11 g12
        have A0_12 := Lib.hid (A0_11.out.far K12.out (fun e => by have h1 := NO0.out _ e; obtain ⟨z1, z2, z3, z4, z5, z6, z7, z8, z9, z10, z11⟩ := HSZ.out; have yGX0 := GX0.out; have yGX1 := GX1.out; have yLW := LW.out; (try injection e with e); omega))
        have A1_12 := Lib.hid (A1_11.out.far K12.out (fun e => by have h1 := NO0.out _ e; obtain ⟨z1, z2, z3, z4, z5, z6, z7, z8, z9, z10, z11⟩ := HSZ.out; have yGX0 := GX0.out; have yGX1 := GX1.out; have yLW := LW.out; (try injection e with e); omega))
        have V_12 := Lib.hid (V_11.out.far K12.out (fun k hk e => by have h1 := NO0.out _ e; have h2 := NV.out k hk; obtain ⟨z1, z2, z3, z4, z5, z6, z7, z8, z9, z10, z11⟩ := HSZ.out; have yGX0 := GX0.out; have yGX1 := GX1.out; have yLW := LW.out; (try injection e with e); omega))
        have W_12 := Lib.hid (W_11.out.far K12.out (fun e => by have h1 := NO0.out _ e; obtain ⟨z1, z2, z3, z4, z5, z6, z7, z8, z9, z10, z11⟩ := HSZ.out; have yGX0 := GX0.out; have yGX1 := GX1.out; have yLW := LW.out; (try injection e with e); omega))
        have X0_12 := Lib.hid (X0_11.out.far K12.out (fun e => by have h1 := NO0.out _ e; obtain ⟨z1, z2, z3, z4, z5, z6, z7, z8, z9, z10, z11⟩ := HSZ.out; have yGX0 := GX0.out; have yGX1 := GX1.out; have yLW := LW.out; (try injection e with e); omega))
        have O1_12 := Lib.hid (O1_11.out.far K12.out (fun k hk e => by have h1 := NO0.out _ e; have h2 := NO1.out k hk; obtain ⟨z1, z2, z3, z4, z5, z6, z7, z8, z9, z10, z11⟩ := HSZ.out; have yGX0 := GX0.out; have yGX1 := GX1.out; have yLW := LW.out; (try injection e with e); omega))
        have X1_12 := Lib.hid (X1_11.out.far K12.out (fun e => by have h1 := NO0.out _ e; obtain ⟨z1, z2, z3, z4, z5, z6, z7, z8, z9, z10, z11⟩ := HSZ.out; have yGX0 := GX0.out; have yGX1 := GX1.out; have yLW := LW.out; (try injection e with e); omega))
        have U_12 := Lib.hid (U_11.out.far K12.out (fun k hk e => by have h1 := NO0.out _ e; have h2 := NU.out k hk; obtain ⟨z1, z2, z3, z4, z5, z6, z7, z8, z9, z10, z11⟩ := HSZ.out; have yGX0 := GX0.out; have yGX1 := GX1.out; have yLW := LW.out; (try injection e with e); omega))
        have G_12 := Lib.hid (G_11.out.far K12.out (fun e => by have h1 := NO0.out _ e; obtain ⟨z1, z2, z3, z4, z5, z6, z7, z8, z9, z10, z11⟩ := HSZ.out; have yGX0 := GX0.out; have yGX1 := GX1.out; have yLW := LW.out; (try injection e with e); omega))
        clear A0_11 A1_11 V_11 W_11 X0_11 O1_11 X1_11 U_11 G_11
        have cX1 := X1_12.out.cell
        have lX1 := X1_12.out.lt
        go_wp2_with fail
        refine (HM1.out _ _ _ O1_12.out).mono ?_
        rintro e w13 ⟨rfl, g13⟩
        have K13 : Hid (w12.grownBy w13 (Value.slice X1 n1 z1).ownBlock) := g13.2
        have T13 : Hid (Grows w w13) := T12.out.mark g13.2 (fun k hk => by have h1 := NO1.out k hk; obtain ⟨z1, z2, z3, z4, z5, z6, z7, z8, z9, z10, z11⟩ := HSZ.out; have yGX0 := GX0.out; have yGX1 := GX1.out; have yLW := LW.out; (try injection e with e); omega)
        clear cX1 lX1
        clear O1_12 g13
        have A0_13 := Lib.hid (A0_12.out.far K13.out (fun e => by have h1 := NO1.out _ e; obtain ⟨z1, z2, z3, z4, z5, z6, z7, z8, z9, z10, z11⟩ := HSZ.out; have yGX0 := GX0.out; have yGX1 := GX1.out; have yLW := LW.out; (try injection e with e); omega))
        have A1_13 := Lib.hid (A1_12.out.far K13.out (fun e => by have h1 := NO1.out _ e; obtain ⟨z1, z2, z3, z4, z5, z6, z7, z8, z9, z10, z11⟩ := HSZ.out; have yGX0 := GX0.out; have yGX1 := GX1.out; have yLW := LW.out; (try injection e with e); omega))
        have V_13 := Lib.hid (V_12.out.far K13.out (fun k hk e => by have h1 := NO1.out _ e; have h2 := NV.out k hk; obtain ⟨z1, z2, z3, z4, z5, z6, z7, z8, z9, z10, z11⟩ := HSZ.out; have yGX0 := GX0.out; have yGX1 := GX1.out; have yLW := LW.out; (try injection e with e); omega))
        have W_13 := Lib.hid (W_12.out.far K13.out (fun e => by have h1 := NO1.out _ e; obtain ⟨z1, z2, z3, z4, z5, z6, z7, z8, z9, z10, z11⟩ := HSZ.out; have yGX0 := GX0.out; have yGX1 := GX1.out; have yLW := LW.out; (try injection e with e); omega))
        have X0_13 := Lib.hid (X0_12.out.far K13.out (fun e => by have h1 := NO1.out _ e; obtain ⟨z1, z2, z3, z4, z5, z6, z7, z8, z9, z10, z11⟩ := HSZ.out; have yGX0 := GX0.out; have yGX1 := GX1.out; have yLW := LW.out; (try injection e with e); omega))
        have X1_13 := Lib.hid (X1_12.out.far K13.out (fun e => by have h1 := NO1.out _ e; obtain ⟨z1, z2, z3, z4, z5, z6, z7, z8, z9, z10, z11⟩ := HSZ.out; have yGX0 := GX0.out; have yGX1 := GX1.out; have yLW := LW.out; (try injection e with e); omega))
        have U_13 := Lib.hid (U_12.out.far K13.out (fun k hk e => by have h1 := NO1.out _ e; have h2 := NU.out k hk; obtain ⟨z1, z2, z3, z4, z5, z6, z7, z8, z9, z10, z11⟩ := HSZ.out; have yGX0 := GX0.out; have yGX1 := GX1.out; have yLW := LW.out; (try injection e with e); omega))
        have G_13 := Lib.hid (G_12.out.far K13.out (fun e => by have h1 := NO1.out _ e; obtain ⟨z1, z2, z3, z4, z5, z6, z7, z8, z9, z10, z11⟩ := HSZ.out; have yGX0 := GX0.out; have yGX1 := GX1.out; have yLW := LW.out; (try injection e with e); omega))
        clear A0_12 A1_12 V_12 W_12 X0_12 X1_12 U_12 G_12
        have cG := G_13.out.cell
        have lG := G_13.out.lt
        have cW := W_13.out.cell
        have lW := W_13.out.lt
        go_wp2_with fail
        refine (HE.out _ _ _ _ _ (by first | exact U_13.out | exact (U_13.out).keep ((Grows.refl _).alloc _) | exact (U_13.out).keep ((Grows.refl _).drew)) (by first | exact V_13.out | exact (V_13.out).keep ((Grows.refl _).alloc _) | exact (V_13.out).keep ((Grows.refl _).drew))).mono ?_
        rintro e w14 ⟨rfl, g14⟩
        have K14 : Hid (Grows w13 w14) := by first | exact g14 | exact ((Grows.refl _).alloc _).trans g14 | exact ((Grows.refl _).drew).trans g14
        have T14 : Hid (Grows w w14) := T13.out.trans K14.out
        have A0_14 := Lib.hid (A0_13.out.keep K14.out)
        have A1_14 := Lib.hid (A1_13.out.keep K14.out)
        have V_14 := Lib.hid (V_13.out.keep K14.out)
        have W_14 := Lib.hid (W_13.out.keep K14.out)
        have X0_14 := Lib.hid (X0_13.out.keep K14.out)
        have X1_14 := Lib.hid (X1_13.out.keep K14.out)
        have U_14 := Lib.hid (U_13.out.keep K14.out)
        have G_14 := Lib.hid (G_13.out.keep K14.out)
        clear A0_13 A1_13 V_13 W_13 X0_13 X1_13 U_13 G_13
        clear g14
        clear cG lG cW lW
        have cG := G_14.out.cell
        have lG := G_14.out.lt
        go_wp2_with fail
        refine (HMG.out _ _ _ U_14.out).mono ?_
        rintro e w15 ⟨rfl, g15⟩
        have M_15 : Hid (OwnQ w15 (w5.heap.size + 1) (.slice A8 n8 c8) q (qcells 1 q)) := g15.1
        have K15 : Hid (w14.grownBy w15 (Value.slice A8 n8 c8).ownBlock) := g15.2
        have T15 : Hid (Grows w w15) := T14.out.mark g15.2 (fun k hk => by have h1 := (NU.out k hk).1; obtain ⟨z1, z2, z3, z4, z5, z6, z7, z8, z9, z10, z11⟩ := HSZ.out; have yGX0 := GX0.out; have yGX1 := GX1.out; have yLW := LW.out; (try injection e with e); omega)
        clear U_14 g15
        clear cG lG
        have A0_15 := Lib.hid (A0_14.out.far K15.out (fun e => by have h1 := (NU.out _ e).1; obtain ⟨z1, z2, z3, z4, z5, z6, z7, z8, z9, z10, z11⟩ := HSZ.out; have yGX0 := GX0.out; have yGX1 := GX1.out; have yLW := LW.out; (try injection e with e); omega))
        have A1_15 := Lib.hid (A1_14.out.far K15.out (fun e => by have h1 := (NU.out _ e).1; obtain ⟨z1, z2, z3, z4, z5, z6, z7, z8, z9, z10, z11⟩ := HSZ.out; have yGX0 := GX0.out; have yGX1 := GX1.out; have yLW := LW.out; (try injection e with e); omega))
        have V_15 := Lib.hid (V_14.out.far K15.out (fun k hk e => by have h1 := (NU.out _ e).1; have h2 := NV.out k hk; obtain ⟨z1, z2, z3, z4, z5, z6, z7, z8, z9, z10, z11⟩ := HSZ.out; have yGX0 := GX0.out; have yGX1 := GX1.out; have yLW := LW.out; (try injection e with e); omega))
        have W_15 := Lib.hid (W_14.out.far K15.out (fun e => by have h1 := (NU.out _ e).1; obtain ⟨z1, z2, z3, z4, z5, z6, z7, z8, z9, z10, z11⟩ := HSZ.out; have yGX0 := GX0.out; have yGX1 := GX1.out; have yLW := LW.out; (try injection e with e); omega))
        have X0_15 := Lib.hid (X0_14.out.far K15.out (fun e => by have h1 := (NU.out _ e).1; obtain ⟨z1, z2, z3, z4, z5, z6, z7, z8, z9, z10, z11⟩ := HSZ.out; have yGX0 := GX0.out; have yGX1 := GX1.out; have yLW := LW.out; (try injection e with e); omega))
        have X1_15 := Lib.hid (X1_14.out.far K15.out (fun e => by have h1 := (NU.out _ e).1; obtain ⟨z1, z2, z3, z4, z5, z6, z7, z8, z9, z10, z11⟩ := HSZ.out; have yGX0 := GX0.out; have yGX1 := GX1.out; have yLW := LW.out; (try injection e with e); omega))
        have G_15 := Lib.hid (G_14.out.far K15.out (fun e => by have h1 := (NU.out _ e).2; obtain ⟨z1, z2, z3, z4, z5, z6, z7, z8, z9, z10, z11⟩ := HSZ.out; have yGX0 := GX0.out; have yGX1 := GX1.out; have yLW := LW.out; (try injection e with e); omega))
        clear A0_14 A1_14 V_14 W_14 X0_14 X1_14 G_14
        have cG := G_15.out.cell
        have lG := G_15.out.lt
        go_wp2_with fail
        refine (HHG.out _ _ _ M_15.out).mono ?_
        rintro e w16 ⟨rfl, g16⟩
        have K16 : Hid (Grows w15 w16) := by first | exact g16 | exact ((Grows.refl _).alloc _).trans g16 | exact ((Grows.refl _).drew).trans g16
        have T16 : Hid (Grows w w16) := T15.out.trans K16.out
        have A0_16 := Lib.hid (A0_15.out.keep K16.out)
        have A1_16 := Lib.hid (A1_15.out.keep K16.out)
        have V_16 := Lib.hid (V_15.out.keep K16.out)
        have W_16 := Lib.hid (W_15.out.keep K16.out)
        have X0_16 := Lib.hid (X0_15.out.keep K16.out)
        have X1_16 := Lib.hid (X1_15.out.keep K16.out)
        have G_16 := Lib.hid (G_15.out.keep K16.out)
        have M_16 := Lib.hid (M_15.out.keep K16.out)
        clear A0_15 A1_15 V_15 W_15 X0_15 X1_15 G_15 M_15
        clear g16
        clear cG lG
        have cA0 := A0_16.out.cell
        have lA0 := A0_16.out.lt
        have cA1 := A1_16.out.cell
        have lA1 := A1_16.out.lt
        go_wp2_with fail
        go_cut [15, 16] (fun sW sB wx => ∃ (bX : Nat) (v : Value), sW = .pointer (some ⟨bX, 0, none⟩) ∧ sB = .bool β ∧ Hid (Box wx bX v 27) ∧ Hid (OwnE wx w16.heap.size v xs) ∧ Hid (w16.heap.size ≤ bX) ∧ Hid (Grows w16 wx))
        case first =>
          refine wp_region_M 10 (CellsAre [(⟨w.heap.size, 0, none⟩, (.slice A0 n0 c0)), (⟨w.heap.size + 1, 0, none⟩, (.slice A1 n1 c1))]) (by kernel_rfl) (by kernel_rfl) ⟨cA0, cA1, trivial⟩ (fun hB hS => ?_)
          refine wpAnyM_take (i := 0) (v := ?vt4x0) hB rfl (by kernel_rfl) (fun _ _ _ h => h) (by rfl) ?yt4x0 hS ?nt4x0
          case yt4x0 => (intro w9 hSw; obtain ⟨s1, s2, _⟩ := hSw; go_simp; try with_reducible rfl)
          refine wpAnyM_take (i := 2) (v := ?vt4x2) hB rfl (by kernel_rfl) (fun _ _ _ h => h) (by rfl) ?yt4x2 hS ?nt4x2
          case yt4x2 => (intro w9 hSw; obtain ⟨s1, s2, _⟩ := hSw; go_simp; try with_reducible rfl)
          have HSB : Hid (CellsAre [(⟨w.heap.size, 0, none⟩, (.slice A0 n0 c0)), (⟨w.heap.size + 1, 0, none⟩, (.slice A1 n1 c1))] w16) := ⟨cA0, cA1, trivial⟩
          have HS0 := Lib.hid hS
          clear hS cA0 cA1
          have GG0 : Hid (Grows w16 w16.drew) := (Grows.refl _).drew
          refine wpAnyM_two (i := 1) (j := 8) rfl rfl (by kernel_rfl) rfl rfl ?_ ?_
          · go_wp2_with fail
            refine (HT0.out _ (T16.out.trans GG0.out)).mono ?_
            rintro e y1Y ⟨bb, rfl, hbb, gg⟩
            obtain ⟨B0, d0, hbe, hd0, hB9⟩ := HF0.out _ _ _ hbb
            subst hbe
            have H0 := Lib.hid hB9
            clear hB9 hbb
            have GG_1 : Hid (Grows w16 y1Y) := GG0.out.trans gg
            have HS_1 := Lib.hid (CellsAre.keep HS0.out gg)
            clear gg HS0 GG0
            go_wp2_with fail
            refine ⟨HS_1.out, ?_⟩
            refine wpAnyM_two (i := 3) (j := 8) rfl rfl (by kernel_rfl) rfl rfl ?_ ?_
            · go_wp2_with fail
              refine (HT1.out _ (T16.out.trans GG_1.out)).mono ?_
              rintro e y2Y ⟨bb, rfl, hbb, gg⟩
              have H0z := Lib.hid (H0.out.keep gg)
              clear H0
              have H0 := H0z
              clear H0z
              obtain ⟨B1, d1, hbe, hd1, hB9⟩ := HF1.out _ _ _ hbb
              subst hbe
              have H1 := Lib.hid hB9
              clear hB9 hbb
              have GG_2 : Hid (Grows w16 y2Y) := GG_1.out.trans gg
              have HS_2 := Lib.hid (CellsAre.keep HS_1.out gg)
              clear gg HS_1 GG_1
              go_wp2_with fail
              refine ⟨HS_2.out, ?_⟩
              refine wpAnyM_two (i := 4) (j := 8) rfl rfl (by kernel_rfl) rfl rfl ?_ ?_
              · go_wp2_with fail
                refine (HI.out _ _ _ hd0 _ _ hd1 H0.out H1.out).mono ?_
                rintro e y3Y ⟨vv, rfl, hbb, gg⟩
                have H0z := Lib.hid (H0.out.keep gg)
                clear H0
                have H0 := H0z
                clear H0z
                have H1z := Lib.hid (H1.out.keep gg)
                clear H1
                have H1 := H1z
                clear H1z
                obtain ⟨A7, n7, c7, hv7⟩ := hbb.form3
                subst hv7
                have HVV : Hid (OwnE y3Y w16.heap.size (.slice A7 n7 c7) xs) := hbb.less (by have h1 := GG_2.out.size; first | omega | exact h1 | (simp only [World.size_alloc] at *; omega))
                clear hbb
                have GG_3 : Hid (Grows w16 y3Y) := GG_2.out.trans gg
                have HS_3 := Lib.hid (CellsAre.keep HS_2.out gg)
                clear gg HS_2 GG_2
                go_wp2_with fail
                refine ⟨HS_3.out, ?_⟩
                have hS := HS_3.out
                refine wpAnyM_take (i := 5) (v := ?vt4xp3x5) hB rfl (by kernel_rfl) (fun _ _ _ h => h) (by rfl) ?yt4xp3x5 hS ?nt4xp3x5
                case yt4xp3x5 => (intro w9 hSw; obtain ⟨s1, s2, _⟩ := hSw; go_simp; try with_reducible rfl)
                refine wpAnyM_take (i := 6) (v := ?vt4xp3x6) hB rfl (by kernel_rfl) (fun _ _ _ h => h) (by rfl) ?yt4xp3x6 hS ?nt4xp3x6
                case yt4xp3x6 => (intro w9 hSw; obtain ⟨s1, s2, _⟩ := hSw; go_simp; try with_reducible rfl)
                refine wpAnyM_take (i := 7) (v := ?vt4xp3x7) hB rfl (by kernel_rfl) (fun _ _ _ h => h) (by rfl) ?yt4xp3x7 hS ?nt4xp3x7
                case yt4xp3x7 => (intro w9 hSw; obtain ⟨s1, s2, _⟩ := hSw; go_simp; try with_reducible rfl)
                clear hS
                refine wpAnyM_one (i := 8) rfl (by kernel_rfl) rfl ?_
                go_wp2_with fail
                have HZZ : Hid (Box (y3Y.alloc (.cells #[.slice none 0 0] 27)) y3Y.heap.size (.slice none 0 0) 27) := Box.new _ _ _
                have HVVo := HVV
                have GGo := GG_3
                have HVVz := Lib.hid (HVV.out.keep ((Grows.refl _).alloc (.cells #[.slice none 0 0] 27)))
                clear HVV
                have HVV := HVVz
                clear HVVz
                have GG_4 : Hid (Grows w16 (y3Y.alloc (.cells #[.slice none 0 0] 27))) := GG_3.out.alloc _
                have HS_4 := Lib.hid (CellsAre.keep HS_3.out ((Grows.refl _).alloc (.cells #[.slice none 0 0] 27)))
                have NZZ : Hid (w16.heap.size ≤ y3Y.heap.size) := GG_3.out.size
                clear HS_3 GG_3
                refine ⟨HS_4.out, ?_⟩
                refine wpAnyM_one (i := 9) rfl (by kernel_rfl) rfl ?_
                have cZZ := HZZ.out.cell
                have fZZ := HZZ.out.free
                have lZZ := HZZ.out.lt
                go_wp2_with fail
                refine ⟨by first | exact CellsAre.keep HSB.out (GG_4.out.setCell NZZ.out _) | exact CellsAre.keep HSB.out (GGo.out.alloc _), ?_⟩
                refine wpAnyM_tail (by kernel_rfl) ?_
                clear hB HS_4 cZZ fZZ lZZ
                go_wp2_with fail
                go_meet
                first | exact ⟨_, _, rfl, rfl, HZZ.out.set_ _, HVV.out.setFar (apartBox HVV.out HZZ.out) _, NZZ.out, GG_4.out.setCell NZZ.out _⟩ | exact ⟨_, _, rfl, rfl, Box.new _ _ _, HVVo.out.keep ((Grows.refl _).alloc _), NZZ.out, GGo.out.alloc _⟩
              · go_wp2_with fail
                have HZZ : Hid (Box (y2Y.alloc (.cells #[.slice none 0 0] 27)) y2Y.heap.size (.slice none 0 0) 27) := Box.new _ _ _
                have H0z := Lib.hid (H0.out.keep ((Grows.refl _).alloc (.cells #[.slice none 0 0] 27)))
                clear H0
                have H0 := H0z
                clear H0z
                have H1z := Lib.hid (H1.out.keep ((Grows.refl _).alloc (.cells #[.slice none 0 0] 27)))
                clear H1
                have H1 := H1z
                clear H1z
                have GG_5 : Hid (Grows w16 (y2Y.alloc (.cells #[.slice none 0 0] 27))) := GG_2.out.alloc _
                have HS_5 := Lib.hid (CellsAre.keep HS_2.out ((Grows.refl _).alloc (.cells #[.slice none 0 0] 27)))
                have NZZ : Hid (w16.heap.size ≤ y2Y.heap.size) := GG_2.out.size
                clear HS_2 GG_2
                refine ⟨HS_5.out, ?_⟩
                refine wpAnyM_one (i := 4) rfl (by kernel_rfl) rfl ?_
                go_wp2_with fail
                refine (HI.out _ _ _ hd0 _ _ hd1 H0.out H1.out).mono ?_
                rintro e y6Y ⟨vv, rfl, hbb, gg⟩
                have H0z := Lib.hid (H0.out.keep gg)
                clear H0
                have H0 := H0z
                clear H0z
                have H1z := Lib.hid (H1.out.keep gg)
                clear H1
                have H1 := H1z
                clear H1z
                have HZZz := Lib.hid (HZZ.out.keep gg)
                clear HZZ
                have HZZ := HZZz
                clear HZZz
                obtain ⟨A7, n7, c7, hv7⟩ := hbb.form3
                subst hv7
                have HVV : Hid (OwnE y6Y w16.heap.size (.slice A7 n7 c7) xs) := hbb.less (by have h1 := GG_5.out.size; first | omega | exact h1 | (simp only [World.size_alloc] at *; omega))
                clear hbb
                have GG_6 : Hid (Grows w16 y6Y) := GG_5.out.trans gg
                have HS_6 := Lib.hid (CellsAre.keep HS_5.out gg)
                clear gg HS_5 GG_5
                go_wp2_with fail
                refine ⟨HS_6.out, ?_⟩
                have hS := HS_6.out
                refine wpAnyM_take (i := 5) (v := ?vt4xp6x5) hB rfl (by kernel_rfl) (fun _ _ _ h => h) (by rfl) ?yt4xp6x5 hS ?nt4xp6x5
                case yt4xp6x5 => (intro w9 hSw; obtain ⟨s1, s2, _⟩ := hSw; go_simp; try with_reducible rfl)
                refine wpAnyM_take (i := 6) (v := ?vt4xp6x6) hB rfl (by kernel_rfl) (fun _ _ _ h => h) (by rfl) ?yt4xp6x6 hS ?nt4xp6x6
                case yt4xp6x6 => (intro w9 hSw; obtain ⟨s1, s2, _⟩ := hSw; go_simp; try with_reducible rfl)
                refine wpAnyM_take (i := 7) (v := ?vt4xp6x7) hB rfl (by kernel_rfl) (fun _ _ _ h => h) (by rfl) ?yt4xp6x7 hS ?nt4xp6x7
                case yt4xp6x7 => (intro w9 hSw; obtain ⟨s1, s2, _⟩ := hSw; go_simp; try with_reducible rfl)
                clear hS
                refine wpAnyM_one (i := 9) rfl (by kernel_rfl) rfl ?_
                have cZZ := HZZ.out.cell
                have fZZ := HZZ.out.free
                have lZZ := HZZ.out.lt
                go_wp2_with fail
                refine ⟨by first | exact CellsAre.keep HSB.out (GG_6.out.setCell NZZ.out _), ?_⟩
                refine wpAnyM_tail (by kernel_rfl) ?_
                clear hB HS_6 cZZ fZZ lZZ
                go_wp2_with fail
                go_meet
                exact ⟨_, _, rfl, rfl, HZZ.out.set_ _, HVV.out.setFar (apartBox HVV.out HZZ.out) _, NZZ.out, GG_6.out.setCell NZZ.out _⟩
            · go_wp2_with fail
              have HZZ : Hid (Box (y1Y.alloc (.cells #[.slice none 0 0] 27)) y1Y.heap.size (.slice none 0 0) 27) := Box.new _ _ _
              have H0z := Lib.hid (H0.out.keep ((Grows.refl _).alloc (.cells #[.slice none 0 0] 27)))
              clear H0
              have H0 := H0z
              clear H0z
              have GG_7 : Hid (Grows w16 (y1Y.alloc (.cells #[.slice none 0 0] 27))) := GG_1.out.alloc _
              have HS_7 := Lib.hid (CellsAre.keep HS_1.out ((Grows.refl _).alloc (.cells #[.slice none 0 0] 27)))
              have NZZ : Hid (w16.heap.size ≤ y1Y.heap.size) := GG_1.out.size
              clear HS_1 GG_1
              refine ⟨HS_7.out, ?_⟩
              refine wpAnyM_one (i := 3) rfl (by kernel_rfl) rfl ?_
              go_wp2_with fail
              refine (HT1.out _ (T16.out.trans GG_7.out)).mono ?_
              rintro e y8Y ⟨bb, rfl, hbb, gg⟩
              have H0z := Lib.hid (H0.out.keep gg)
              clear H0
              have H0 := H0z
              clear H0z
              have HZZz := Lib.hid (HZZ.out.keep gg)
              clear HZZ
              have HZZ := HZZz
              clear HZZz
              obtain ⟨B1, d1, hbe, hd1, hB9⟩ := HF1.out _ _ _ hbb
              subst hbe
              have H1 := Lib.hid hB9
              clear hB9 hbb
              have GG_8 : Hid (Grows w16 y8Y) := GG_7.out.trans gg
              have HS_8 := Lib.hid (CellsAre.keep HS_7.out gg)
              clear gg HS_7 GG_7
              go_wp2_with fail
              refine ⟨HS_8.out, ?_⟩
              refine wpAnyM_one (i := 4) rfl (by kernel_rfl) rfl ?_
              go_wp2_with fail
              refine (HI.out _ _ _ hd0 _ _ hd1 H0.out H1.out).mono ?_
              rintro e y9Y ⟨vv, rfl, hbb, gg⟩
              have H0z := Lib.hid (H0.out.keep gg)
              clear H0
              have H0 := H0z
              clear H0z
              have HZZz := Lib.hid (HZZ.out.keep gg)
              clear HZZ
              have HZZ := HZZz
              clear HZZz
              have H1z := Lib.hid (H1.out.keep gg)
              clear H1
              have H1 := H1z
              clear H1z
              obtain ⟨A7, n7, c7, hv7⟩ := hbb.form3
              subst hv7
              have HVV : Hid (OwnE y9Y w16.heap.size (.slice A7 n7 c7) xs) := hbb.less (by have h1 := GG_8.out.size; first | omega | exact h1 | (simp only [World.size_alloc] at *; omega))
              clear hbb
              have GG_9 : Hid (Grows w16 y9Y) := GG_8.out.trans gg
              have HS_9 := Lib.hid (CellsAre.keep HS_8.out gg)
              clear gg HS_8 GG_8
              go_wp2_with fail
              refine ⟨HS_9.out, ?_⟩
              have hS := HS_9.out
              refine wpAnyM_take (i := 5) (v := ?vt4xp9x5) hB rfl (by kernel_rfl) (fun _ _ _ h => h) (by rfl) ?yt4xp9x5 hS ?nt4xp9x5
              case yt4xp9x5 => (intro w9 hSw; obtain ⟨s1, s2, _⟩ := hSw; go_simp; try with_reducible rfl)
              refine wpAnyM_take (i := 6) (v := ?vt4xp9x6) hB rfl (by kernel_rfl) (fun _ _ _ h => h) (by rfl) ?yt4xp9x6 hS ?nt4xp9x6
              case yt4xp9x6 => (intro w9 hSw; obtain ⟨s1, s2, _⟩ := hSw; go_simp; try with_reducible rfl)
              refine wpAnyM_take (i := 7) (v := ?vt4xp9x7) hB rfl (by kernel_rfl) (fun _ _ _ h => h) (by rfl) ?yt4xp9x7 hS ?nt4xp9x7
              case yt4xp9x7 => (intro w9 hSw; obtain ⟨s1, s2, _⟩ := hSw; go_simp; try with_reducible rfl)
              clear hS
              refine wpAnyM_one (i := 9) rfl (by kernel_rfl) rfl ?_
              have cZZ := HZZ.out.cell
              have fZZ := HZZ.out.free
              have lZZ := HZZ.out.lt
              go_wp2_with fail
              refine ⟨by first | exact CellsAre.keep HSB.out (GG_9.out.setCell NZZ.out _), ?_⟩
              refine wpAnyM_tail (by kernel_rfl) ?_
              clear hB HS_9 cZZ fZZ lZZ
              go_wp2_with fail
              go_meet
              exact ⟨_, _, rfl, rfl, HZZ.out.set_ _, HVV.out.setFar (apartBox HVV.out HZZ.out) _, NZZ.out, GG_9.out.setCell NZZ.out _⟩
          · go_wp2_with fail
            have HZZ : Hid (Box (w16.drew.alloc (.cells #[.slice none 0 0] 27)) w16.heap.size (.slice none 0 0) 27) := Box.new _ _ _
            have GG_10 : Hid (Grows w16 (w16.drew.alloc (.cells #[.slice none 0 0] 27))) := GG0.out.alloc _
            have HS_10 := Lib.hid (CellsAre.keep HS0.out ((Grows.refl _).alloc (.cells #[.slice none 0 0] 27)))
            have NZZ : Hid (w16.heap.size ≤ w16.heap.size) := GG0.out.size
            clear HS0 GG0
            refine ⟨HS_10.out, ?_⟩
            refine wpAnyM_one (i := 1) rfl (by kernel_rfl) rfl ?_
            go_wp2_with fail
            refine (HT0.out _ (T16.out.trans GG_10.out)).mono ?_
            rintro e y11Y ⟨bb, rfl, hbb, gg⟩
            have HZZz := Lib.hid (HZZ.out.keep gg)
            clear HZZ
            have HZZ := HZZz
            clear HZZz
            obtain ⟨B0, d0, hbe, hd0, hB9⟩ := HF0.out _ _ _ hbb
            subst hbe
            have H0 := Lib.hid hB9
            clear hB9 hbb
            have GG_11 : Hid (Grows w16 y11Y) := GG_10.out.trans gg
            have HS_11 := Lib.hid (CellsAre.keep HS_10.out gg)
            clear gg HS_10 GG_10
            go_wp2_with fail
            refine ⟨HS_11.out, ?_⟩
            refine wpAnyM_one (i := 3) rfl (by kernel_rfl) rfl ?_
            go_wp2_with fail
            refine (HT1.out _ (T16.out.trans GG_11.out)).mono ?_
            rintro e y12Y ⟨bb, rfl, hbb, gg⟩
            have HZZz := Lib.hid (HZZ.out.keep gg)
            clear HZZ
            have HZZ := HZZz
            clear HZZz
            have H0z := Lib.hid (H0.out.keep gg)
            clear H0
            have H0 := H0z
            clear H0z
            obtain ⟨B1, d1, hbe, hd1, hB9⟩ := HF1.out _ _ _ hbb
            subst hbe
            have H1 := Lib.hid hB9
            clear hB9 hbb
            have GG_12 : Hid (Grows w16 y12Y) := GG_11.out.trans gg
            have HS_12 := Lib.hid (CellsAre.keep HS_11.out gg)
            clear gg HS_11 GG_11
            go_wp2_with fail
            refine ⟨HS_12.out, ?_⟩
            refine wpAnyM_one (i := 4) rfl (by kernel_rfl) rfl ?_
            go_wp2_with fail
            refine (HI.out _ _ _ hd0 _ _ hd1 H0.out H1.out).mono ?_
            rintro e y13Y ⟨vv, rfl, hbb, gg⟩
            have HZZz := Lib.hid (HZZ.out.keep gg)
            clear HZZ
            have HZZ := HZZz
            clear HZZz
            have H0z := Lib.hid (H0.out.keep gg)
            clear H0
            have H0 := H0z
            clear H0z
            have H1z := Lib.hid (H1.out.keep gg)
            clear H1
            have H1 := H1z
            clear H1z
            obtain ⟨A7, n7, c7, hv7⟩ := hbb.form3
            subst hv7
            have HVV : Hid (OwnE y13Y w16.heap.size (.slice A7 n7 c7) xs) := hbb.less (by have h1 := GG_12.out.size; first | omega | exact h1 | (simp only [World.size_alloc] at *; omega))
            clear hbb
            have GG_13 : Hid (Grows w16 y13Y) := GG_12.out.trans gg
            have HS_13 := Lib.hid (CellsAre.keep HS_12.out gg)
            clear gg HS_12 GG_12
            go_wp2_with fail
            refine ⟨HS_13.out, ?_⟩
            have hS := HS_13.out
            refine wpAnyM_take (i := 5) (v := ?vt4xp13x5) hB rfl (by kernel_rfl) (fun _ _ _ h => h) (by rfl) ?yt4xp13x5 hS ?nt4xp13x5
            case yt4xp13x5 => (intro w9 hSw; obtain ⟨s1, s2, _⟩ := hSw; go_simp; try with_reducible rfl)
            refine wpAnyM_take (i := 6) (v := ?vt4xp13x6) hB rfl (by kernel_rfl) (fun _ _ _ h => h) (by rfl) ?yt4xp13x6 hS ?nt4xp13x6
            case yt4xp13x6 => (intro w9 hSw; obtain ⟨s1, s2, _⟩ := hSw; go_simp; try with_reducible rfl)
            refine wpAnyM_take (i := 7) (v := ?vt4xp13x7) hB rfl (by kernel_rfl) (fun _ _ _ h => h) (by rfl) ?yt4xp13x7 hS ?nt4xp13x7
            case yt4xp13x7 => (intro w9 hSw; obtain ⟨s1, s2, _⟩ := hSw; go_simp; try with_reducible rfl)
            clear hS
            refine wpAnyM_one (i := 9) rfl (by kernel_rfl) rfl ?_
            have cZZ := HZZ.out.cell
            have fZZ := HZZ.out.free
            have lZZ := HZZ.out.lt
            go_wp2_with fail
            refine ⟨by first | exact CellsAre.keep HSB.out (GG_13.out.setCell NZZ.out _), ?_⟩
            refine wpAnyM_tail (by kernel_rfl) ?_
            clear hB HS_13 cZZ fZZ lZZ
            go_wp2_with fail
            go_meet
            exact ⟨_, _, rfl, rfl, HZZ.out.set_ _, HVV.out.setFar (apartBox HVV.out HZZ.out) _, NZZ.out, GG_13.out.setCell NZZ.out _⟩
        case rest =>
          clear cA0 lA0 cA1 lA1
          obtain ⟨w17, hwc⟩ : ∃ x, x = wc := ⟨_, rfl⟩
          subst hwc
          obtain ⟨bY, vY, rfl, rfl, HBX, HOX, HNX, g17⟩ := hcut
          have g17 := g17.out
          have K17 : Hid (Grows w16 w17) := by first | exact g17 | exact ((Grows.refl _).alloc _).trans g17 | exact ((Grows.refl _).drew).trans g17
          have T17 : Hid (Grows w w17) := T16.out.trans K17.out
          have A0_17 := Lib.hid (A0_16.out.keep K17.out)
          have A1_17 := Lib.hid (A1_16.out.keep K17.out)
          have V_17 := Lib.hid (V_16.out.keep K17.out)
          have W_17 := Lib.hid (W_16.out.keep K17.out)
          have X0_17 := Lib.hid (X0_16.out.keep K17.out)
          have X1_17 := Lib.hid (X1_16.out.keep K17.out)
          have G_17 := Lib.hid (G_16.out.keep K17.out)
          have M_17 := Lib.hid (M_16.out.keep K17.out)
          clear A0_16 A1_16 V_16 W_16 X0_16 X1_16 G_16 M_16
          have hv := HOX.out
          have YB_17 := HBX
          have LY := Lib.hid HBX.out.lt
          clear g17 HBX HOX
          have Y_17 := Lib.hid hv
          obtain ⟨A9, n9, c9, hv9⟩ := hv.form3
          subst hv9
          clear hv
          have cYB := YB_17.out.cell
          have lYB := YB_17.out.lt
          have cW := W_17.out.cell
          have lW := W_17.out.lt
          go_wp2_with fail
          refine (HE.out _ _ _ _ _ (by first | exact Y_17.out | exact (Y_17.out).keep ((Grows.refl _).alloc _)) (by first | exact V_17.out | exact (V_17.out).keep ((Grows.refl _).alloc _) | exact (V_17.out).keep ((Grows.refl _).drew))).mono ?_
          rintro e w18 ⟨rfl, g18⟩
          have K18 : Hid (Grows w17 w18) := by first | exact g18 | exact ((Grows.refl _).alloc _).trans g18 | exact ((Grows.refl _).drew).trans g18
          have T18 : Hid (Grows w w18) := T17.out.trans K18.out
          have A0_18 := Lib.hid (A0_17.out.keep K18.out)
          have A1_18 := Lib.hid (A1_17.out.keep K18.out)
          have V_18 := Lib.hid (V_17.out.keep K18.out)
          have W_18 := Lib.hid (W_17.out.keep K18.out)
          have X0_18 := Lib.hid (X0_17.out.keep K18.out)
          have X1_18 := Lib.hid (X1_17.out.keep K18.out)
          have G_18 := Lib.hid (G_17.out.keep K18.out)
          have M_18 := Lib.hid (M_17.out.keep K18.out)
          clear A0_17 A1_17 V_17 W_17 X0_17 X1_17 G_17 M_17
          clear g18 Y_17
          clear cW lW
          clear cYB lYB YB_17
          have cG := G_18.out.cell
          have lG := G_18.out.lt
          go_wp2_with fail
          refine (HHG.out _ _ _ M_18.out).mono ?_
          rintro e w19 ⟨rfl, g19⟩
          clear cG lG
          go_wp2
          go_ret
          exact ⟨rfl, (T18.out.trans g19).below⟩
    · rw [less_no (by omega)] at HZ1
      obtain ⟨i0, hi0⟩ : ∃ i, (1048576 : Int) - (wents ls0 : Int) = i := ⟨_, rfl⟩
      rw [hi0] at HZ0 HZ1
      have hip0 : 0 ≤ i0 := by omega
      clear hi0
      clear hw0 hw1 hr0 hA0 hn0 hr1 hA1 hn1
      obtain ⟨n0, hnn0⟩ : ∃ n, ls0.length = n := ⟨_, rfl⟩
      obtain ⟨n1, hnn1⟩ : ∃ n, ls1.length = n := ⟨_, rfl⟩
      rw [hnn0] at HZ0 ⊢
      rw [hnn1] at HZ1 ⊢
      clear hnn0 hnn1
      go_enter Tryd.func6, Tryd.ntmps6
      have HBB : Hid (Grows w ((w.alloc (.cells #[.slice A0 n0 c0] 45)).alloc (.cells #[.slice A1 n1 c1] 45))) := (((Grows.refl _).alloc _).alloc _)
      have HB0 : Hid (Box ((w.alloc (.cells #[.slice A0 n0 c0] 45)).alloc (.cells #[.slice A1 n1 c1] 45)) (w.heap.size) (.slice A0 n0 c0) 45) := (Box.new w (.slice A0 n0 c0) 45).keep ((Grows.refl _).alloc _)
      have HB1 : Hid (Box ((w.alloc (.cells #[.slice A0 n0 c0] 45)).alloc (.cells #[.slice A1 n1 c1] 45)) (w.heap.size + 1) (.slice A1 n1 c1) 45) := by
        have h : Box ((w.alloc (.cells #[.slice A0 n0 c0] 45)).alloc (.cells #[.slice A1 n1 c1] 45)) _ (.slice A1 n1 c1) 45 := Box.new (w.alloc (.cells #[.slice A0 n0 c0] 45)) (.slice A1 n1 c1) 45
        simp only [World.size_alloc] at h
        exact h
      go_wp2_with fail
      refine (HZ0.out _ (by first | exact HBB.out | exact (HBB.out).alloc _ | exact (HBB.out).drew)).mono ?_
      rintro e w1 ⟨rfl, g1⟩
      have K1 : Hid (Grows ((w.alloc (.cells #[.slice A0 n0 c0] 45)).alloc (.cells #[.slice A1 n1 c1] 45)) w1) := g1
      have T1 : Hid (Grows w w1) := HBB.out.trans K1.out
      have A0_1 := Lib.hid (HB0.out.keep K1.out)
      have A1_1 := Lib.hid (HB1.out.keep K1.out)
      clear g1
      have cA1 := A1_1.out.cell
      have lA1 := A1_1.out.lt
      go_wp2_with fail
      refine (HZ1.out _ (by first | exact T1.out | exact (T1.out).alloc _ | exact (T1.out).drew)).mono ?_
      rintro e w2 ⟨rfl, g2⟩
      have K2 : Hid (Grows w1 w2) := by first | exact g2 | exact ((Grows.refl _).alloc _).trans g2 | exact ((Grows.refl _).drew).trans g2
      have T2 : Hid (Grows w w2) := T1.out.trans K2.out
      have A0_2 := Lib.hid (A0_1.out.keep K2.out)
      have A1_2 := Lib.hid (A1_1.out.keep K2.out)
      clear A0_1 A1_1
      clear g2
      clear cA1 lA1
      go_wp2
      go_ret
      exact ⟨rfl, T2.out.below⟩
  · rw [less_no (by omega)] at HZ0
    clear hw0 hr0 hA0 hn0 hr1 hA1 hn1
    obtain ⟨n0, hnn0⟩ : ∃ n, ls0.length = n := ⟨_, rfl⟩
    obtain ⟨n1, hnn1⟩ : ∃ n, ls1.length = n := ⟨_, rfl⟩
    rw [hnn0] at HZ0 ⊢
    rw [hnn1]
    clear hnn0 hnn1
    go_enter Tryd.func6, Tryd.ntmps6
    have HBB : Hid (Grows w ((w.alloc (.cells #[.slice A0 n0 c0] 45)).alloc (.cells #[.slice A1 n1 c1] 45))) := (((Grows.refl _).alloc _).alloc _)
    have HB0 : Hid (Box ((w.alloc (.cells #[.slice A0 n0 c0] 45)).alloc (.cells #[.slice A1 n1 c1] 45)) (w.heap.size) (.slice A0 n0 c0) 45) := (Box.new w (.slice A0 n0 c0) 45).keep ((Grows.refl _).alloc _)
    have HB1 : Hid (Box ((w.alloc (.cells #[.slice A0 n0 c0] 45)).alloc (.cells #[.slice A1 n1 c1] 45)) (w.heap.size + 1) (.slice A1 n1 c1) 45) := by
      have h : Box ((w.alloc (.cells #[.slice A0 n0 c0] 45)).alloc (.cells #[.slice A1 n1 c1] 45)) _ (.slice A1 n1 c1) 45 := Box.new (w.alloc (.cells #[.slice A0 n0 c0] 45)) (.slice A1 n1 c1) 45
      simp only [World.size_alloc] at h
      exact h
    go_wp2_with fail
    refine (HZ0.out _ (by first | exact HBB.out | exact (HBB.out).alloc _ | exact (HBB.out).drew)).mono ?_
    rintro e w1 ⟨rfl, g1⟩
    have K1 : Hid (Grows ((w.alloc (.cells #[.slice A0 n0 c0] 45)).alloc (.cells #[.slice A1 n1 c1] 45)) w1) := g1
    have T1 : Hid (Grows w w1) := HBB.out.trans K1.out
    have A0_1 := Lib.hid (HB0.out.keep K1.out)
    have A1_1 := Lib.hid (HB1.out.keep K1.out)
    clear g1
    go_wp2
    go_ret
    exact ⟨rfl, T1.out.below⟩
end Go.Proofs.YtoicohheoddfjaaDoor
