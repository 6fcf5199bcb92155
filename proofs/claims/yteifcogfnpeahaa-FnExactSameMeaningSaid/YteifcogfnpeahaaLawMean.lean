/-
  The law of SameMeaning: whatever its arguments, it returns true. Conditions: parts no longer than a text may be.
-/
import Derived.Test.YteifcogfnpeahaaMeanS
import Derived.Test.YteifcogfnpeahaaLawF
namespace Go.Proofs.Yteifcogfnpeahaa
open Go.RowKit

set_option maxRecDepth 100000 in
set_option maxHeartbeats 4000000 in
theorem lawMean_any (A : Option Addr) (c : Nat) (ls : List Ln) (B : Option Addr) (d : Nat) (gs : List Ln) (w : World) (hn : ls.length ≤ maxLen) (hr : ∀ i (h : i < ls.length), ls[i].inReach) (hA : LnsAt w A ls) (hm : gs.length ≤ maxLen) (hs : ∀ i (h : i < gs.length), gs[i].inReach) (hB : LnsAt w B gs) :
    Calls Try.prog 13 #[.agg #[.slice A ls.length c], .agg #[.slice B gs.length d]] w fun e w' => e = .returned (.bool true) ∧ Below w.heap.size w w' := by
  have HZ := Lib.hid (fun w1 (g : Grows w w1) => szFile_any A c ls 1048576 w1 (by omega) (by omega) hn hr (hA.keep g))
  by_cases hw : (wlines ls : Int) ≤ 1048576
  · have HY := Lib.hid (fun w1 (g : Grows w w1) => szFile_any B d gs (1048576 - (wlines ls : Int)) w1 (by omega) (by omega) hm hs (hB.keep g))
    have hf := fits_of hw
    rw [less_of hw] at HZ
    by_cases hv : (wlines gs : Int) ≤ 1048576 - (wlines ls : Int)
    · have hg := fits_of (ls := gs) (by omega)
      rw [less_of hv] at HY
      have HT := Lib.hid (fun w1 (g : Grows w w1) => toFile_any A c ls w1 hf.1 (hA.keep g))
      have HU := Lib.hid (fun w1 (g : Grows w w1) => toFile_any B d gs w1 hg.1 (hB.keep g))
      have HV := Lib.hid (fun (C D : Option Addr) (x y : Nat) w1 (h : LnsAt w1 C ls) (h2 : LnsAt w1 D gs) => specMean_any C x ls D y gs w1 hf hg h h2)
      have HI := Lib.hid (fun (C D : Option Addr) (x y : Nat) w1 (h : LnsAt w1 C ls) (h2 : LnsAt w1 D gs) => implMean_any C x ls D y gs w1 hf hg h h2)
      have HE := Lib.hid (fun (C D : Option Addr) (x y : Nat) w1 (h : LnsAt w1 C ls) (h2 : LnsAt w1 D ls) => eqFile_any C D x y ls w1 hn h h2)
      have HF := Lib.hid (fun (C D : Option Addr) (x y : Nat) w1 (h : LnsAt w1 C gs) (h2 : LnsAt w1 D gs) => eqFile_any C D x y gs w1 hm h h2)
      obtain ⟨r, hrr⟩ : ∃ r, (vfile ls && (vfile gs && (tellsB ls gs && tellsB gs ls))) = r := ⟨_, rfl⟩
      rw [hrr] at HV HI
      obtain ⟨i1, hi1⟩ : ∃ i, (1048576 : Int) - (wlines ls : Int) = i := ⟨_, rfl⟩
      rw [hi1] at HZ HY
      have hi1p : 0 ≤ i1 := by omega
      obtain ⟨i2, hi2⟩ : ∃ i, i1 - (wlines gs : Int) = i := ⟨_, rfl⟩
      rw [hi2] at HY
      have hi2p : 0 ≤ i2 := by omega
      clear hrr hi1 hi2 hA hB hr hs hw hv hf hg hn hm
      unfold FileRet at HT HU
      obtain ⟨n, hnn⟩ : ∃ n, ls.length = n := ⟨_, rfl⟩
      obtain ⟨m, hmm⟩ : ∃ m, gs.length = m := ⟨_, rfl⟩
      rw [hnn] at HZ HT HV HI HE
      rw [hmm] at HY HU HV HI HF
      rw [hnn, hmm]
      clear hnn hmm
      go_enter Try.func13, Try.ntmps13
      have HBB : Hid (Grows w ((w.alloc (.cells #[.slice A n c] 54)).alloc (.cells #[.slice B m d] 54))) := ((Grows.refl _).alloc _).alloc _
      go_wp2_with fail
      refine (HZ.out _ HBB.out).mono ?_
      rintro e w1 ⟨rfl, g1⟩
      have HG1 : Hid (Grows ((w.alloc (.cells #[.slice A n c] 54)).alloc (.cells #[.slice B m d] 54)) w1) := g1
      clear g1
      have b0_1 : w1.cell? ⟨w.heap.size, 0, none⟩ = some (.slice A n c) := (HG1.out.cell (p := ⟨w.heap.size, 0, none⟩) (by simp; omega)).trans (by simp)
      have b1_1 : w1.cell? ⟨w.heap.size + 1, 0, none⟩ = some (.slice B m d) := (HG1.out.cell (p := ⟨w.heap.size + 1, 0, none⟩) (by simp)).trans (by simp)
      go_wp2_with fail
      refine (HY.out _ (HBB.out.trans HG1.out)).mono ?_
      rintro e w2 ⟨rfl, g2⟩
      have HG2 : Hid (Grows ((w.alloc (.cells #[.slice A n c] 54)).alloc (.cells #[.slice B m d] 54)) w2) := HG1.out.trans g2
      clear g2 b0_1 b1_1
      have b0_2 : w2.cell? ⟨w.heap.size, 0, none⟩ = some (.slice A n c) := (HG2.out.cell (p := ⟨w.heap.size, 0, none⟩) (by simp; omega)).trans (by simp)
      have b1_2 : w2.cell? ⟨w.heap.size + 1, 0, none⟩ = some (.slice B m d) := (HG2.out.cell (p := ⟨w.heap.size + 1, 0, none⟩) (by simp)).trans (by simp)
      go_wp2_with fail
      refine wp_region_M 4 (CellsAre [(⟨w.heap.size, 0, none⟩, .slice A n c), (⟨w.heap.size + 1, 0, none⟩, .slice B m d)]) (by kernel_rfl) (by kernel_rfl) ⟨b0_2, b1_2, trivial⟩ (fun hB hS => ?_)
      refine wpAnyM_take (i := 0) (v := ?va0) hB rfl (by kernel_rfl) (fun _ _ _ h => h) (by rfl) ?ya0 hS ?na0
      case ya0 => (intro w9 hSw; obtain ⟨s1, s2, _⟩ := hSw; go_simp; try with_reducible rfl)
      refine wpAnyM_take (i := 2) (v := ?va2) hB rfl (by kernel_rfl) (fun _ _ _ h => h) (by rfl) ?ya2 hS ?na2
      case ya2 => (intro w9 hSw; obtain ⟨s1, s2, _⟩ := hSw; go_simp; try with_reducible rfl)
      clear b0_2 b1_2
      have HS2 : Hid (CellsAre [(⟨w.heap.size, 0, none⟩, .slice A n c), (⟨w.heap.size + 1, 0, none⟩, .slice B m d)] w2) := hS
      clear hS
      refine wpAnyM_one (i := 1) rfl (by kernel_rfl) rfl ?_
      go_wp2_with fail
      refine (HT.out _ (HBB.out.trans HG2.out).drew).mono ?_
      rintro e w3 ⟨C, rfl, hC, g3⟩
      have HC3 := Lib.hid hC
      have HG3 : Hid (Grows ((w.alloc (.cells #[.slice A n c] 54)).alloc (.cells #[.slice B m d] 54)) w3) := HG2.out.drew.trans g3
      have HS3 : Hid (CellsAre [(⟨w.heap.size, 0, none⟩, .slice A n c), (⟨w.heap.size + 1, 0, none⟩, .slice B m d)] w3) := CellsAre.keep HS2.out ((Grows.refl _).drew.trans g3)
      clear hC g3
      go_wp2_with fail
      refine ⟨HS3.out, ?_⟩
      refine wpAnyM_one (i := 3) rfl (by kernel_rfl) rfl ?_
      go_wp2_with fail
      refine (HU.out _ (HBB.out.trans HG3.out)).mono ?_
      rintro e w4 ⟨D, rfl, hD, g4⟩
      have HD4 := Lib.hid hD
      have HC4 := Lib.hid (HC3.out.keep g4)
      have HG4 : Hid (Grows ((w.alloc (.cells #[.slice A n c] 54)).alloc (.cells #[.slice B m d] 54)) w4) := HG3.out.trans g4
      have HS4 : Hid (CellsAre [(⟨w.heap.size, 0, none⟩, .slice A n c), (⟨w.heap.size + 1, 0, none⟩, .slice B m d)] w4) := CellsAre.keep HS3.out g4
      clear hD g4
      go_wp2_with fail
      refine ⟨HS4.out, ?_⟩
      refine wpAnyM_tail (by kernel_rfl) ?_
      clear hB HS2 HS3 HS4
      go_wp2_with fail
      refine (HV.out _ _ _ _ _ HC4.out HD4.out).mono ?_
      rintro e w5 ⟨rfl, g5⟩
      have HG5 : Hid (Grows ((w.alloc (.cells #[.slice A n c] 54)).alloc (.cells #[.slice B m d] 54)) w5) := HG4.out.trans g5
      clear g5 HC4 HD4 HC3
      have b0_5 : w5.cell? ⟨w.heap.size, 0, none⟩ = some (.slice A n c) := (HG5.out.cell (p := ⟨w.heap.size, 0, none⟩) (by simp; omega)).trans (by simp)
      have b1_5 : w5.cell? ⟨w.heap.size + 1, 0, none⟩ = some (.slice B m d) := (HG5.out.cell (p := ⟨w.heap.size + 1, 0, none⟩) (by simp)).trans (by simp)
      go_wp2_with fail
      refine (HT.out _ (HBB.out.trans HG5.out)).mono ?_
      rintro e w6 ⟨C2, rfl, hC, g6⟩
      have HG6 : Hid (Grows ((w.alloc (.cells #[.slice A n c] 54)).alloc (.cells #[.slice B m d] 54)) w6) := HG5.out.trans g6
      have HC6 : Hid (LnsAt (w6.alloc (.cells #[.slice (some C2) n n] 25)) (some C2) ls) := hC.keep ((Grows.refl _).alloc _)
      have HW6 : Hid (Grows ((w.alloc (.cells #[.slice A n c] 54)).alloc (.cells #[.slice B m d] 54)) (w6.alloc (.cells #[.slice (some C2) n n] 25))) := HG6.out.alloc _
      clear g6 hC b0_5 b1_5
      have hs6 : w.heap.size + 1 < w6.heap.size := Nat.lt_of_lt_of_le (by simp) HG6.out.size
      have hs06 : w.heap.size < w6.heap.size := by omega
      have b0_6 : w6.cell? ⟨w.heap.size, 0, none⟩ = some (.slice A n c) := (HG6.out.cell (p := ⟨w.heap.size, 0, none⟩) (by simp; omega)).trans (by simp)
      have b1_6 : w6.cell? ⟨w.heap.size + 1, 0, none⟩ = some (.slice B m d) := (HG6.out.cell (p := ⟨w.heap.size + 1, 0, none⟩) (by simp)).trans (by simp)
      go_wp2_with fail
      refine (HU.out _ (HBB.out.trans HW6.out)).mono ?_
      rintro e w7 ⟨D2, rfl, hD, g7⟩
      have HG7 : Hid (Grows ((w.alloc (.cells #[.slice A n c] 54)).alloc (.cells #[.slice B m d] 54)) w7) := HW6.out.trans g7
      have HC7 : Hid (LnsAt (w7.alloc (.cells #[.slice (some D2) m m] 25)) (some C2) ls) := (HC6.out.keep g7).keep ((Grows.refl _).alloc _)
      have HD7 : Hid (LnsAt (w7.alloc (.cells #[.slice (some D2) m m] 25)) (some D2) gs) := hD.keep ((Grows.refl _).alloc _)
      have HX7 : Hid (w7.cell? ⟨w6.heap.size, 0, none⟩ = some (.slice (some C2) n n)) := (g7.cell (p := ⟨w6.heap.size, 0, none⟩) (by simp)).trans (by simp)
      have hs67 : w6.heap.size < w7.heap.size := Nat.lt_of_lt_of_le (by simp) g7.size
      have HW7 : Hid (Grows ((w.alloc (.cells #[.slice A n c] 54)).alloc (.cells #[.slice B m d] 54)) (w7.alloc (.cells #[.slice (some D2) m m] 25))) := HG7.out.alloc _
      clear g7 hD b0_6 b1_6
      have x7 := HX7.out
      go_wp2_with fail
      refine (HI.out _ _ _ _ _ HC7.out HD7.out).mono ?_
      rintro e w8 ⟨rfl, g8⟩
      have HC8 := Lib.hid (HC7.out.keep g8)
      have HD8 := Lib.hid (HD7.out.keep g8)
      have HG8 : Hid (Grows ((w.alloc (.cells #[.slice A n c] 54)).alloc (.cells #[.slice B m d] 54)) w8) := HW7.out.trans g8
      have x8 : w8.cell? ⟨w6.heap.size, 0, none⟩ = some (.slice (some C2) n n) := (g8.cell (p := ⟨w6.heap.size, 0, none⟩) (by simp; omega)).trans ((((Grows.refl w7).alloc _).cell (p := ⟨w6.heap.size, 0, none⟩) hs67).trans x7)
      have y8 : w8.cell? ⟨w7.heap.size, 0, none⟩ = some (.slice (some D2) m m) := (g8.cell (p := ⟨w7.heap.size, 0, none⟩) (by simp)).trans (by simp)
      clear g8 x7
      have b0_8 : w8.cell? ⟨w.heap.size, 0, none⟩ = some (.slice A n c) := (HG8.out.cell (p := ⟨w.heap.size, 0, none⟩) (by simp; omega)).trans (by simp)
      have b1_8 : w8.cell? ⟨w.heap.size + 1, 0, none⟩ = some (.slice B m d) := (HG8.out.cell (p := ⟨w.heap.size + 1, 0, none⟩) (by simp)).trans (by simp)
      go_wp2_with fail
      refine wp_region_M 3 (CellsAre [(⟨w6.heap.size, 0, none⟩, .slice (some C2) n n), (⟨w7.heap.size, 0, none⟩, .slice (some D2) m m), (⟨w.heap.size, 0, none⟩, .slice A n c), (⟨w.heap.size + 1, 0, none⟩, .slice B m d)]) (by kernel_rfl) (by kernel_rfl) ⟨x8, y8, b0_8, b1_8, trivial⟩ (fun hB hS => ?_)
      refine wpAnyM_take (i := 0) (v := ?vb0) hB rfl (by kernel_rfl) (fun _ _ _ h => h) (by rfl) ?yb0 hS ?nb0
      case yb0 => (intro w9 hSw; obtain ⟨s1, s2, s3, s4, _⟩ := hSw; go_simp; try with_reducible rfl)
      refine wpAnyM_take (i := 1) (v := ?vb1) hB rfl (by kernel_rfl) (fun _ _ _ h => h) (by rfl) ?yb1 hS ?nb1
      case yb1 => (intro w9 hSw; obtain ⟨s1, s2, s3, s4, _⟩ := hSw; go_simp; try with_reducible rfl)
      have HS8 := Lib.hid hS
      clear hS x8 y8 b0_8 b1_8
      refine wpAnyM_one (i := 2) rfl (by kernel_rfl) rfl ?_
      go_wp2_with fail
      refine (HT.out _ (HBB.out.trans HG8.out).drew).mono ?_
      rintro e w9 ⟨C3, rfl, hC, g9⟩
      have HC9 := Lib.hid hC
      have HX9 : Hid (LnsAt w9 (some C2) ls) := LnsAt.keep (w := w8.drew) HC8.out g9
      have HD9 : Hid (LnsAt w9 (some D2) gs) := LnsAt.keep (w := w8.drew) HD8.out g9
      have HG9 : Hid (Grows ((w.alloc (.cells #[.slice A n c] 54)).alloc (.cells #[.slice B m d] 54)) w9) := HG8.out.drew.trans g9
      have HS9 := Lib.hid (CellsAre.keep HS8.out g9)
      clear hC g9
      go_wp2_with fail
      refine ⟨HS9.out, ?_⟩
      refine wpAnyM_tail (by kernel_rfl) ?_
      clear hB HS8
      go_wp2_with fail
      refine (HE.out _ _ _ _ _ HX9.out HC9.out).mono ?_
      rintro e w10 ⟨rfl, g10⟩
      have HD10 := Lib.hid (HD9.out.keep g10)
      have HG10 : Hid (Grows ((w.alloc (.cells #[.slice A n c] 54)).alloc (.cells #[.slice B m d] 54)) w10) := HG9.out.trans g10
      obtain ⟨x10, y10, b0_10, b1_10, _⟩ := CellsAre.keep HS9.out g10
      clear g10 HS9 HX9 HC9 HD9
      go_wp2_with fail
      refine wp_region_M 3 (CellsAre [(⟨w7.heap.size, 0, none⟩, .slice (some D2) m m), (⟨w.heap.size + 1, 0, none⟩, .slice B m d)]) (by kernel_rfl) (by kernel_rfl) ⟨y10, b1_10, trivial⟩ (fun hB hS => ?_)
      refine wpAnyM_take (i := 0) (v := ?vc0) hB rfl (by kernel_rfl) (fun _ _ _ h => h) (by rfl) ?yc0 hS ?nc0
      case yc0 => (intro w9 hSw; obtain ⟨s1, s2, _⟩ := hSw; go_simp; try with_reducible rfl)
      refine wpAnyM_take (i := 1) (v := ?vc1) hB rfl (by kernel_rfl) (fun _ _ _ h => h) (by rfl) ?yc1 hS ?nc1
      case yc1 => (intro w9 hSw; obtain ⟨s1, s2, _⟩ := hSw; go_simp; try with_reducible rfl)
      have HS10 := Lib.hid hS
      clear hS x10 y10 b0_10 b1_10
      refine wpAnyM_one (i := 2) rfl (by kernel_rfl) rfl ?_
      go_wp2_with fail
      refine (HU.out _ (HBB.out.trans HG10.out).drew).mono ?_
      rintro e w11 ⟨D3, rfl, hD, g11⟩
      have HD11 := Lib.hid hD
      have HX11 : Hid (LnsAt w11 (some D2) gs) := LnsAt.keep (w := w10.drew) HD10.out g11
      have HG11 : Hid (Grows ((w.alloc (.cells #[.slice A n c] 54)).alloc (.cells #[.slice B m d] 54)) w11) := HG10.out.drew.trans g11
      have HS11 := Lib.hid (CellsAre.keep HS10.out g11)
      clear hD g11
      go_wp2_with fail
      refine ⟨HS11.out, ?_⟩
      refine wpAnyM_tail (by kernel_rfl) ?_
      clear hB HS10 HS11
      go_wp2_with fail
      refine (HF.out _ _ _ _ _ HX11.out HD11.out).mono ?_
      rintro e w12 ⟨rfl, g12⟩
      have HG12 : Hid (Grows w w12) := HBB.out.trans (HG11.out.trans g12)
      clear g12
      go_wp2
      go_ret
      exact ⟨rfl, HG12.out.below⟩
    · rw [less_no (by omega)] at HY
      obtain ⟨i1, hi1⟩ : ∃ i, (1048576 : Int) - (wlines ls : Int) = i := ⟨_, rfl⟩
      rw [hi1] at HZ HY
      have hi1p : 0 ≤ i1 := by omega
      clear hi1 hA hB hr hs hw hv hf hn hm
      obtain ⟨n, hnn⟩ : ∃ n, ls.length = n := ⟨_, rfl⟩
      obtain ⟨m, hmm⟩ : ∃ m, gs.length = m := ⟨_, rfl⟩
      rw [hnn] at HZ
      rw [hmm] at HY
      rw [hnn, hmm]
      clear hnn hmm
      go_enter Try.func13, Try.ntmps13
      have HBB : Hid (Grows w ((w.alloc (.cells #[.slice A n c] 54)).alloc (.cells #[.slice B m d] 54))) := ((Grows.refl _).alloc _).alloc _
      go_wp2_with fail
      refine (HZ.out _ HBB.out).mono ?_
      rintro e w1 ⟨rfl, g1⟩
      have HG1 : Hid (Grows ((w.alloc (.cells #[.slice A n c] 54)).alloc (.cells #[.slice B m d] 54)) w1) := g1
      have b1_1 : w1.cell? ⟨w.heap.size + 1, 0, none⟩ = some (.slice B m d) := (HG1.out.cell (p := ⟨w.heap.size + 1, 0, none⟩) (by simp)).trans (by simp)
      clear g1
      go_wp2_with fail
      refine (HY.out _ (HBB.out.trans HG1.out)).mono ?_
      rintro e w2 ⟨rfl, g2⟩
      have HG2 : Hid (Grows w w2) := HBB.out.trans (HG1.out.trans g2)
      clear g2 b1_1
      go_wp2
      go_ret
      exact ⟨rfl, HG2.out.below⟩
  · rw [less_no (by omega)] at HZ
    clear hA hB hr hs hw hn hm
    obtain ⟨n, hnn⟩ : ∃ n, ls.length = n := ⟨_, rfl⟩
    obtain ⟨m, hmm⟩ : ∃ m, gs.length = m := ⟨_, rfl⟩
    rw [hnn] at HZ
    rw [hnn, hmm]
    clear hnn hmm
    go_enter Try.func13, Try.ntmps13
    have HBB : Hid (Grows w ((w.alloc (.cells #[.slice A n c] 54)).alloc (.cells #[.slice B m d] 54))) := ((Grows.refl _).alloc _).alloc _
    go_wp2_with fail
    refine (HZ.out _ HBB.out).mono ?_
    rintro e w1 ⟨rfl, g1⟩
    have HG1 : Hid (Grows w w1) := HBB.out.trans g1
    clear g1
    go_wp2
    go_ret
    exact ⟨rfl, HG1.out.below⟩
end Go.Proofs.Yteifcogfnpeahaa
