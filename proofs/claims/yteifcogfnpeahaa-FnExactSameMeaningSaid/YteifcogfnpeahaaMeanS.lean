/-
  When two files tell the same: SameMeaning of the specification. Conditions: at most 1048576 bytes in all, of either file.
-/
import Derived.Test.YteifcogfnpeahaaMean
import Derived.Test.YteifcogfnpeahaaLayS
namespace Go.Proofs.Yteifcogfnpeahaa
open Go.RowKit

set_option maxRecDepth 100000 in
set_option maxHeartbeats 4000000 in
theorem specMean_any (A : Option Addr) (c : Nat) (ls : List Ln) (B : Option Addr) (d : Nat) (gs : List Ln) (w : World) (hf : AllFit ls) (hg : AllFit gs) (hA : LnsAt w A ls) (hB : LnsAt w B gs) :
    Calls Try.prog 52 #[.agg #[.slice A ls.length c], .agg #[.slice B gs.length d]] w fun e w' => e = .returned (.bool (vfile ls && (vfile gs && (tellsB ls gs && tellsB gs ls)))) ∧ Grows w w' := by
  have HF := Lib.hid (fun w1 (g : Grows w w1) => specFile_any A c ls w1 hf (hA.keep g))
  have HG := Lib.hid (fun w1 (g : Grows w w1) => specFile_any B d gs w1 hg (hB.keep g))
  have HL := Lib.hid (fun w1 (g : Grows w w1) => specLay_any A c ls w1 hf (hA.keep g))
  have HM := Lib.hid (fun w1 (g : Grows w w1) => specLay_any B d gs w1 hg (hB.keep g))
  have HST : Hid (vfile ls = true → vfile gs = true → sameE (layOf ls) (layOf gs) = (tellsB ls gs && tellsB gs ls)) := same_tells
  have hl4 : (layOf ls).length ≤ 1048576 := Nat.le_trans (lay_le ls) (by omega)
  have hm4 : (layOf gs).length ≤ 1048576 := Nat.le_trans (lay_le gs) (by omega)
  clear hA hB hf hg
  unfold ResE at HL HM
  obtain ⟨n, hnn⟩ : ∃ n, ls.length = n := ⟨_, rfl⟩
  obtain ⟨m, hmm⟩ : ∃ m, gs.length = m := ⟨_, rfl⟩
  rw [hnn] at HF HL
  rw [hmm] at HG HM
  rw [hnn, hmm]
  clear hnn hmm
  have HZ : Hid (Grows w ((w.alloc (fbox A n c)).alloc (fbox B m d))) := ((Grows.refl _).alloc _).alloc _
  obtain ⟨a1, h1⟩ : ∃ a, vfile ls = a := ⟨_, rfl⟩
  obtain ⟨a2, h2⟩ : ∃ a, vfile gs = a := ⟨_, rfl⟩
  rw [h1] at HF HST
  rw [h2] at HG HST
  rw [h1, h2]
  clear h1 h2
  obtain ⟨r, hr⟩ : ∃ r, (a1 && (a2 && (tellsB ls gs && tellsB gs ls))) = r := ⟨_, rfl⟩
  rw [hr]
  have HR := Lib.hid hr
  clear hr
  go_enter Try.func52, Try.ntmps52
  go_wp2_with fail
  refine (HF.out _ HZ.out).mono ?_
  rintro e w1 ⟨rfl, g1⟩
  have HG1 := Lib.hid g1
  have b0 : w1.cell? ⟨w.heap.size, 0, none⟩ = some (.slice A n c) := (HG1.out.cell (p := ⟨w.heap.size, 0, none⟩) (by simp; omega)).trans (by simp [fbox])
  have b1 : w1.cell? ⟨w.heap.size + 1, 0, none⟩ = some (.slice B m d) := (HG1.out.cell (p := ⟨w.heap.size + 1, 0, none⟩) (by simp)).trans (by simp [fbox])
  clear g1
  cases a1
  · have hr : r = false := HR.out.symm
    subst hr
    clear HR
    go_wp2
    go_ret
    exact ⟨rfl, HZ.out.trans HG1.out⟩
  go_wp2_with fail
  refine (HG.out _ (HZ.out.trans HG1.out)).mono ?_
  rintro e w2 ⟨rfl, g2⟩
  have HG2 : Hid (Grows _ w2) := HG1.out.trans g2
  have b2 : w2.cell? ⟨w.heap.size, 0, none⟩ = some (.slice A n c) := (HG2.out.cell (p := ⟨w.heap.size, 0, none⟩) (by simp; omega)).trans (by simp [fbox])
  have b3 : w2.cell? ⟨w.heap.size + 1, 0, none⟩ = some (.slice B m d) := (HG2.out.cell (p := ⟨w.heap.size + 1, 0, none⟩) (by simp)).trans (by simp [fbox])
  have HW2 : Hid (Grows w w2) := HZ.out.trans HG2.out
  clear g2 b0 b1
  cases a2
  · have hr : r = false := HR.out.symm
    subst hr
    clear HR
    go_wp2
    go_ret
    exact ⟨rfl, HW2.out⟩
  have hr : sameE (layOf ls) (layOf gs) = r := (HST.out (by simp) (by simp)).trans HR.out
  clear HST HR
  obtain ⟨es, hes⟩ : ∃ es, layOf ls = es := ⟨_, rfl⟩
  obtain ⟨fs, hfs⟩ : ∃ fs, layOf gs = fs := ⟨_, rfl⟩
  rw [hes] at HL hl4
  rw [hfs] at HM hm4
  rw [hes, hfs] at hr
  clear hes hfs
  have HSE := Lib.hid (fun (A B : Option Addr) (c d : Nat) (w1 : World) (h : EntsAt w1 A es) (h2 : EntsAt w1 B fs) => sameEntries_any A B c d es fs w1 hl4 hm4 h h2)
  rw [hr] at HSE
  clear hr
  go_wp2_with fail
  refine wp_region_M 6 (CellsAre [(⟨w.heap.size, 0, none⟩, .slice A n c), (⟨w.heap.size + 1, 0, none⟩, .slice B m d)]) (by kernel_rfl) (by kernel_rfl) ⟨b2, b3, trivial⟩ (fun hB hS => ?_)
  refine wpAnyM_take (i := 0) (v := ?va0) hB rfl (by kernel_rfl) (fun _ _ _ h => h) (by rfl) ?ya0 hS ?na0
  case ya0 => (intro w9 hSw; obtain ⟨s1, s2, _⟩ := hSw; go_simp; try with_reducible rfl)
  refine wpAnyM_take (i := 3) (v := ?va1) hB rfl (by kernel_rfl) (fun _ _ _ h => h) (by rfl) ?ya1 hS ?na1
  case ya1 => (intro w9 hSw; obtain ⟨s1, s2, _⟩ := hSw; go_simp; try with_reducible rfl)
  clear b2 b3
  have HS2 : Hid (CellsAre [(⟨w.heap.size, 0, none⟩, .slice A n c), (⟨w.heap.size + 1, 0, none⟩, .slice B m d)] w2) := hS
  clear hS
  refine wpAnyM_one (i := 1) rfl (by kernel_rfl) rfl ?_
  go_wp2_with fail
  refine (HL.out _ HW2.out.drew).mono ?_
  rintro e w3 ⟨v, rfl, hv, g3⟩
  have HV3 : Hid (OwnE w3 w2.heap.size v es) := hv
  obtain ⟨A7, n7, c7, hv7⟩ := hv.form3
  subst hv7
  have HG3 : Hid (Grows w2 w3) := (Grows.refl _).drew.trans g3
  clear hv g3
  have HS3 := Lib.hid (CellsAre.keep HS2.out HG3.out)
  go_wp2_with fail
  refine ⟨HS3.out, ?_⟩
  have hS := HS3.out
  refine wpAnyM_take (i := 2) (v := .slice A7 n7 c7) hB rfl (by kernel_rfl) (fun _ _ _ h => h) (by rfl) ?yb0 hS ?nb0
  case yb0 => (intro w9 hSw; first | rfl | simp [go_sem])
  clear hS
  refine wpAnyM_one (i := 4) rfl (by kernel_rfl) rfl ?_
  go_wp2_with fail
  refine (HM.out _ (HW2.out.trans HG3.out)).mono ?_
  rintro e w4 ⟨v, rfl, hv, g4⟩
  have HV4 : Hid (OwnE w4 w3.heap.size v fs) := hv
  obtain ⟨A8, n8, c8, hv8⟩ := hv.form3
  subst hv8
  have HG4 := Lib.hid g4
  clear hv g4
  have HS4 := Lib.hid (CellsAre.keep HS3.out HG4.out)
  go_wp2_with fail
  refine ⟨HS4.out, ?_⟩
  have hS := HS4.out
  refine wpAnyM_take (i := 5) (v := .slice A8 n8 c8) hB rfl (by kernel_rfl) (fun _ _ _ h => h) (by rfl) ?yc0 hS ?nc0
  case yc0 => (intro w9 hSw; first | rfl | simp [go_sem])
  clear hS
  refine wpAnyM_tail (by kernel_rfl) ?_
  obtain ⟨X, x, hx, hX⟩ := (HV3.out.keep HG4.out).form
  obtain ⟨Y, y, hy, hY⟩ := HV4.out.form
  have HX := Lib.hid hX
  have HY := Lib.hid hY
  clear hX hY
  injection hx with hx1 hx2 hx3
  injection hy with hy1 hy2 hy3
  subst hx1; subst hx2; subst hx3; subst hy1; subst hy2; subst hy3
  clear HS2 HS3 HS4 hB
  go_wp2_with fail
  refine (HSE.out _ _ _ _ _ HX.out HY.out).mono ?_
  rintro e w5 ⟨rfl, g5⟩
  have HG5 : Hid (Grows w w5) := HW2.out.trans (HG3.out.trans (HG4.out.trans g5))
  clear g5
  go_wp2
  go_ret
  exact ⟨rfl, HG5.out⟩
end Go.Proofs.Yteifcogfnpeahaa
