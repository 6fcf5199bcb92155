/-
  PatchLayers of the specification. Conditions: parts of at most 1048576 bytes.
-/
import Derived.Test.YtcecjdjfbgmogaaDoorPatS
namespace Go.Proofs.YtcecjdjfbgmogaaDoor
open Go.RowKit

set_option maxRecDepth 100000 in
set_option maxHeartbeats 4000000 in
theorem specPatYes_any (A : Option Addr) (c : Nat) (xs : List Ent) (B : Option Addr) (d : Nat) (bs : List Ent) (w : World) (hc0 : xs.length ≤ c) (hd0 : bs.length ≤ d) (hf : EFit xs) (hA : EntsAt w A xs) (hg : EFit bs) (hB : EntsAt w B bs) (hv : vflat xs = true) (hu : vflat bs = true) :
    Calls Tryd.prog 10 #[.agg #[.slice A xs.length c], .agg #[.slice B bs.length d]] w (ResEB (patchL xs bs) (patchB xs bs) w) := by
  have HI := Lib.hid (fun w1 (g : Grows w w1) => specFlat0_any A c xs w1 hc0 hf (hA.keep g))
  have HJ := Lib.hid (fun w1 (g : Grows w w1) => specFlat0_any B d bs w1 hd0 hg (hB.keep g))
  have HMG := Lib.hid (fun w1 (g : Grows w w1) => specPatch_any A c xs B d bs w1 hv hu (hA.keep g) (hB.keep g))
  have HFR : Hid (EFit (patchR xs bs)) := patchR_fit (vflat_vlayer hv) (vflat_vlayer hu)
  have HPE : Hid (patchL xs bs = chkE (patchR xs bs) ∧ patchB xs bs = vlayer (patchR xs bs)) := patchL_yes hv hu
  rw [hv] at HI
  rw [hu] at HJ
  unfold ResE at HMG
  clear hA hB hf hg hv hu hc0 hd0
  obtain ⟨m, hmm⟩ : ∃ m, xs.length = m := ⟨_, rfl⟩
  obtain ⟨n, hnn⟩ : ∃ n, bs.length = n := ⟨_, rfl⟩
  rw [hmm] at HI HMG ⊢
  rw [hnn] at HJ HMG ⊢
  clear hmm hnn
  go_enter Tryd.func10, Tryd.ntmps10
  go_upto_region 1 with (fail)
  have XA : Hid (Box (((w.alloc (.cells #[.slice A m c] 25)).alloc (.cells #[.slice B n d] 25)).alloc (.cells #[.slice none 0 0] 25)) w.heap.size (.slice A m c) 25) := row_grow (row_grow (heap_alloc_new w _) ((Grows.refl _).alloc _)) ((Grows.refl _).alloc _)
  have XB : Hid (Box (((w.alloc (.cells #[.slice A m c] 25)).alloc (.cells #[.slice B n d] 25)).alloc (.cells #[.slice none 0 0] 25)) (w.heap.size + 1) (.slice B n d) 25) := row_grow (alloc_new2 w _ _) ((Grows.refl _).alloc _)
  have XR : Hid (Box (((w.alloc (.cells #[.slice A m c] 25)).alloc (.cells #[.slice B n d] 25)).alloc (.cells #[.slice none 0 0] 25)) (w.heap.size + 1 + 1) (.slice none 0 0) 25) := alloc_new3 w _ _ _
  have G0 : Hid (Grows w (((w.alloc (.cells #[.slice A m c] 25)).alloc (.cells #[.slice B n d] 25)).alloc (.cells #[.slice none 0 0] 25))) := (((Grows.refl w).alloc _).alloc _).alloc _
  obtain ⟨w0, hw0⟩ : ∃ w0, ((w.alloc (.cells #[.slice A m c] 25)).alloc (.cells #[.slice B n d] 25)).alloc (.cells #[.slice none 0 0] 25) = w0 := ⟨_, rfl⟩
  rw [hw0] at XA XB XR G0 ⊢
  clear hw0
  have S0 : w.heap.size + 1 + 1 < w0.heap.size := XR.out.lt
  have cA := XA.out.cell
  go_wp2_with fail
  refine (HI.out _ G0.out).mono ?_
  rintro r w1 ⟨rfl, g1⟩
  have G1 : Hid (Grows w w1) := G0.out.trans g1
  have XA1 := Lib.hid (XA.out.keep g1)
  have XB1 := Lib.hid (XB.out.keep g1)
  have XR1 := Lib.hid (XR.out.keep g1)
  have S1 : w0.heap.size ≤ w1.heap.size := g1.size
  clear g1 cA XA XB XR
  have cB := XB1.out.cell
  go_wp2_with fail
  refine (HJ.out _ G1.out).mono ?_
  rintro r w2 ⟨rfl, g2⟩
  have G2 : Hid (Grows w w2) := G1.out.trans g2
  have XA2 := Lib.hid (XA1.out.keep g2)
  have XB2 := Lib.hid (XB1.out.keep g2)
  have XR2 := Lib.hid (XR1.out.keep g2)
  have S2 : w1.heap.size ≤ w2.heap.size := g2.size
  clear g2 cB XA1 XB1 XR1 HI HJ
  have cA := XA2.out.cell
  have cB := XB2.out.cell
  go_wp2_with fail
  refine (HMG.out _ G2.out).mono ?_
  rintro r w3 ⟨v, rfl, hv, g3⟩
  have G3 : Hid (Grows w w3) := G2.out.trans g3
  have XR3 := Lib.hid (XR2.out.keep g3)
  obtain ⟨A5, c5, hv5, hcap, hE5⟩ := OwnE.formC hv
  subst hv5
  have HO3 := Lib.hid hv
  have HL := Lib.hid (fun w1 (g : Grows w3 w1) => specLayer_any A5 c5 (patchR xs bs) w1 hcap HFR.out (hE5.keep g))
  obtain ⟨β, hβ⟩ : ∃ β, vlayer (patchR xs bs) = β := ⟨_, rfl⟩
  have HCK : Hid (chkE (patchR xs bs) = if β = true then patchR xs bs else []) := by unfold Hid chkE; rw [hβ]
  rw [hβ] at HPE HL
  obtain ⟨n5, hn5⟩ : ∃ n5, (patchR xs bs).length = n5 := ⟨_, rfl⟩
  rw [hn5] at HO3 HL ⊢
  clear g3 cA cB XA2 XB2 hv hcap hE5 hβ hn5 HMG
  have X6 : Hid (Box (w3.alloc (.cells #[.slice A5 n5 c5] 25)) w3.heap.size (.slice A5 n5 c5) 25) := Box.new _ _ _
  go_wp2_with fail
  refine (HL.out _ ((Grows.refl _).alloc _)).mono ?_
  rintro r w5 ⟨rfl, g5⟩
  have G5 : Hid (Grows w w5) := (G3.out.alloc _).trans g5
  have X65 := Lib.hid (X6.out.keep g5)
  have XR5 := Lib.hid ((XR3.out.keep ((Grows.refl _).alloc _)).keep g5)
  have HO5 := Lib.hid ((HO3.out.keep ((Grows.refl _).alloc _)).keep g5)
  clear g5
  have c6 := X65.out.cell
  have h1 := XR5.out.cell
  have h2 := XR5.out.free
  rcases β with _ | _
  · go_wp2
    refine bodyPost_ret (v := .tuple #[.agg #[.slice none 0 0], .bool false]) (by simp [results, Tryd.results10, go_sem, h1]) rfl ?_
    rw [HPE.out.1, HPE.out.2, show chkE (patchR xs bs) = [] from by rw [HCK.out]; simp]
    exact ⟨_, rfl, OwnE.nil _ _, G5.out.setCell (show w.heap.size ≤ w.heap.size + 1 + 1 by omega) _⟩
  · go_wp2
    refine bodyPost_ret (v := .tuple #[.agg #[.slice A5 n5 c5], .bool true]) (by simp [results, Tryd.results10, go_sem, h1]) rfl ?_
    rw [HPE.out.1, HPE.out.2, show chkE (patchR xs bs) = patchR xs bs from by rw [HCK.out]; simp]
    exact ⟨_, rfl, (HO5.out.setOther (by omega) _).less (by omega), G5.out.setCell (show w.heap.size ≤ w.heap.size + 1 + 1 by omega) _⟩

set_option maxRecDepth 100000 in
set_option maxHeartbeats 4000000 in
theorem specPat_any (A : Option Addr) (c : Nat) (xs : List Ent) (B : Option Addr) (d : Nat) (bs : List Ent) (w : World) (HC0 : xs.length ≤ c) (HD0 : bs.length ≤ d) (hf : EFit xs) (hA : EntsAt w A xs) (hg : EFit bs) (hB : EntsAt w B bs) :
    Calls Tryd.prog 10 #[.agg #[.slice A xs.length c], .agg #[.slice B bs.length d]] w (ResEB (patchL xs bs) (patchB xs bs) w) := by
  have hc0 := HC0
  have hd0 := HD0
  have HI := Lib.hid (fun w1 (g : Grows w w1) => specFlat0_any A c xs w1 hc0 hf (hA.keep g))
  have HJ := Lib.hid (fun w1 (g : Grows w w1) => specFlat0_any B d bs w1 hd0 hg (hB.keep g))
  by_cases hv : vflat xs = true
  · by_cases hu : vflat bs = true
    · exact specPatYes_any A c xs B d bs w hc0 hd0 hf hA hg hB hv hu
    · have hu' : vflat bs = false := by simpa using hu
      have HPE : Hid (patchL xs bs = [] ∧ patchB xs bs = false) := patchL_no2 hu'
      rw [hv] at HI
      rw [hu'] at HJ
      clear hA hf hv hu hu' hB hg hc0 hd0
      obtain ⟨m, hmm⟩ : ∃ m, xs.length = m := ⟨_, rfl⟩
      obtain ⟨n, hnn⟩ : ∃ n, bs.length = n := ⟨_, rfl⟩
      rw [hmm] at HI ⊢
      rw [hnn] at HJ ⊢
      clear hmm hnn
      go_enter Tryd.func10, Tryd.ntmps10
      go_upto_region 1 with (fail)
      have XA : Hid (Box (((w.alloc (.cells #[.slice A m c] 25)).alloc (.cells #[.slice B n d] 25)).alloc (.cells #[.slice none 0 0] 25)) w.heap.size (.slice A m c) 25) := row_grow (row_grow (heap_alloc_new w _) ((Grows.refl _).alloc _)) ((Grows.refl _).alloc _)
      have XB : Hid (Box (((w.alloc (.cells #[.slice A m c] 25)).alloc (.cells #[.slice B n d] 25)).alloc (.cells #[.slice none 0 0] 25)) (w.heap.size + 1) (.slice B n d) 25) := row_grow (alloc_new2 w _ _) ((Grows.refl _).alloc _)
      have XR : Hid (Box (((w.alloc (.cells #[.slice A m c] 25)).alloc (.cells #[.slice B n d] 25)).alloc (.cells #[.slice none 0 0] 25)) (w.heap.size + 1 + 1) (.slice none 0 0) 25) := alloc_new3 w _ _ _
      have G0 : Hid (Grows w (((w.alloc (.cells #[.slice A m c] 25)).alloc (.cells #[.slice B n d] 25)).alloc (.cells #[.slice none 0 0] 25))) := (((Grows.refl w).alloc _).alloc _).alloc _
      obtain ⟨w0, hw0⟩ : ∃ w0, ((w.alloc (.cells #[.slice A m c] 25)).alloc (.cells #[.slice B n d] 25)).alloc (.cells #[.slice none 0 0] 25) = w0 := ⟨_, rfl⟩
      rw [hw0] at XA XB XR G0 ⊢
      clear hw0
      have S0 : w.heap.size + 1 + 1 < w0.heap.size := XR.out.lt
      have cA := XA.out.cell
      go_wp2_with fail
      refine (HI.out _ G0.out).mono ?_
      rintro r w1 ⟨rfl, g1⟩
      have G1 : Hid (Grows w w1) := G0.out.trans g1
      have XB1 := Lib.hid (XB.out.keep g1)
      have XR1 := Lib.hid (XR.out.keep g1)
      clear g1 cA XA XB XR
      have cB := XB1.out.cell
      go_wp2_with fail
      refine (HJ.out _ G1.out).mono ?_
      rintro r w2 ⟨rfl, g2⟩
      have G2 : Hid (Grows w w2) := G1.out.trans g2
      have XR2 := Lib.hid (XR1.out.keep g2)
      clear g2 cB XB1 XR1
      have h1 := XR2.out.cell
      have h2 := XR2.out.free
      go_wp2
      refine bodyPost_ret (v := .tuple #[.agg #[.slice none 0 0], .bool false]) (by simp [results, Tryd.results10, go_sem, h1]) rfl ?_
      rw [HPE.out.1, HPE.out.2]
      exact ⟨_, rfl, OwnE.nil _ _, G2.out.setCell (show w.heap.size ≤ w.heap.size + 1 + 1 by omega) _⟩
  · have hv' : vflat xs = false := by simpa using hv
    have HPE : Hid (patchL xs bs = [] ∧ patchB xs bs = false) := patchL_no1 hv'
    rw [hv'] at HI
    clear hA hf hv hv' hB hg hc0 hd0 HJ
    obtain ⟨m, hmm⟩ : ∃ m, xs.length = m := ⟨_, rfl⟩
    obtain ⟨n, hnn⟩ : ∃ n, bs.length = n := ⟨_, rfl⟩
    rw [hmm] at HI ⊢
    rw [hnn]
    clear hmm hnn
    go_enter Tryd.func10, Tryd.ntmps10
    go_upto_region 1 with (fail)
    have XA : Hid (Box (((w.alloc (.cells #[.slice A m c] 25)).alloc (.cells #[.slice B n d] 25)).alloc (.cells #[.slice none 0 0] 25)) w.heap.size (.slice A m c) 25) := row_grow (row_grow (heap_alloc_new w _) ((Grows.refl _).alloc _)) ((Grows.refl _).alloc _)
    have XB : Hid (Box (((w.alloc (.cells #[.slice A m c] 25)).alloc (.cells #[.slice B n d] 25)).alloc (.cells #[.slice none 0 0] 25)) (w.heap.size + 1) (.slice B n d) 25) := row_grow (alloc_new2 w _ _) ((Grows.refl _).alloc _)
    have XR : Hid (Box (((w.alloc (.cells #[.slice A m c] 25)).alloc (.cells #[.slice B n d] 25)).alloc (.cells #[.slice none 0 0] 25)) (w.heap.size + 1 + 1) (.slice none 0 0) 25) := alloc_new3 w _ _ _
    have G0 : Hid (Grows w (((w.alloc (.cells #[.slice A m c] 25)).alloc (.cells #[.slice B n d] 25)).alloc (.cells #[.slice none 0 0] 25))) := (((Grows.refl w).alloc _).alloc _).alloc _
    obtain ⟨w0, hw0⟩ : ∃ w0, ((w.alloc (.cells #[.slice A m c] 25)).alloc (.cells #[.slice B n d] 25)).alloc (.cells #[.slice none 0 0] 25) = w0 := ⟨_, rfl⟩
    rw [hw0] at XA XB XR G0 ⊢
    clear hw0
    have S0 : w.heap.size + 1 + 1 < w0.heap.size := XR.out.lt
    have cA := XA.out.cell
    go_wp2_with fail
    refine (HI.out _ G0.out).mono ?_
    rintro r w1 ⟨rfl, g1⟩
    have G1 : Hid (Grows w w1) := G0.out.trans g1
    have XR1 := Lib.hid (XR.out.keep g1)
    clear g1 cA XA XB XR
    have h1 := XR1.out.cell
    have h2 := XR1.out.free
    go_wp2
    refine bodyPost_ret (v := .tuple #[.agg #[.slice none 0 0], .bool false]) (by simp [results, Tryd.results10, go_sem, h1]) rfl ?_
    rw [HPE.out.1, HPE.out.2]
    exact ⟨_, rfl, OwnE.nil _ _, G1.out.setCell (show w.heap.size ≤ w.heap.size + 1 + 1 by omega) _⟩
end Go.Proofs.YtcecjdjfbgmogaaDoor
