/-
  UndoLayer of both sides. Conditions: parts of at most 1048576 bytes.
-/
import Derived.Test.YtoicohheoddfjaaDoorFltI
import Derived.Test.YtoicohheoddfjaaDoorFltS
import Derived.Test.YtoicohheoddfjaaDoorPatI
import Derived.Test.YtoicohheoddfjaaDoorPatS
namespace Go.Proofs.YtoicohheoddfjaaDoor
open Go.RowKit

def undoL (xs bs : List Ent) : List Ent := if flatB [xs, bs] = true then patchL (flatL [xs, bs]) bs else []
def undoB (xs bs : List Ent) : Bool := flatB [xs, bs] && patchB (flatL [xs, bs]) bs
theorem undoL_20 (xs bs : List Ent) : (undoL xs bs).length ≤ 20 := by
  unfold undoL
  split
  · exact patchL_20 _ _
  · simp
theorem fitU_two {es fs : List Ent} (h : EFit es) (g : EFit fs) : ∀ l ∈ [es, fs], EFit l := fun l hl => by
  rcases List.mem_cons.1 hl with h1 | h1
  · rw [h1]; exact h
  · rw [List.mem_singleton] at h1
    rw [h1]; exact g
theorem stack2_at {w : World} {A B : Option Addr} {c d g : Nat} {xs bs : List Ent} (hc : xs.length ≤ c) (hd : bs.length ≤ d) (hA : EntsAt w A xs) (hB : EntsAt w B bs) (h0 : w.cell? ⟨g, 0, none⟩ = some (.slice A xs.length c)) (h1 : w.cell? ⟨g, 1, none⟩ = some (.slice B bs.length d)) (hg : g < w.heap.size) : StackAt w (some ⟨g, 0, none⟩) [xs, bs] := fun _ => by
  refine ⟨g, 0, rfl, hg, fun i hi => ?_⟩
  have hi2 : i < 2 := hi
  match i, hi2 with
  | 0, _ => exact ⟨A, c, h0, hc, hA⟩
  | 1, _ => exact ⟨B, d, h1, hd, hB⟩
theorem flatLU_fit (sl : List (List Ent)) : EFit (flatL sl) := by
  unfold flatL
  split
  · rename_i h
    unfold chkE
    split
    · exact flatR_fit h
    · exact ⟨Nat.zero_le _, fun _ h => absurd h (Nat.not_lt_zero _)⟩
  · exact ⟨Nat.zero_le _, fun _ h => absurd h (Nat.not_lt_zero _)⟩
theorem flatRU_ops (sl : List (List Ent)) : flatE (flatR sl) = true := by
  unfold flatE flatR
  rw [List.all_eq_true]
  intro e he
  obtain ⟨x, _, hx⟩ := List.mem_filterMap.1 he
  unfold flatOne at hx
  obtain ⟨v, _, rfl⟩ := Option.map_eq_some_iff.1 hx
  rfl
theorem vstackU_two (a b : List Ent) : vstack [a, b] = (vlayer a && vlayer b) := by simp [vstack]
theorem undo_no1 {xs bs : List Ent} (h : vlayer xs = false) : undoL xs bs = [] ∧ undoB xs bs = false := by
  have h1 : flatB [xs, bs] = false := by unfold flatB; rw [vstackU_two, h]; rfl
  unfold undoL undoB
  rw [h1]
  exact ⟨if_neg (by simp), rfl⟩
theorem undo_no2 {xs bs : List Ent} (h : vflat bs = false) : undoL xs bs = [] ∧ undoB xs bs = false := by
  unfold undoL undoB
  rw [(patchL_no2 h).1, (patchL_no2 h).2]
  exact ⟨by split <;> rfl, by simp⟩
theorem undo_no3 {xs bs : List Ent} (h : vlayer (flatR [xs, bs]) = false) : undoL xs bs = [] ∧ undoB xs bs = false := by
  have h1 : flatB [xs, bs] = false := by unfold flatB; rw [h]; simp
  unfold undoL undoB
  rw [h1]
  exact ⟨if_neg (by simp), rfl⟩
theorem undo_yes {xs bs : List Ent} (h1 : vlayer xs = true) (h2 : vflat bs = true) (h3 : vlayer (flatR [xs, bs]) = true) :
    vflat (flatR [xs, bs]) = true ∧ undoL xs bs = chkE (patchR (flatR [xs, bs]) bs) ∧ undoB xs bs = vlayer (patchR (flatR [xs, bs]) bs) := by
  have hs : vstack [xs, bs] = true := by rw [vstackU_two, h1, vflat_vlayer h2]; rfl
  have hB : flatB [xs, bs] = true := by unfold flatB; rw [hs, h3]; rfl
  have hL : flatL [xs, bs] = flatR [xs, bs] := by
    rw [(flatL_yes hs).1]
    unfold chkE
    rw [if_pos h3]
  have hF : vflat (flatR [xs, bs]) = true := by unfold vflat; rw [flatRU_ops, h3]; rfl
  refine ⟨hF, ?_, ?_⟩
  · unfold undoL
    rw [if_pos hB, hL, (patchL_yes hF h2).1]
  · unfold undoB
    rw [hB, hL, (patchL_yes hF h2).2]
    rfl
theorem implPatU_own (v : Value) (b : Nat) (N : List Ent) (B : Option Addr) (d : Nat) (bs : List Ent) (w : World) (hd : bs.length ≤ d) (hfN : EFit N) (h : OwnE w b v N) (hg : EFit bs) (hB : EntsAt w B bs) :
    Calls Tryd.prog 40 #[.agg #[v], .agg #[.slice B bs.length d]] w (ResEB (patchL N bs) (patchB N bs) w) := by
  obtain ⟨A', c', rfl, hc', hE⟩ := h.formC
  exact implPat_any A' c' N B d bs w hc' hd hfN hE hg hB
theorem specLayerU_own (v : Value) (b : Nat) (N : List Ent) (w : World) (hfN : EFit N) (h : OwnE w b v N) :
    Calls Tryd.prog 33 #[.agg #[v]] w fun e w' => e = .returned (.bool (vlayer N)) ∧ Grows w w' := by
  obtain ⟨A', c', rfl, hc', hE⟩ := h.formC
  exact specLayer_any A' c' N w hc' hfN hE
theorem specPatchU_own (v : Value) (b : Nat) (N : List Ent) (B : Option Addr) (d : Nat) (bs : List Ent) (w : World) (g1 : vflat N = true) (g2 : vflat bs = true) (h : OwnE w b v N) (hB : EntsAt w B bs) :
    Calls Tryd.prog 43 #[.agg #[v], .agg #[.slice B bs.length d]] w (ResE (patchR N bs) w) := by
  obtain ⟨A', c', rfl, _, hE⟩ := h.formC
  exact specPatch_any A' c' N B d bs w g1 g2 hE hB

set_option maxRecDepth 100000 in
set_option maxHeartbeats 8000000 in
theorem implUnd_any (A : Option Addr) (c : Nat) (xs : List Ent) (B : Option Addr) (d : Nat) (bs : List Ent) (w : World) (hc0 : xs.length ≤ c) (hd0 : bs.length ≤ d) (hf : EFit xs) (hA : EntsAt w A xs) (hg : EFit bs) (hB : EntsAt w B bs) :
    Calls Tryd.prog 17 #[.agg #[.slice A xs.length c], .agg #[.slice B bs.length d]] w (ResEB (undoL xs bs) (undoB xs bs) w) := by
  have HFL := Lib.hid (fun (g : Nat) w1 (gr : Grows w w1) (h0 : w1.cell? ⟨g, 0, none⟩ = some (.slice A xs.length c)) (h1 : w1.cell? ⟨g, 1, none⟩ = some (.slice B bs.length d)) (hgl : g < w1.heap.size) => implFlatten_any (some ⟨g, 0, none⟩) 2 [xs, bs] w1 (by simp) (fitU_two hf hg) (stack2_at hc0 hd0 (hA.keep gr) (hB.keep gr) h0 h1 hgl))
  have HU0 := Lib.hid (show undoL xs bs = (if flatB [xs, bs] = true then patchL (flatL [xs, bs]) bs else []) ∧ undoB xs bs = (flatB [xs, bs] && patchB (flatL [xs, bs]) bs) from ⟨rfl, rfl⟩)
  have hfN := flatLU_fit [xs, bs]
  obtain ⟨N, hN⟩ : ∃ N, flatL [xs, bs] = N := ⟨_, rfl⟩
  obtain ⟨γ, hγ⟩ : ∃ γ, flatB [xs, bs] = γ := ⟨_, rfl⟩
  rw [hN] at hfN HU0 HFL
  rw [hγ] at HU0 HFL
  have HPT := Lib.hid (fun (v : Value) (b : Nat) (w1 : World) (gr : Grows w w1) (h : OwnE w1 b v N) => implPatU_own v b N B d bs w1 hd0 hfN h hg (hB.keep gr))
  unfold ResEB at HFL HPT
  clear hA hB hf hg hc0 hd0 hN hγ hfN
  obtain ⟨m, hmm⟩ : ∃ m, xs.length = m := ⟨_, rfl⟩
  obtain ⟨n, hnn⟩ : ∃ n, bs.length = n := ⟨_, rfl⟩
  rw [hmm] at HFL ⊢
  rw [hnn] at HFL HPT ⊢
  clear hmm hnn
  go_enter Tryd.func17, Tryd.ntmps17
  go_upto_region 1 with (fail)
  have XA : Hid (Box (((w.alloc (.cells #[.slice A m c] 27)).alloc (.cells #[.slice B n d] 27)).alloc (.cells #[.slice none 0 0] 27)) w.heap.size (.slice A m c) 27) := row_grow (row_grow (heap_alloc_new w _) ((Grows.refl _).alloc _)) ((Grows.refl _).alloc _)
  have XB : Hid (Box (((w.alloc (.cells #[.slice A m c] 27)).alloc (.cells #[.slice B n d] 27)).alloc (.cells #[.slice none 0 0] 27)) (w.heap.size + 1) (.slice B n d) 27) := row_grow (alloc_new2 w _ _) ((Grows.refl _).alloc _)
  have XR : Hid (Box (((w.alloc (.cells #[.slice A m c] 27)).alloc (.cells #[.slice B n d] 27)).alloc (.cells #[.slice none 0 0] 27)) (w.heap.size + 1 + 1) (.slice none 0 0) 27) := alloc_new3 w _ _ _
  have G0 : Hid (Grows w (((w.alloc (.cells #[.slice A m c] 27)).alloc (.cells #[.slice B n d] 27)).alloc (.cells #[.slice none 0 0] 27))) := (((Grows.refl w).alloc _).alloc _).alloc _
  obtain ⟨w0, hw0⟩ : ∃ w0, ((w.alloc (.cells #[.slice A m c] 27)).alloc (.cells #[.slice B n d] 27)).alloc (.cells #[.slice none 0 0] 27) = w0 := ⟨_, rfl⟩
  rw [hw0] at XA XB XR G0 ⊢
  clear hw0
  have S0 : w.heap.size + 1 + 1 < w0.heap.size := XR.out.lt
  have cA := XA.out.cell
  have cB := XB.out.cell
  go_wp2_with fail
  refine (HFL.out w0.heap.size _ (G0.out.alloc _) (by simp) (by simp) (by simp)).mono ?_
  rintro e w1 ⟨v, rfl, hv, g1'⟩
  have g1 : Grows w0 w1 := ((Grows.refl w0).alloc _).trans g1'
  have XB1 := Lib.hid (XB.out.keep g1)
  have XR1 := Lib.hid (XR.out.keep g1)
  have G1 : Hid (Grows w w1) := G0.out.trans g1
  have HV := Lib.hid hv
  obtain ⟨A5, n5, c5, rfl⟩ := hv.form3
  clear g1 g1' hv cA cB XA XB XR HFL
  go_upto_region 2 with (fail)
  have X6 : Hid (Box (w1.alloc (.cells #[.slice A5 n5 c5] 27)) w1.heap.size (.slice A5 n5 c5) 27) := heap_alloc_new w1 _
  have XB2 := Lib.hid (XB1.out.keep ((Grows.refl w1).alloc (.cells #[.slice A5 n5 c5] 27)))
  have XR2 := Lib.hid (XR1.out.keep ((Grows.refl w1).alloc (.cells #[.slice A5 n5 c5] 27)))
  have HV2 := Lib.hid (HV.out.keep ((Grows.refl w1).alloc (.cells #[.slice A5 n5 c5] 27)))
  have G2 : Hid (Grows w (w1.alloc (.cells #[.slice A5 n5 c5] 27))) := G1.out.alloc _
  obtain ⟨w2, hw2⟩ : ∃ w2, w1.alloc (.cells #[.slice A5 n5 c5] 27) = w2 := ⟨_, rfl⟩
  rw [hw2] at X6 XB2 XR2 HV2 G2 ⊢
  clear hw2 XB1 XR1 HV
  rcases γ with _ | _
  · have HU : Hid (undoL xs bs = [] ∧ undoB xs bs = false) := ⟨by rw [HU0.out.1]; simp, by rw [HU0.out.2]; rfl⟩
    have h1 := XR2.out.cell
    have h2 := XR2.out.free
    go_wp2
    refine bodyPost_ret (v := .tuple #[.agg #[.slice none 0 0], .bool false]) (by simp [results, Tryd.results17, go_sem, h1]) rfl ?_
    rw [HU.out.1, HU.out.2]
    exact ⟨_, rfl, OwnE.nil _ _, G2.out.setCell (show w.heap.size ≤ w.heap.size + 1 + 1 by omega) _⟩
  · have HU : Hid (undoL xs bs = patchL N bs ∧ undoB xs bs = patchB N bs) := ⟨by rw [HU0.out.1]; simp, by rw [HU0.out.2]; rfl⟩
    have c6 := X6.out.cell
    have cB := XB2.out.cell
    go_wp2_with fail
    refine (HPT.out _ _ _ G2.out HV2.out).mono ?_
    rintro r w5 ⟨u, rfl, hu, g5⟩
    have XR5 := Lib.hid (XR2.out.keep g5)
    have G5 : Hid (Grows w w5) := G2.out.trans g5
    have S5 : w.heap.size + 1 + 1 < w2.heap.size := XR2.out.lt
    obtain ⟨A7, n7, c7, rfl⟩ := hu.form3
    have HO5 := Lib.hid hu
    clear g5 hu c6 cB
    obtain ⟨β, hβ⟩ : ∃ β, patchB N bs = β := ⟨_, rfl⟩
    rw [hβ] at HU ⊢
    clear hβ
    have h1 := XR5.out.cell
    have h2 := XR5.out.free
    go_wp2
    refine bodyPost_ret (v := .tuple #[.agg #[.slice A7 n7 c7], .bool β]) (by simp [results, Tryd.results17, go_sem, h1]) rfl ?_
    rw [HU.out.1, HU.out.2]
    exact ⟨_, rfl, (HO5.out.setOther (by omega) _).less (by omega), G5.out.setCell (show w.heap.size ≤ w.heap.size + 1 + 1 by omega) _⟩

set_option maxRecDepth 100000 in
set_option maxHeartbeats 8000000 in
theorem specUnd_any (A : Option Addr) (c : Nat) (xs : List Ent) (B : Option Addr) (d : Nat) (bs : List Ent) (w : World) (hc0 : xs.length ≤ c) (hd0 : bs.length ≤ d) (hf : EFit xs) (hA : EntsAt w A xs) (hg : EFit bs) (hB : EntsAt w B bs) :
    Calls Tryd.prog 18 #[.agg #[.slice A xs.length c], .agg #[.slice B bs.length d]] w (ResEB (undoL xs bs) (undoB xs bs) w) := by
  have HI := Lib.hid (fun w1 (g : Grows w w1) => specLayer_any A c xs w1 hc0 hf (hA.keep g))
  have HJ := Lib.hid (fun w1 (g : Grows w w1) => specFlat0_any B d bs w1 hd0 hg (hB.keep g))
  by_cases hv : vlayer xs = true
  · by_cases hu : vflat bs = true
    · have hs : vstack [xs, bs] = true := by rw [vstackU_two, hv, vflat_vlayer hu]; rfl
      have HFN := Lib.hid (fun (g : Nat) w1 (gr : Grows w w1) (h0 : w1.cell? ⟨g, 0, none⟩ = some (.slice A xs.length c)) (h1 : w1.cell? ⟨g, 1, none⟩ = some (.slice B bs.length d)) (hgl : g < w1.heap.size) => specFlattened_any (some ⟨g, 0, none⟩) 2 [xs, bs] w1 hs (stack2_at hc0 hd0 (hA.keep gr) (hB.keep gr) h0 h1 hgl))
      have hfR := flatR_fit hs
      have HUY := Lib.hid (fun h3 => undo_yes (xs := xs) (bs := bs) hv hu h3)
      have HUN := Lib.hid (fun h3 => undo_no3 (xs := xs) (bs := bs) h3)
      obtain ⟨N, hN⟩ : ∃ N, flatR [xs, bs] = N := ⟨_, rfl⟩
      rw [hN] at hfR HUY HUN HFN
      have HLN := Lib.hid (fun (v : Value) (b : Nat) (w1 : World) (h : OwnE w1 b v N) => specLayerU_own v b N w1 hfR h)
      have HPA := Lib.hid (fun (v : Value) (b : Nat) (w1 : World) (gr : Grows w w1) (hvN : vflat N = true) (h : OwnE w1 b v N) => specPatchU_own v b N B d bs w1 hvN hu h (hB.keep gr))
      have HPF := Lib.hid (fun hvN => patchR_fit (vflat_vlayer (xs := N) hvN) (vflat_vlayer hu))
      rw [hv] at HI
      rw [hu] at HJ
      unfold ResE at HFN HPA
      clear hA hB hf hg hc0 hd0 hN hs hv hu hfR
      obtain ⟨m, hmm⟩ : ∃ m, xs.length = m := ⟨_, rfl⟩
      obtain ⟨n, hnn⟩ : ∃ n, bs.length = n := ⟨_, rfl⟩
      rw [hmm] at HI HFN ⊢
      rw [hnn] at HJ HFN HPA ⊢
      clear hmm hnn
      go_enter Tryd.func18, Tryd.ntmps18
      go_upto_region 1 with (fail)
      have XA : Hid (Box (((w.alloc (.cells #[.slice A m c] 27)).alloc (.cells #[.slice B n d] 27)).alloc (.cells #[.slice none 0 0] 27)) w.heap.size (.slice A m c) 27) := row_grow (row_grow (heap_alloc_new w _) ((Grows.refl _).alloc _)) ((Grows.refl _).alloc _)
      have XB : Hid (Box (((w.alloc (.cells #[.slice A m c] 27)).alloc (.cells #[.slice B n d] 27)).alloc (.cells #[.slice none 0 0] 27)) (w.heap.size + 1) (.slice B n d) 27) := row_grow (alloc_new2 w _ _) ((Grows.refl _).alloc _)
      have XR : Hid (Box (((w.alloc (.cells #[.slice A m c] 27)).alloc (.cells #[.slice B n d] 27)).alloc (.cells #[.slice none 0 0] 27)) (w.heap.size + 1 + 1) (.slice none 0 0) 27) := alloc_new3 w _ _ _
      have G0 : Hid (Grows w (((w.alloc (.cells #[.slice A m c] 27)).alloc (.cells #[.slice B n d] 27)).alloc (.cells #[.slice none 0 0] 27))) := (((Grows.refl w).alloc _).alloc _).alloc _
      obtain ⟨w0, hw0⟩ : ∃ w0, ((w.alloc (.cells #[.slice A m c] 27)).alloc (.cells #[.slice B n d] 27)).alloc (.cells #[.slice none 0 0] 27) = w0 := ⟨_, rfl⟩
      rw [hw0] at XA XB XR G0 ⊢
      clear hw0
      have S0 : w.heap.size + 1 + 1 < w0.heap.size := XR.out.lt
      have cA := XA.out.cell
      go_wp2_with fail
      refine (HI.out _ G0.out).mono ?_
      rintro e w1 ⟨rfl, g1⟩
      have G1 : Hid (Grows w w1) := G0.out.trans g1
      have XA1 := Lib.hid (XA.out.keep g1)
      have XB1 := Lib.hid (XB.out.keep g1)
      have XR1 := Lib.hid (XR.out.keep g1)
      clear g1 cA XA XB XR
      have cB := XB1.out.cell
      go_wp2_with fail
      refine (HJ.out _ G1.out).mono ?_
      rintro e w2 ⟨rfl, g2⟩
      have G2 : Hid (Grows w w2) := G1.out.trans g2
      have XA2 := Lib.hid (XA1.out.keep g2)
      have XB2 := Lib.hid (XB1.out.keep g2)
      have XR2 := Lib.hid (XR1.out.keep g2)
      clear g2 cB XA1 XB1 XR1 HI HJ
      have cA := XA2.out.cell
      have cB := XB2.out.cell
      go_wp2_with fail
      refine (HFN.out w2.heap.size _ (G2.out.alloc _) (by simp) (by simp) (by simp)).mono ?_
      rintro e w3 ⟨v, rfl, hvv, g3'⟩
      have g3 : Grows w2 w3 := ((Grows.refl w2).alloc _).trans g3'
      have G3 : Hid (Grows w w3) := G2.out.trans g3
      have XB3 := Lib.hid (XB2.out.keep g3)
      have XR3 := Lib.hid (XR2.out.keep g3)
      have HV := Lib.hid hvv
      obtain ⟨A5, n5, c5, rfl⟩ := hvv.form3
      clear g3 g3' hvv cA cB XA2 XB2 XR2 HFN
      go_upto_region 4 with (fail)
      have X6 : Hid (Box (w3.alloc (.cells #[.slice A5 n5 c5] 27)) w3.heap.size (.slice A5 n5 c5) 27) := heap_alloc_new w3 _
      have XB4 := Lib.hid (XB3.out.keep ((Grows.refl w3).alloc (.cells #[.slice A5 n5 c5] 27)))
      have XR4 := Lib.hid (XR3.out.keep ((Grows.refl w3).alloc (.cells #[.slice A5 n5 c5] 27)))
      have HV4 := Lib.hid (HV.out.keep ((Grows.refl w3).alloc (.cells #[.slice A5 n5 c5] 27)))
      have G4 : Hid (Grows w (w3.alloc (.cells #[.slice A5 n5 c5] 27))) := G3.out.alloc _
      obtain ⟨w4, hw4⟩ : ∃ w4, w3.alloc (.cells #[.slice A5 n5 c5] 27) = w4 := ⟨_, rfl⟩
      rw [hw4] at X6 XB4 XR4 HV4 G4 ⊢
      clear hw4 XB3 XR3 HV
      have c6 := X6.out.cell
      go_wp2_with fail
      refine (HLN.out _ _ _ HV4.out).mono ?_
      rintro e w5 ⟨rfl, g5⟩
      have G5 : Hid (Grows w w5) := G4.out.trans g5
      have X65 := Lib.hid (X6.out.keep g5)
      have XB5 := Lib.hid (XB4.out.keep g5)
      have XR5 := Lib.hid (XR4.out.keep g5)
      have HV5 := Lib.hid (HV4.out.keep g5)
      have S5 : w.heap.size + 1 + 1 < w5.heap.size := XR5.out.lt
      clear g5 c6 X6 XB4 XR4 HV4
      by_cases h3 : vlayer N = true
      · obtain ⟨hvN, hU1, hU2⟩ := HUY.out h3
        have HU : Hid (undoL xs bs = chkE (patchR N bs) ∧ undoB xs bs = vlayer (patchR N bs)) := ⟨hU1, hU2⟩
        have HPN := Lib.hid (fun v b w1 gr h => HPA.out v b w1 gr hvN h)
        have hfP := HPF.out hvN
        rw [h3]
        clear h3 hvN hU1 hU2
        have c6 := X65.out.cell
        have cB := XB5.out.cell
        go_wp2_with fail
        refine (HPN.out _ _ _ G5.out HV5.out).mono ?_
        rintro e w6 ⟨u, rfl, hu6, g6⟩
        have G6 : Hid (Grows w w6) := G5.out.trans g6
        have XR6 := Lib.hid (XR5.out.keep g6)
        have HCK := Lib.hid (checkedLayer_any u _ (patchR N bs) w6 hfP hu6)
        obtain ⟨A7, n7, c7, rfl⟩ := hu6.form3
        unfold ChkRetE at HCK
        have S6 : w5.heap.size ≤ w6.heap.size := g6.size
        clear g6 hu6 c6 cB hfP
        have hfd : ∀ (W : World), (Instr.field 27 (.agg #[.slice A7 n7 c7]) 0).run Tryd.prog W = .ok (.slice A7 n7 c7) W := fun _ => by kernel_rfl
        go_wp2_with fail
        refine (HCK.out).mono ?_
        rintro r w9 ⟨u9, rfl, hu9, g9⟩
        have XR9 := Lib.hid (XR6.out.keep g9)
        have G9 : Hid (Grows w w9) := G6.out.trans g9
        obtain ⟨A8, n8, c8, rfl⟩ := hu9.form3
        have HO9 := Lib.hid hu9
        clear g9 hu9
        obtain ⟨β, hβ⟩ : ∃ β, vlayer (patchR N bs) = β := ⟨_, rfl⟩
        rw [hβ] at HU ⊢
        clear hβ
        have h1 := XR9.out.cell
        have h2 := XR9.out.free
        go_wp2
        refine bodyPost_ret (v := .tuple #[.agg #[.slice A8 n8 c8], .bool β]) (by simp [results, Tryd.results18, go_sem, h1]) rfl ?_
        rw [HU.out.1, HU.out.2]
        exact ⟨_, rfl, (HO9.out.setOther (by omega) _).less (by omega), G9.out.setCell (show w.heap.size ≤ w.heap.size + 1 + 1 by omega) _⟩
      · have h3' : vlayer N = false := by simpa using h3
        have HU := Lib.hid (HUN.out h3')
        rw [h3']
        clear h3 h3'
        have h1 := XR5.out.cell
        have h2 := XR5.out.free
        go_wp2
        refine bodyPost_ret (v := .tuple #[.agg #[.slice none 0 0], .bool false]) (by simp [results, Tryd.results18, go_sem, h1]) rfl ?_
        rw [HU.out.1, HU.out.2]
        exact ⟨_, rfl, OwnE.nil _ _, G5.out.setCell (show w.heap.size ≤ w.heap.size + 1 + 1 by omega) _⟩
    · have hu' : vflat bs = false := by simpa using hu
      have HU := Lib.hid (undo_no2 (xs := xs) hu')
      rw [hv] at HI
      rw [hu'] at HJ
      clear hA hB hf hg hc0 hd0 hv hu hu'
      obtain ⟨m, hmm⟩ : ∃ m, xs.length = m := ⟨_, rfl⟩
      obtain ⟨n, hnn⟩ : ∃ n, bs.length = n := ⟨_, rfl⟩
      rw [hmm] at HI ⊢
      rw [hnn] at HJ ⊢
      clear hmm hnn
      go_enter Tryd.func18, Tryd.ntmps18
      go_upto_region 1 with (fail)
      have XA : Hid (Box (((w.alloc (.cells #[.slice A m c] 27)).alloc (.cells #[.slice B n d] 27)).alloc (.cells #[.slice none 0 0] 27)) w.heap.size (.slice A m c) 27) := row_grow (row_grow (heap_alloc_new w _) ((Grows.refl _).alloc _)) ((Grows.refl _).alloc _)
      have XB : Hid (Box (((w.alloc (.cells #[.slice A m c] 27)).alloc (.cells #[.slice B n d] 27)).alloc (.cells #[.slice none 0 0] 27)) (w.heap.size + 1) (.slice B n d) 27) := row_grow (alloc_new2 w _ _) ((Grows.refl _).alloc _)
      have XR : Hid (Box (((w.alloc (.cells #[.slice A m c] 27)).alloc (.cells #[.slice B n d] 27)).alloc (.cells #[.slice none 0 0] 27)) (w.heap.size + 1 + 1) (.slice none 0 0) 27) := alloc_new3 w _ _ _
      have G0 : Hid (Grows w (((w.alloc (.cells #[.slice A m c] 27)).alloc (.cells #[.slice B n d] 27)).alloc (.cells #[.slice none 0 0] 27))) := (((Grows.refl w).alloc _).alloc _).alloc _
      obtain ⟨w0, hw0⟩ : ∃ w0, ((w.alloc (.cells #[.slice A m c] 27)).alloc (.cells #[.slice B n d] 27)).alloc (.cells #[.slice none 0 0] 27) = w0 := ⟨_, rfl⟩
      rw [hw0] at XA XB XR G0 ⊢
      clear hw0
      have S0 : w.heap.size + 1 + 1 < w0.heap.size := XR.out.lt
      have cA := XA.out.cell
      go_wp2_with fail
      refine (HI.out _ G0.out).mono ?_
      rintro e w1 ⟨rfl, g1⟩
      have G1 : Hid (Grows w w1) := G0.out.trans g1
      have XB1 := Lib.hid (XB.out.keep g1)
      have XR1 := Lib.hid (XR.out.keep g1)
      clear g1 cA XA XB XR
      have cB := XB1.out.cell
      go_wp2_with fail
      refine (HJ.out _ G1.out).mono ?_
      rintro e w2 ⟨rfl, g2⟩
      have G2 : Hid (Grows w w2) := G1.out.trans g2
      have XR2 := Lib.hid (XR1.out.keep g2)
      clear g2 cB XB1 XR1
      have h1 := XR2.out.cell
      have h2 := XR2.out.free
      go_wp2
      refine bodyPost_ret (v := .tuple #[.agg #[.slice none 0 0], .bool false]) (by simp [results, Tryd.results18, go_sem, h1]) rfl ?_
      rw [HU.out.1, HU.out.2]
      exact ⟨_, rfl, OwnE.nil _ _, G2.out.setCell (show w.heap.size ≤ w.heap.size + 1 + 1 by omega) _⟩
  · have hv' : vlayer xs = false := by simpa using hv
    have HU := Lib.hid (undo_no1 (bs := bs) hv')
    rw [hv'] at HI
    clear hA hB hf hg hc0 hd0 hv hv' HJ
    obtain ⟨m, hmm⟩ : ∃ m, xs.length = m := ⟨_, rfl⟩
    obtain ⟨n, hnn⟩ : ∃ n, bs.length = n := ⟨_, rfl⟩
    rw [hmm] at HI ⊢
    rw [hnn]
    clear hmm hnn
    go_enter Tryd.func18, Tryd.ntmps18
    go_upto_region 1 with (fail)
    have XA : Hid (Box (((w.alloc (.cells #[.slice A m c] 27)).alloc (.cells #[.slice B n d] 27)).alloc (.cells #[.slice none 0 0] 27)) w.heap.size (.slice A m c) 27) := row_grow (row_grow (heap_alloc_new w _) ((Grows.refl _).alloc _)) ((Grows.refl _).alloc _)
    have XB : Hid (Box (((w.alloc (.cells #[.slice A m c] 27)).alloc (.cells #[.slice B n d] 27)).alloc (.cells #[.slice none 0 0] 27)) (w.heap.size + 1) (.slice B n d) 27) := row_grow (alloc_new2 w _ _) ((Grows.refl _).alloc _)
    have XR : Hid (Box (((w.alloc (.cells #[.slice A m c] 27)).alloc (.cells #[.slice B n d] 27)).alloc (.cells #[.slice none 0 0] 27)) (w.heap.size + 1 + 1) (.slice none 0 0) 27) := alloc_new3 w _ _ _
    have G0 : Hid (Grows w (((w.alloc (.cells #[.slice A m c] 27)).alloc (.cells #[.slice B n d] 27)).alloc (.cells #[.slice none 0 0] 27))) := (((Grows.refl w).alloc _).alloc _).alloc _
    obtain ⟨w0, hw0⟩ : ∃ w0, ((w.alloc (.cells #[.slice A m c] 27)).alloc (.cells #[.slice B n d] 27)).alloc (.cells #[.slice none 0 0] 27) = w0 := ⟨_, rfl⟩
    rw [hw0] at XA XB XR G0 ⊢
    clear hw0
    have S0 : w.heap.size + 1 + 1 < w0.heap.size := XR.out.lt
    have cA := XA.out.cell
    go_wp2_with fail
    refine (HI.out _ G0.out).mono ?_
    rintro e w1 ⟨rfl, g1⟩
    have G1 : Hid (Grows w w1) := G0.out.trans g1
    have XR1 := Lib.hid (XR.out.keep g1)
    clear g1 cA XA XB XR
    have h1 := XR1.out.cell
    have h2 := XR1.out.free
    go_wp2
    refine bodyPost_ret (v := .tuple #[.agg #[.slice none 0 0], .bool false]) (by simp [results, Tryd.results18, go_sem, h1]) rfl ?_
    rw [HU.out.1, HU.out.2]
    exact ⟨_, rfl, OwnE.nil _ _, G1.out.setCell (show w.heap.size ≤ w.heap.size + 1 + 1 by omega) _⟩
end Go.Proofs.YtoicohheoddfjaaDoor
