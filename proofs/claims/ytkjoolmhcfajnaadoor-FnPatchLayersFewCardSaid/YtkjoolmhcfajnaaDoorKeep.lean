/-
  The entries of a valid layer that a function keeps: keepEntries of the program, and SectionOf of both sides. Conditions: parts of at most 1048576 bytes.
-/
import Derived.Test.YtkjoolmhcfajnaaDoorTidyQ
import Derived.Test.YtkjoolmhcfajnaaDoorLawVL
namespace Go.Proofs.YtkjoolmhcfajnaaDoor
open Go.RowKit

set_option maxRecDepth 100000 in
set_option maxHeartbeats 4000000 in
theorem keepEntries_cut (cap : Value) (p : Ent → Bool) (A : Option Addr) (c : Nat) (es : List Ent) (w : World) (hf : EFit es) (hA : EntsAt w A es)
    (hp : vlayer es = true → ∀ e ∈ es, ∀ w1, Grows w w1 → Calls Tryd.prog 21 #[e.agg, cap] w1 fun r w' => r = .returned (.bool (p e)) ∧ Grows w1 w') :
    Calls Tryd.prog 20 #[.agg #[.slice A es.length c], .func (.func 21) #[] #[cap]] w (ResE (keepE es p) w) := by
  have hn := hf.1
  have HI := Lib.hid (fun w1 (g : Grows w w1) => implLayer_any A c es w1 hf (hA.keep g))
  have HA := Lib.hid hA
  by_cases hv : vlayer es = true
  · have HP := Lib.hid (hp hv)
    have HT : Hid (keepE es p = es.filter p) := keepE_yes hv
    rw [hv] at HI
    have h20 := vlayer_20 hv
    clear hA hf hp hv
    obtain ⟨n, hnn⟩ : ∃ n, es.length = n := ⟨_, rfl⟩
    rw [hnn] at hn HI h20
    rw [hnn]
    have HN := Lib.hid hnn
    clear hnn
    go_enter Tryd.func20, Tryd.ntmps20
    go_wp2_with fail
    refine (HI.out _ (((Grows.refl _).alloc _).alloc _)).mono ?_
    rintro e w1 ⟨rfl, g1⟩
    have HG0 : Hid (Grows ((w.alloc (lbox A n c)).alloc (.cells #[.slice none 0 0] 25)) w1) := g1
    have HG1 : Hid (Grows w w1) := (((Grows.refl _).alloc _).alloc _).trans g1
    have hs1 : w.heap.size + 1 < w1.heap.size := Nat.lt_of_lt_of_le (by simp) g1.size
    have hb1 : w1.cell? ⟨w.heap.size, 0, none⟩ = some (.slice A n c) := (HG0.out.cell (p := ⟨w.heap.size, 0, none⟩) (by simp; omega)).trans (by simp [lbox])
    clear g1
    go_wp2_with fail
    go_loopw [5, 15] (fun v i wr => ∃ (k : Nat) (K : List Ent), k ≤ n ∧ i = .int .i64 k ∧ Hid (K = (es.take k).filter p) ∧ K.length ≤ k ∧ Hid (OwnE wr w1.heap.size v K) ∧ Hid (Grows w1 wr)) (fun _ i _ => n - (intOf i).toNat)
    case atStart => exact ⟨0, [], Nat.zero_le _, rfl, by unfold Hid; rfl, Nat.zero_le _, OwnE.nil _ _, Grows.refl _⟩
    case round =>
      obtain ⟨k, K, hk, rfl, HK, hKk, HO, HG⟩ := hrel
      by_cases hlt : k < n
      · obtain ⟨b, o, rfl, hb, hc⟩ := HA.out (by rw [HN.out]; omega)
        have hk2 : k < es.length := by rw [HN.out]; exact hlt
        obtain ⟨x, hx⟩ : ∃ x, es[k] = x := ⟨_, rfl⟩
        have hat := (hc k hk2).keep hb (HG1.out.trans HG.out)
        have hfs := filter_step (p := p) hk2
        rw [hx] at hat hfs
        obtain ⟨c0, c1, c2, c3⟩ := hat
        have HPX := Lib.hid (HP.out x (by rw [← hx]; exact List.getElem_mem hk2))
        have HF := Lib.hid hfs
        clear hx hc hfs
        unfold Ent.agg at HPX
        by_cases hpx : p x = true
        · have HS : Hid (K ++ [x] = (es.take (k + 1)).filter p) := by unfold Hid; rw [HF.out, HK.out, hpx]; rfl
          rw [hpx] at HPX
          clear hpx
          go_wp2_with fail
          refine (HPX.out _ ((HG1.out.trans HG.out).alloc _)).mono ?_
          rintro e w2 ⟨rfl, g2⟩
          have d0 : w2.cell? ⟨wr.heap.size, 0, none⟩ = some (.string x.s) := (g2.cell (p := ⟨wr.heap.size, 0, none⟩) (by simp)).trans (by simp)
          have d1 : w2.cell? ⟨wr.heap.size, 1, none⟩ = some (.string x.k) := (g2.cell (p := ⟨wr.heap.size, 1, none⟩) (by simp)).trans (by simp)
          have d2 : w2.cell? ⟨wr.heap.size, 2, none⟩ = some (.int .i64 x.op) := (g2.cell (p := ⟨wr.heap.size, 2, none⟩) (by simp)).trans (by simp)
          have d3 : w2.cell? ⟨wr.heap.size, 3, none⟩ = some (.string x.v) := (g2.cell (p := ⟨wr.heap.size, 3, none⟩) (by simp)).trans (by simp)
          have HG2 : Hid (Grows w1 w2) := (HG.out.alloc _).trans g2
          have HO2 := Lib.hid ((HO.out.keep ((Grows.refl _).alloc _)).keep g2)
          clear g2
          go_wp2_with (at_builtin; refine appEs rfl _ _ rfl w1.heap.size _ K rfl (HO2.out.keep ((Grows.refl _).alloc _)) ⟨w2.heap.size, 0, none⟩ 1 1 [x] rfl rfl (by omega) (one_newsE _ _ _ rfl) (by omega) (by omega) (Nat.le_trans HG2.out.size (by simp)) ?_)
          intro v' w6 HO6 HGB HNE
          have HG6 : Hid (Grows w1 w6) := (HG2.out.alloc _).mark HGB.out (fun k hk => (HO2.out.lt k hk).1)
          go_wp2
          go_roundw
          case rel => exact ⟨k + 1, K ++ [x], by omega, by go_num, HS, by simp; omega, HO6, HG6⟩
          case measure => simp [intOf]; omega
        · have hpx' : p x = false := by simpa using hpx
          have HS : Hid (K = (es.take (k + 1)).filter p) := by unfold Hid; rw [HF.out, HK.out, hpx']; simp
          rw [hpx'] at HPX
          clear hpx hpx'
          go_wp2_with fail
          refine (HPX.out _ ((HG1.out.trans HG.out).alloc _)).mono ?_
          rintro e w2 ⟨rfl, g2⟩
          have HG2 : Hid (Grows w1 w2) := (HG.out.alloc _).trans g2
          have HO2 := Lib.hid ((HO.out.keep ((Grows.refl _).alloc _)).keep g2)
          clear g2
          go_wp2
          go_roundw
          case rel => exact ⟨k + 1, K, by omega, by go_num, HS, by omega, HO2, HG2⟩
          case measure => simp [intOf]; omega
      · obtain rfl : k = n := by omega
        have h1 : wr.cell? ⟨w.heap.size + 1, 0, none⟩ = some (.slice none 0 0) := ((HG0.out.trans HG.out).cell (p := ⟨w.heap.size + 1, 0, none⟩) (by simp)).trans (by simp)
        have h2 : wr.frozen? ⟨w.heap.size + 1, 0, none⟩ = false := ((HG0.out.trans HG.out).frozen (p := ⟨w.heap.size + 1, 0, none⟩) (by simp)).trans (by simp)
        have HR : Hid (K = keepE es p) := by unfold Hid; rw [HT.out, HK.out, ← HN.out, List.take_length]
        obtain ⟨A', n', c', hv'⟩ := HO.out.form3
        subst hv'
        go_wp2
        refine bodyPost_ret (v := .agg #[.slice A' n' c']) (by simp [results, Tryd.results20, go_sem, h1]) rfl ?_
        rw [← HR.out]
        exact ⟨_, rfl, (HO.out.setOther (by omega) _).less HG1.out.size, (HG1.out.trans HG.out).setCell (by simp) _⟩
  · have hv' : vlayer es = false := by simpa using hv
    have HV : Hid (keepE es p = []) := keepE_no hv'
    rw [hv'] at HI
    clear hv hv' hA hf hp
    go_enter Tryd.func20, Tryd.ntmps20
    go_wp2_with fail
    refine (HI.out _ (((Grows.refl _).alloc _).alloc _)).mono ?_
    rintro e w1 ⟨rfl, g1⟩
    have HG1 : Hid (Grows w w1) := (((Grows.refl _).alloc _).alloc _).trans g1
    have h1 : w1.cell? ⟨w.heap.size + 1, 0, none⟩ = some (.slice none 0 0) := (g1.cell (p := ⟨w.heap.size + 1, 0, none⟩) (by simp)).trans (by simp)
    have h2 : w1.frozen? ⟨w.heap.size + 1, 0, none⟩ = false := (g1.frozen (p := ⟨w.heap.size + 1, 0, none⟩) (by simp)).trans (by simp)
    clear g1
    go_wp2
    refine bodyPost_ret (v := .agg #[.slice none 0 0]) (by simp [results, Tryd.results20, go_sem, h1]) rfl ?_
    rw [HV.out]
    exact ⟨_, rfl, OwnE.nil _ _, HG1.out.setCell (by simp) _⟩

set_option maxRecDepth 100000 in
set_option maxHeartbeats 4000000 in
theorem keepEntries_com (cap : Value) (p : Ent → Bool) (A : Option Addr) (c : Nat) (es : List Ent) (w : World) (hf : EFit es) (hA : EntsAt w A es)
    (hp : vlayer es = true → ∀ e ∈ es, ∀ w1, Grows w w1 → Calls Tryd.prog 38 #[e.agg, cap] w1 fun r w' => r = .returned (.bool (p e)) ∧ Grows w1 w') :
    Calls Tryd.prog 20 #[.agg #[.slice A es.length c], .func (.func 38) #[] #[cap]] w (ResE (keepE es p) w) := by
  have hn := hf.1
  have HI := Lib.hid (fun w1 (g : Grows w w1) => implLayer_any A c es w1 hf (hA.keep g))
  have HA := Lib.hid hA
  by_cases hv : vlayer es = true
  · have HP := Lib.hid (hp hv)
    have HT : Hid (keepE es p = es.filter p) := keepE_yes hv
    rw [hv] at HI
    have h20 := vlayer_20 hv
    clear hA hf hp hv
    obtain ⟨n, hnn⟩ : ∃ n, es.length = n := ⟨_, rfl⟩
    rw [hnn] at hn HI h20
    rw [hnn]
    have HN := Lib.hid hnn
    clear hnn
    go_enter Tryd.func20, Tryd.ntmps20
    go_wp2_with fail
    refine (HI.out _ (((Grows.refl _).alloc _).alloc _)).mono ?_
    rintro e w1 ⟨rfl, g1⟩
    have HG0 : Hid (Grows ((w.alloc (lbox A n c)).alloc (.cells #[.slice none 0 0] 25)) w1) := g1
    have HG1 : Hid (Grows w w1) := (((Grows.refl _).alloc _).alloc _).trans g1
    have hs1 : w.heap.size + 1 < w1.heap.size := Nat.lt_of_lt_of_le (by simp) g1.size
    have hb1 : w1.cell? ⟨w.heap.size, 0, none⟩ = some (.slice A n c) := (HG0.out.cell (p := ⟨w.heap.size, 0, none⟩) (by simp; omega)).trans (by simp [lbox])
    clear g1
    go_wp2_with fail
    go_loopw [5, 15] (fun v i wr => ∃ (k : Nat) (K : List Ent), k ≤ n ∧ i = .int .i64 k ∧ Hid (K = (es.take k).filter p) ∧ K.length ≤ k ∧ Hid (OwnE wr w1.heap.size v K) ∧ Hid (Grows w1 wr)) (fun _ i _ => n - (intOf i).toNat)
    case atStart => exact ⟨0, [], Nat.zero_le _, rfl, by unfold Hid; rfl, Nat.zero_le _, OwnE.nil _ _, Grows.refl _⟩
    case round =>
      obtain ⟨k, K, hk, rfl, HK, hKk, HO, HG⟩ := hrel
      by_cases hlt : k < n
      · obtain ⟨b, o, rfl, hb, hc⟩ := HA.out (by rw [HN.out]; omega)
        have hk2 : k < es.length := by rw [HN.out]; exact hlt
        obtain ⟨x, hx⟩ : ∃ x, es[k] = x := ⟨_, rfl⟩
        have hat := (hc k hk2).keep hb (HG1.out.trans HG.out)
        have hfs := filter_step (p := p) hk2
        rw [hx] at hat hfs
        obtain ⟨c0, c1, c2, c3⟩ := hat
        have HPX := Lib.hid (HP.out x (by rw [← hx]; exact List.getElem_mem hk2))
        have HF := Lib.hid hfs
        clear hx hc hfs
        unfold Ent.agg at HPX
        by_cases hpx : p x = true
        · have HS : Hid (K ++ [x] = (es.take (k + 1)).filter p) := by unfold Hid; rw [HF.out, HK.out, hpx]; rfl
          rw [hpx] at HPX
          clear hpx
          go_wp2_with fail
          refine (HPX.out _ ((HG1.out.trans HG.out).alloc _)).mono ?_
          rintro e w2 ⟨rfl, g2⟩
          have d0 : w2.cell? ⟨wr.heap.size, 0, none⟩ = some (.string x.s) := (g2.cell (p := ⟨wr.heap.size, 0, none⟩) (by simp)).trans (by simp)
          have d1 : w2.cell? ⟨wr.heap.size, 1, none⟩ = some (.string x.k) := (g2.cell (p := ⟨wr.heap.size, 1, none⟩) (by simp)).trans (by simp)
          have d2 : w2.cell? ⟨wr.heap.size, 2, none⟩ = some (.int .i64 x.op) := (g2.cell (p := ⟨wr.heap.size, 2, none⟩) (by simp)).trans (by simp)
          have d3 : w2.cell? ⟨wr.heap.size, 3, none⟩ = some (.string x.v) := (g2.cell (p := ⟨wr.heap.size, 3, none⟩) (by simp)).trans (by simp)
          have HG2 : Hid (Grows w1 w2) := (HG.out.alloc _).trans g2
          have HO2 := Lib.hid ((HO.out.keep ((Grows.refl _).alloc _)).keep g2)
          clear g2
          go_wp2_with (at_builtin; refine appEs rfl _ _ rfl w1.heap.size _ K rfl (HO2.out.keep ((Grows.refl _).alloc _)) ⟨w2.heap.size, 0, none⟩ 1 1 [x] rfl rfl (by omega) (one_newsE _ _ _ rfl) (by omega) (by omega) (Nat.le_trans HG2.out.size (by simp)) ?_)
          intro v' w6 HO6 HGB HNE
          have HG6 : Hid (Grows w1 w6) := (HG2.out.alloc _).mark HGB.out (fun k hk => (HO2.out.lt k hk).1)
          go_wp2
          go_roundw
          case rel => exact ⟨k + 1, K ++ [x], by omega, by go_num, HS, by simp; omega, HO6, HG6⟩
          case measure => simp [intOf]; omega
        · have hpx' : p x = false := by simpa using hpx
          have HS : Hid (K = (es.take (k + 1)).filter p) := by unfold Hid; rw [HF.out, HK.out, hpx']; simp
          rw [hpx'] at HPX
          clear hpx hpx'
          go_wp2_with fail
          refine (HPX.out _ ((HG1.out.trans HG.out).alloc _)).mono ?_
          rintro e w2 ⟨rfl, g2⟩
          have HG2 : Hid (Grows w1 w2) := (HG.out.alloc _).trans g2
          have HO2 := Lib.hid ((HO.out.keep ((Grows.refl _).alloc _)).keep g2)
          clear g2
          go_wp2
          go_roundw
          case rel => exact ⟨k + 1, K, by omega, by go_num, HS, by omega, HO2, HG2⟩
          case measure => simp [intOf]; omega
      · obtain rfl : k = n := by omega
        have h1 : wr.cell? ⟨w.heap.size + 1, 0, none⟩ = some (.slice none 0 0) := ((HG0.out.trans HG.out).cell (p := ⟨w.heap.size + 1, 0, none⟩) (by simp)).trans (by simp)
        have h2 : wr.frozen? ⟨w.heap.size + 1, 0, none⟩ = false := ((HG0.out.trans HG.out).frozen (p := ⟨w.heap.size + 1, 0, none⟩) (by simp)).trans (by simp)
        have HR : Hid (K = keepE es p) := by unfold Hid; rw [HT.out, HK.out, ← HN.out, List.take_length]
        obtain ⟨A', n', c', hv'⟩ := HO.out.form3
        subst hv'
        go_wp2
        refine bodyPost_ret (v := .agg #[.slice A' n' c']) (by simp [results, Tryd.results20, go_sem, h1]) rfl ?_
        rw [← HR.out]
        exact ⟨_, rfl, (HO.out.setOther (by omega) _).less HG1.out.size, (HG1.out.trans HG.out).setCell (by simp) _⟩
  · have hv' : vlayer es = false := by simpa using hv
    have HV : Hid (keepE es p = []) := keepE_no hv'
    rw [hv'] at HI
    clear hv hv' hA hf hp
    go_enter Tryd.func20, Tryd.ntmps20
    go_wp2_with fail
    refine (HI.out _ (((Grows.refl _).alloc _).alloc _)).mono ?_
    rintro e w1 ⟨rfl, g1⟩
    have HG1 : Hid (Grows w w1) := (((Grows.refl _).alloc _).alloc _).trans g1
    have h1 : w1.cell? ⟨w.heap.size + 1, 0, none⟩ = some (.slice none 0 0) := (g1.cell (p := ⟨w.heap.size + 1, 0, none⟩) (by simp)).trans (by simp)
    have h2 : w1.frozen? ⟨w.heap.size + 1, 0, none⟩ = false := (g1.frozen (p := ⟨w.heap.size + 1, 0, none⟩) (by simp)).trans (by simp)
    clear g1
    go_wp2
    refine bodyPost_ret (v := .agg #[.slice none 0 0]) (by simp [results, Tryd.results20, go_sem, h1]) rfl ?_
    rw [HV.out]
    exact ⟨_, rfl, OwnE.nil _ _, HG1.out.setCell (by simp) _⟩


end Go.Proofs.YtkjoolmhcfajnaaDoor
