/-
  What two layers have in common: CommonLayer of both sides. Conditions: parts of at most 1048576 bytes.
-/
import Derived.Test.YtkjoolmhcfajnaaDoorKeep
import Derived.Test.YtkjoolmhcfajnaaDoorCutE
namespace Go.Proofs.YtkjoolmhcfajnaaDoor
open Go.RowKit

theorem comE_no1 {xs bs : List Ent} (h : vlayer xs = false) : comE xs bs = [] := by
  unfold comE
  split
  · exact keepE_no h
  · rfl
theorem comE_no2 {xs bs : List Ent} (h : vlayer bs = false) : comE xs bs = [] := by unfold comE; rw [h]; simp
theorem comE_yes {xs bs : List Ent} (h1 : vlayer xs = true) (h2 : vlayer bs = true) : comE xs bs = xs.filter (inE bs) := by unfold comE; rw [h2, if_pos rfl, keepE_yes h1]

set_option maxRecDepth 100000 in
set_option maxHeartbeats 2000000 in
theorem comFn_any (e : Ent) (bs : List Ent) (b m : Nat) (w : World) (hs : e.s.size ≤ 1048576) (hk : e.k.size ≤ 1048576) (hd : distE bs = true) (he : vent e = true) (hc : w.cell? ⟨b, 0, none⟩ = some (.map (some m))) (hb : b < w.heap.size) (hM : MapE w m bs) :
    Calls Tryd.prog 38 #[e.agg, .pointer (some ⟨b, 0, none⟩)] w fun r w' => r = .returned (.bool (inE bs e)) ∧ Grows w w' := by
  have HP := Lib.hid (fun w => placeOf_any e w)
  have HV := Lib.hid (common_eq hd he)
  have HM := Lib.hid hM
  obtain ⟨y, hy⟩ : ∃ y, (lastE bs e.s e.k).getD Ent.zero = y := ⟨_, rfl⟩
  rw [hy] at HV
  have HQ := Lib.hid hy
  clear hM hd he hy
  unfold Ent.agg at HP ⊢
  go_enter Tryd.func38, Tryd.ntmps38
  go_wp2_with fail
  have e0 : (w.alloc (.cells #[.string e.s, .string e.k, .int .i64 e.op, .string e.v] 33)).cell? ⟨w.heap.size, 0, none⟩ = some (.string e.s) := by simp
  have e1 : (w.alloc (.cells #[.string e.s, .string e.k, .int .i64 e.op, .string e.v] 33)).cell? ⟨w.heap.size, 1, none⟩ = some (.string e.k) := by simp
  have e2 : (w.alloc (.cells #[.string e.s, .string e.k, .int .i64 e.op, .string e.v] 33)).cell? ⟨w.heap.size, 2, none⟩ = some (.int .i64 e.op) := by simp
  have e3 : (w.alloc (.cells #[.string e.s, .string e.k, .int .i64 e.op, .string e.v] 33)).cell? ⟨w.heap.size, 3, none⟩ = some (.string e.v) := by simp
  have g0 : (w.alloc (.cells #[.string e.s, .string e.k, .int .i64 e.op, .string e.v] 33)).cell? ⟨b, 0, none⟩ = some (.map (some m)) := (((Grows.refl w).alloc _).cell (p := ⟨b, 0, none⟩) hb).trans hc
  clear hc
  refine wp_region_M 5 (CellsAre [(⟨w.heap.size, 0, none⟩, .string e.s), (⟨w.heap.size, 1, none⟩, .string e.k), (⟨w.heap.size, 2, none⟩, .int .i64 e.op), (⟨w.heap.size, 3, none⟩, .string e.v), (⟨b, 0, none⟩, .map (some m))]) (by kernel_rfl) (by kernel_rfl) ⟨e0, e1, e2, e3, g0, trivial⟩ (fun hB hS => ?_)
  refine wpAnyM_take (i := 0) (v := ?va0) hB rfl (by kernel_rfl) (fun _ _ _ h => h) (by rfl) ?ya0 hS ?na0
  case ya0 => (intro w9 hSw; obtain ⟨s1, s2, s3, s4, s5, _⟩ := hSw; go_simp; try with_reducible rfl)
  refine wpAnyM_take (i := 1) (v := ?va1) hB rfl (by kernel_rfl) (fun _ _ _ h => h) (by rfl) ?ya1 hS ?na1
  case ya1 => (intro w9 hSw; obtain ⟨s1, s2, s3, s4, s5, _⟩ := hSw; go_simp; try with_reducible rfl)
  refine wpAnyM_take (i := 4) (v := ?va4) hB rfl (by kernel_rfl) (fun _ _ _ h => h) (by rfl) ?ya4 hS ?na4
  case ya4 => (intro w9 hSw; obtain ⟨s1, s2, s3, s4, s5, _⟩ := hSw; go_simp; try with_reducible rfl)
  clear e0 e1 e2 e3 g0
  have HS := Lib.hid hS
  clear hS
  refine wpAnyM_one (i := 2) rfl (by kernel_rfl) rfl ?_
  go_wp2_with fail
  refine (HP.out _).mono ?_
  rintro e9 w1 ⟨rfl, g1⟩
  have HG1 : Hid (Grows w w1) := ((((Grows.refl _).alloc _).drew)).trans g1
  have HM1 := Lib.hid (HM.out.keep HG1.out)
  have HS1 := Lib.hid (CellsAre.keep HS.out g1)
  clear g1 HS
  go_wp2_with fail
  refine ⟨HS1.out, ?_⟩
  refine wpAnyM_one (i := 3) rfl (by kernel_rfl) rfl ?_
  refine lookE_any rfl _ _ rfl m bs HM1.out (by simp [Act.eval]) e.s e.k (by simp [Act.eval]) hs hk ?_
  rw [HQ.out]
  unfold Ent.agg
  go_wp2_with fail
  refine ⟨HS1.out, ?_⟩
  refine wpAnyM_tail (by kernel_rfl) ?_
  clear HS1 hB
  go_wp2
  all_goals
    go_ret
    exact ⟨ret_bool (by rw [← HV.out]; unfold Ent.same; simp_all), HG1.out⟩

set_option maxRecDepth 100000 in
set_option maxHeartbeats 2000000 in
theorem implCom_any (A : Option Addr) (c : Nat) (xs : List Ent) (B : Option Addr) (d : Nat) (bs : List Ent) (w : World) (hf : EFit xs) (hA : EntsAt w A xs) (hg : EFit bs) (hB : EntsAt w B bs) :
    Calls Tryd.prog 27 #[.agg #[.slice A xs.length c], .agg #[.slice B bs.length d]] w (ResE (comE xs bs) w) := by
  have HI := Lib.hid (fun w1 (g : Grows w w1) => implLayer_any B d bs w1 hg (hB.keep g))
  have hmf : ∀ (fn : Fn) (first cap : Array Value) (w : World), (Instr.makeFunc fn first cap).run Tryd.prog w = .ok (.func fn first cap) w := fun _ _ _ _ => rfl
  by_cases hv : vlayer bs = true
  · have HP := Lib.hid (fun w1 (g : Grows w w1) => byPlace_any B d bs w1 hg (hB.keep g))
    have HK := Lib.hid (fun w1 (g : Grows w w1) (b m : Nat) (hb : b < w1.heap.size) (hc : w1.cell? ⟨b, 0, none⟩ = some (.map (some m))) (hM : MapE w1 m bs) =>
      keepEntries_com (.pointer (some ⟨b, 0, none⟩)) (inE bs) A c xs w1 hf (hA.keep g) (fun hvx e he w2 g2 => by
        obtain ⟨i, hi, rfl⟩ := List.getElem_of_mem he
        exact comFn_any xs[i] bs b m w2 (hf.2 i hi).1 (hf.2 i hi).2.1 (vlayer_dist hv) (vlayer_vent hvx _ he) ((g2.cell (p := ⟨b, 0, none⟩) hb).trans hc) (Nat.lt_of_lt_of_le hb g2.size) (hM.keep g2)))
    have HE : Hid (keepE xs (inE bs) = comE xs bs) := by unfold Hid comE; rw [hv]; rfl
    rw [hv] at HI
    unfold ResM at HP
    unfold ResE at HK
    clear hA hf hB hg hv
    go_enter Tryd.func27, Tryd.ntmps27
    go_wp2_with fail
    refine (HI.out _ ((((Grows.refl _).alloc _).alloc _).alloc _)).mono ?_
    rintro e w1 ⟨rfl, g1⟩
    have HX1 : Hid (Grows (((w.alloc (lbox A xs.length c)).alloc (lbox B bs.length d)).alloc (.cells #[.slice none 0 0] 25)) w1) := g1
    have HG1 : Hid (Grows w w1) := ((((Grows.refl _).alloc _).alloc _).alloc _).trans g1
    have hbb : Box w1 (w.heap.size + 1) (.slice B bs.length d) 25 := by
      have h := (Box.new (w.alloc (lbox A xs.length c)) (.slice B bs.length d) 25).keep (((Grows.refl _).alloc _).trans g1)
      simp only [World.size_alloc] at h
      exact h
    have hba : Box w1 w.heap.size (.slice A xs.length c) 25 := (Box.new w (.slice A xs.length c) 25).keep ((((Grows.refl _).alloc _).alloc _).trans g1)
    have hbr : Box w1 (w.heap.size + 1 + 1) (.slice none 0 0) 25 := by
      have h := (Box.new ((w.alloc (lbox A xs.length c)).alloc (lbox B bs.length d)) (.slice none 0 0) 25).keep g1
      simp only [World.size_alloc] at h
      exact h
    have c1 := hbb.cell
    have HBA := Lib.hid hba
    have HBR := Lib.hid hbr
    clear g1 hbb hba hbr
    go_wp2_with fail
    refine (HP.out _ HG1.out).mono ?_
    rintro e w2 ⟨m, rfl, hM, hm, g2⟩
    have HM2 := Lib.hid hM
    have HBA2 := Lib.hid (HBA.out.keep g2)
    have HBR2 := Lib.hid (HBR.out.keep g2)
    have HG2 : Hid (Grows w w2) := HG1.out.trans g2
    have c2 := HBA2.out.cell
    have l2 := HBA2.out.lt
    have hmm : m < w2.heap.size := hM.lt
    clear g2 hM hm c1 HBA HBR HX1
    go_wp2_with fail
    refine Calls.mono (HK.out _ ?gg w2.heap.size m ?hb ?hc ?hd) ?_
    case gg => exact HG2.out.alloc _
    case hb => simp
    case hc => simp
    case hd => exact HM2.out.keep ((Grows.refl _).alloc _)
    rintro e w3 ⟨v, rfl, hv, g3⟩
    have HG3 : Hid (Grows w w3) := (HG2.out.alloc _).trans g3
    have hbr3 := (HBR2.out.keep ((Grows.refl w2).alloc _)).keep g3
    have h1 := hbr3.cell
    have h2 := hbr3.free
    have hlr := HBR2.out.lt
    have HO : Hid (OwnE w3 (w2.heap.size + 1) v (comE xs bs)) := by have h := hv; simp only [World.size_alloc] at h; rw [HE.out] at h; exact h
    obtain ⟨A', n', c', hv'⟩ := hv.form3
    subst hv'
    clear g3 hv hbr3 c2
    go_wp2
    refine bodyPost_ret (v := .agg #[.slice A' n' c']) (by simp [results, Tryd.results27, go_sem, h1]) rfl ?_
    exact ⟨_, rfl, (HO.out.setOther (by omega) _).less (by omega), HG3.out.setCell (by simp; omega) _⟩
  · have hv' : vlayer bs = false := by simpa using hv
    have HE : Hid (comE xs bs = []) := comE_no2 hv'
    rw [hv'] at HI
    clear hA hf hB hg hv hv'
    go_enter Tryd.func27, Tryd.ntmps27
    go_wp2_with fail
    refine (HI.out _ ((((Grows.refl _).alloc _).alloc _).alloc _)).mono ?_
    rintro e w1 ⟨rfl, g1⟩
    have HG1 : Hid (Grows w w1) := ((((Grows.refl _).alloc _).alloc _).alloc _).trans g1
    have hbr : Box w1 (w.heap.size + 1 + 1) (.slice none 0 0) 25 := by
      have h := (Box.new ((w.alloc (lbox A xs.length c)).alloc (lbox B bs.length d)) (.slice none 0 0) 25).keep g1
      simp only [World.size_alloc] at h
      exact h
    have h1 := hbr.cell
    have h2 := hbr.free
    clear g1 hbr
    go_wp2
    refine bodyPost_ret (v := .agg #[.slice none 0 0]) (by simp [results, Tryd.results27, go_sem, h1]) rfl ?_
    rw [HE.out]
    exact ⟨_, rfl, OwnE.nil _ _, HG1.out.setCell (by simp; omega) _⟩
end Go.Proofs.YtkjoolmhcfajnaaDoor
