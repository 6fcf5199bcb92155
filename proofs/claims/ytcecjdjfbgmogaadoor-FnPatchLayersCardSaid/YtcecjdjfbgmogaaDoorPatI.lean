/-
  A patch, as the program puts it together. Conditions: parts of at most 1048576 bytes.
-/
import Derived.Test.YtcecjdjfbgmogaaDoorPatP
namespace Go.Proofs.YtcecjdjfbgmogaaDoor
open Go.RowKit

set_option maxRecDepth 100000 in
set_option maxHeartbeats 40000000 in
theorem implPatchR_any (A : Option Addr) (c : Nat) (xs : List Ent) (B : Option Addr) (d : Nat) (bs : List Ent) (w : World) (hf : EFit xs) (hA : EntsAt w A xs) (hg : EFit bs) (hB : EntsAt w B bs) (hv : vlayer xs = true) (hu : vlayer bs = true) (hfx : vflat xs = true) (hfb : vflat bs = true) :
    Calls Tryd.prog 41 #[.agg #[.slice A xs.length c], .agg #[.slice B bs.length d]] w (RetE (patchR xs bs) w) := by
  have HBX := Lib.hid (fun w1 (g : Grows w w1) => byPlace_any A c xs w1 hf (hA.keep g))
  have HBY := Lib.hid (fun w1 (g : Grows w w1) => byPlace_any B d bs w1 hg (hB.keep g))
  have HNW := Lib.hid (fun x (hx : x ∈ bs) => new_same (xs := xs) hfx (vflat_op hfb x hx) (vlayer_vent hu x hx))
  have HA := Lib.hid hA
  have HBB := Lib.hid hB
  have HVX := Lib.hid (fun x hx => ent_fits' (vlayer_vent hv x hx))
  have HVB := Lib.hid (fun x hx => ent_fits' (vlayer_vent hu x hx))
  have hm := vlayer_20 hv
  have hn := vlayer_20 hu
  unfold ResM at HBX HBY
  clear hA hB hf hg hv hu hfx hfb
  obtain ⟨m, hmm⟩ : ∃ m, xs.length = m := ⟨_, rfl⟩
  obtain ⟨n, hnn⟩ : ∃ n, bs.length = n := ⟨_, rfl⟩
  rw [hmm] at hm HBX ⊢
  rw [hnn] at hn HBY ⊢
  have HM := Lib.hid hmm
  have HN := Lib.hid hnn
  clear hmm hnn
  have HP := Lib.hid (fun x w => placeOf_any x w)
  unfold Ent.agg at HP
  go_enter Tryd.func41, Tryd.ntmps41
  go_upto_region 1 with (fail)
  have XA2 : Hid (Box ((w.alloc (.cells #[.slice A m c] 25)).alloc (.cells #[.slice B n d] 25)) w.heap.size (.slice A m c) 25) := row_grow (heap_alloc_new w _) ((Grows.refl _).alloc _)
  have XB2 : Hid (Box ((w.alloc (.cells #[.slice A m c] 25)).alloc (.cells #[.slice B n d] 25)) (w.heap.size + 1) (.slice B n d) 25) := alloc_new2 w _ _
  have G2 : Hid (Grows w ((w.alloc (.cells #[.slice A m c] 25)).alloc (.cells #[.slice B n d] 25))) := ((Grows.refl w).alloc _).alloc _
  obtain ⟨w2, hw2⟩ : ∃ w2, (w.alloc (.cells #[.slice A m c] 25)).alloc (.cells #[.slice B n d] 25) = w2 := ⟨_, rfl⟩
  rw [hw2] at XA2 XB2 G2 ⊢
  clear hw2
  have cA := XA2.out.cell
  have cB := XB2.out.cell
  go_wp2_with fail
  refine wp_region_M 4 (CellsAre [(⟨w.heap.size, 0, none⟩, .slice A m c), (⟨w.heap.size + 1, 0, none⟩, .slice B n d)]) (by kernel_rfl) (by kernel_rfl) ⟨cA, cB, trivial⟩ (fun hB hS => ?_)
  refine wpAnyM_take (i := 0) (v := ?vq0) hB rfl (by kernel_rfl) (fun _ _ _ h => h) (by rfl) ?yq0 hS ?nq0
  case yq0 => (intro w9 hSw; obtain ⟨s1, s2, _⟩ := hSw; go_simp; try with_reducible rfl)
  refine wpAnyM_take (i := 2) (v := ?vq2) hB rfl (by kernel_rfl) (fun _ _ _ h => h) (by rfl) ?yq2 hS ?nq2
  case yq2 => (intro w9 hSw; obtain ⟨s1, s2, _⟩ := hSw; go_simp; try with_reducible rfl)
  have HS := Lib.hid hS
  clear hS cA cB
  refine wpAnyM_one (i := 1) rfl (by kernel_rfl) rfl ?_
  go_wp2_with fail
  refine (HBX.out _ G2.out.drew).mono ?_
  rintro r w3 ⟨m1, rfl, hM, hm1, g3⟩
  have HS3 := Lib.hid (CellsAre.keep HS.out g3)
  have G23 : Hid (Grows w2 w3) := (Grows.refl _).drew.trans g3
  have HM1 := Lib.hid hM
  clear g3 HS hM hm1
  go_wp2_with fail
  refine ⟨HS3.out, ?_⟩
  refine wpAnyM_one (i := 3) rfl (by kernel_rfl) rfl ?_
  go_wp2_with fail
  refine (HBY.out _ (G2.out.trans G23.out)).mono ?_
  rintro r w4 ⟨m2, rfl, hM, hm2, g4⟩
  have HS4 := Lib.hid (CellsAre.keep HS3.out g4)
  have G24 : Hid (Grows w2 w4) := G23.out.trans g4
  have HMX : Hid (MapE w4 m1 xs) := HM1.out.keep g4
  have HMB : Hid (MapE w4 m2 bs) := hM
  clear g4 HS3 hM hm2 HM1
  go_wp2_with fail
  refine ⟨HS4.out, ?_⟩
  refine wpAnyM_tail (by kernel_rfl) ?_
  clear hB HS4 HBX HBY
  have XA4 := Lib.hid (XA2.out.keep G24.out)
  have XB4 := Lib.hid (XB2.out.keep G24.out)
  have G4 : Hid (Grows w w4) := G2.out.trans G24.out
  have S4 : w.heap.size + 1 < w4.heap.size := XB4.out.lt
  clear XA2 XB2 G23
  have cA := XA4.out.cell
  go_wp2_with fail
  go_loopw [7, 21] (fun v i wr => ∃ (k : Nat) (K : List Ent), k ≤ m ∧ i = .int .i64 k ∧ Hid (K = ((xs.take k).filter (freshIn bs)).map dropE) ∧ K.length ≤ k ∧ Hid (OwnE wr w4.heap.size v K) ∧ Hid (Grows w4 wr)) (fun _ i _ => m - (intOf i).toNat)
  case atStart => exact ⟨0, [], Nat.zero_le _, rfl, by unfold Hid; rfl, Nat.zero_le _, OwnE.nil _ _, Grows.refl _⟩
  case round =>
    obtain ⟨k, K, hk, rfl, HK, hKk, HO, HG⟩ := hrel
    clear cA
    by_cases hlt : k < m
    · obtain ⟨b, o, rfl, hb, hc⟩ := HA.out (by rw [HM.out]; omega)
      have hk2 : k < xs.length := by rw [HM.out]; exact hlt
      obtain ⟨x, hx⟩ : ∃ x, xs[k] = x := ⟨_, rfl⟩
      have hat := (hc k hk2).keep hb (G4.out.trans HG.out)
      have hfs := fm_step (p := freshIn bs) (f := dropE) hk2
      have hvx := HVX.out xs[k] (List.getElem_mem hk2)
      rw [hx] at hat hfs hvx
      obtain ⟨c0, c1, c2, c3⟩ := hat
      have HFS := Lib.hid hfs
      have hxs : x.s.size ≤ 1048576 := by omega
      have hxk : x.k.size ≤ 1048576 := by omega
      obtain ⟨y, hy⟩ : ∃ y, (lastE bs x.s x.k).getD Ent.zero = y := ⟨_, rfl⟩
      have HQ := Lib.hid hy
      obtain ⟨β, hβ⟩ : ∃ β, (bs.any fun y => y.of x.s x.k) = β := ⟨_, rfl⟩
      have HAY := Lib.hid hβ
      have HFB : Hid (freshIn bs x = !β) := by unfold Hid freshIn; rw [hβ]
      clear hx hc hfs hvx hy hβ
      go_wp2_with fail
      refine (HP.out x _).mono ?_
      rintro r w5 ⟨rfl, g5⟩
      have BX5 : Hid (BoxE w5 wr.heap.size x 66) := (BoxE.new wr x 66).keep g5
      have G5 : Hid (Grows wr w5) := ((Grows.refl wr).alloc _).trans g5
      have HM5 := Lib.hid (HMB.out.keep (HG.out.trans G5.out))
      clear g5 c0 c1 c2 c3
      go_upto_region 7 with (at_lookup; refine lookE_ok rfl _ _ rfl m2 bs HM5.out (by simp [Act.eval]) x.s x.k (by simp [Act.eval]) hxs hxk ?_; rw [HQ.out, HAY.out]; unfold Ent.agg)
      have BY6 : Hid (BoxE (w5.alloc (.cells #[.string y.s, .string y.k, .int .i64 y.op, .string y.v] 66)) w5.heap.size y 66) := BoxE.new w5 y 66
      have G6 : Hid (Grows wr (w5.alloc (.cells #[.string y.s, .string y.k, .int .i64 y.op, .string y.v] 66))) := G5.out.alloc _
      have BX6 : Hid (BoxE (w5.alloc (.cells #[.string y.s, .string y.k, .int .i64 y.op, .string y.v] 66)) wr.heap.size x 66) := BX5.out.keep ((Grows.refl _).alloc _)
      obtain ⟨w6, hw6⟩ : ∃ w6, w5.alloc (.cells #[.string y.s, .string y.k, .int .i64 y.op, .string y.v] 66) = w6 := ⟨_, rfl⟩
      rw [hw6] at BY6 G6 BX6 ⊢
      clear hw6
      have HO6 := Lib.hid (HO.out.keep G6.out)
      have HG6 : Hid (Grows w4 w6) := HG.out.trans G6.out
      rcases β with _ | _
      · have HV : Hid (K ++ [dropE x] = ((xs.take (k + 1)).filter (freshIn bs)).map dropE) := by unfold Hid; rw [HFS.out, HK.out, HFB.out]; rfl
        have SZ := HG6.out.size
        have t0 := BX6.out.at0
        have t1 := BX6.out.at1
        have t2 := BX6.out.at2
        have t3 := BX6.out.at3
        go_wp2_with (at_builtin; refine appEs rfl _ _ rfl w4.heap.size _ K rfl (HO6.out.keep (by repeat (first | exact Grows.refl _ | refine Grows.alloc ?_ _ | refine Grows.drew ?_ | refine Grows.drewN ?_ _))) ⟨w6.heap.size, 0, none⟩ 1 1 [dropE x] rfl rfl (by omega) (one_newsE _ (dropE x) _ rfl) (by omega) (by omega) (Nat.le_trans HG6.out.size (by simp)) ?_)
        intro v' w9 HO9 HGB HNE
        have HG9 : Hid (Grows w4 w9) := (HG6.out.alloc _).mark HGB.out (fun k hk => (HO6.out.lt k hk).1)
        clear HGB HNE t0 t1 t2 t3
        go_wp2
        go_roundw
        case rel => exact ⟨k + 1, K ++ [dropE x], by omega, by go_num, HV, by simp; omega, HO9.out, HG9.out⟩
        case measure => simp [intOf]; omega
      · have HV : Hid (K = ((xs.take (k + 1)).filter (freshIn bs)).map dropE) := by unfold Hid; rw [HFS.out, HK.out, HFB.out]; simp
        go_wp2
        go_roundw
        case rel => exact ⟨k + 1, K, by omega, by go_num, HV, by omega, HO6.out, HG6.out⟩
        case measure => simp [intOf]; omega
    · have HKN : Hid (k = m) := (by omega : k = m)
      have HK9 : Hid (K = (xs.filter (freshIn bs)).map dropE) := by unfold Hid; rw [HK.out, HKN.out, ← HM.out, List.take_length]
      have cB := (XB4.out.keep HG.out).cell
      go_wp2_with fail
      obtain ⟨wq, hwq⟩ : ∃ wq, wr = wq := ⟨_, rfl⟩
      rw [hwq] at HO HG ⊢
      clear hwq cB
      go_loopw [7, 46] (fun v i wr => ∃ (j : Nat) (K2 : List Ent), j ≤ n ∧ i = .int .i64 j ∧ Hid (K2 = (xs.filter (freshIn bs)).map dropE ++ (bs.take j).filter (newIn xs)) ∧ K2.length ≤ 20 + j ∧ Hid (OwnE wr w4.heap.size v K2) ∧ Hid (Grows w4 wr)) (fun _ i _ => n - (intOf i).toNat)
      case atStart => exact ⟨0, K, Nat.zero_le _, rfl, by unfold Hid; rw [HK9.out]; simp, by omega, HO.out, HG.out⟩
      case round =>
        clear HO HG HK HK9 hKk
        obtain ⟨j, K2, hj, rfl, HK, hKk2, HO, HG⟩ := hrel
        by_cases hlt2 : j < n
        · obtain ⟨b, o, rfl, hb, hc⟩ := HBB.out (by rw [HN.out]; omega)
          have hj2 : j < bs.length := by rw [HN.out]; exact hlt2
          obtain ⟨x, hx⟩ : ∃ x, bs[j] = x := ⟨_, rfl⟩
          have hat := (hc j hj2).keep hb (G4.out.trans HG.out)
          have hfs := filter_step (p := newIn xs) hj2
          have hvx := HVB.out bs[j] (List.getElem_mem hj2)
          have hnw := HNW.out bs[j] (List.getElem_mem hj2)
          rw [hx] at hat hfs hvx hnw
          obtain ⟨c0, c1, c2, c3⟩ := hat
          have HFS := Lib.hid hfs
          have hxs : x.s.size ≤ 1048576 := by omega
          have hxk : x.k.size ≤ 1048576 := by omega
          obtain ⟨y, hy⟩ : ∃ y, (lastE xs x.s x.k).getD Ent.zero = y := ⟨_, rfl⟩
          rw [hy] at hnw
          have HQ := Lib.hid hy
          have HNX := Lib.hid hnw
          clear hx hc hfs hvx hy hnw
          go_upto_region 13 with (fail)
          have BX5 : Hid (BoxE (wr.alloc (.cells #[.string x.s, .string x.k, .int .i64 x.op, .string x.v] 66)) wr.heap.size x 66) := BoxE.new wr x 66
          have G5 : Hid (Grows wr (wr.alloc (.cells #[.string x.s, .string x.k, .int .i64 x.op, .string x.v] 66))) := (Grows.refl wr).alloc _
          obtain ⟨w5, hw5⟩ : ∃ w5, wr.alloc (.cells #[.string x.s, .string x.k, .int .i64 x.op, .string x.v] 66) = w5 := ⟨_, rfl⟩
          rw [hw5] at BX5 G5 ⊢
          clear hw5 c0 c1 c2 c3
          have t0 := BX5.out.at0
          have t1 := BX5.out.at1
          have t2 := BX5.out.at2
          have t3 := BX5.out.at3
          refine wp_region_M 5 (CellsAre [(⟨wr.heap.size, 0, none⟩, .string x.s), (⟨wr.heap.size, 1, none⟩, .string x.k), (⟨wr.heap.size, 2, none⟩, .int .i64 x.op), (⟨wr.heap.size, 3, none⟩, .string x.v)]) (by kernel_rfl) (by kernel_rfl) ⟨t0, t1, t2, t3, trivial⟩ (fun hB hS => ?_)
          refine wpAnyM_take (i := 0) (v := ?vn0) hB rfl (by kernel_rfl) (fun _ _ _ h => h) (by rfl) ?yn0 hS ?nn0
          case yn0 => (intro w9 hSw; obtain ⟨s1, s2, s3, s4, _⟩ := hSw; go_simp; try with_reducible rfl)
          refine wpAnyM_take (i := 1) (v := ?vn1) hB rfl (by kernel_rfl) (fun _ _ _ h => h) (by rfl) ?yn1 hS ?nn1
          case yn1 => (intro w9 hSw; obtain ⟨s1, s2, s3, s4, _⟩ := hSw; go_simp; try with_reducible rfl)
          refine wpAnyM_take (i := 4) (v := ?vn4) hB rfl (by kernel_rfl) (fun _ _ _ h => h) (by rfl) ?yn4 hS ?nn4
          case yn4 => (intro w9 hSw; obtain ⟨s1, s2, s3, s4, _⟩ := hSw; go_simp; try with_reducible rfl)
          have HS := Lib.hid hS
          clear hS t0 t1 t2 t3
          refine wpAnyM_one (i := 2) rfl (by kernel_rfl) rfl ?_
          go_wp2_with fail
          refine (HP.out x _).mono ?_
          rintro r w6 ⟨rfl, g6⟩
          have HS1 := Lib.hid (CellsAre.keep HS.out g6)
          have G56 : Hid (Grows w5 w6) := (Grows.refl _).drew.trans g6
          have HM6 := Lib.hid (HMX.out.keep (HG.out.trans (G5.out.trans G56.out)))
          clear g6 HS
          go_wp2_with fail
          refine ⟨HS1.out, ?_⟩
          refine wpAnyM_one (i := 3) rfl (by kernel_rfl) rfl ?_
          refine lookE_any rfl _ _ rfl m1 xs HM6.out (by simp [Act.eval]) x.s x.k (by simp [Act.eval]) hxs hxk ?_
          rw [HQ.out]
          unfold Ent.agg
          go_wp2_with fail
          refine ⟨HS1.out, ?_⟩
          refine wpAnyM_tail (by kernel_rfl) ?_
          clear HS1 hB
          have BX6 := Lib.hid (BX5.out.keep G56.out)
          have HO6 := Lib.hid (HO.out.keep (G5.out.trans G56.out))
          have HG6 : Hid (Grows w4 w6) := HG.out.trans (G5.out.trans G56.out)
          have hne := fun w => neEnt y x w
          unfold Ent.agg at hne
          by_cases hs : y.same x = true
          · have HV : Hid (K2 = (xs.filter (freshIn bs)).map dropE ++ (bs.take (j + 1)).filter (newIn xs)) := by unfold Hid; rw [HFS.out, HK.out, HNX.out, hs]; simp
            rw [hs] at hne
            simp only [Bool.not_true] at hne
            clear hs
            go_wp2
            go_roundw
            case rel => exact ⟨j + 1, K2, by omega, by go_num, HV, by omega, HO6.out, HG6.out⟩
            case measure => simp [intOf]; omega
          · have hs' : y.same x = false := by simpa using hs
            have HV : Hid (K2 ++ [x] = (xs.filter (freshIn bs)).map dropE ++ (bs.take (j + 1)).filter (newIn xs)) := by unfold Hid; rw [HFS.out, HK.out, HNX.out, hs']; simp
            rw [hs'] at hne
            simp only [Bool.not_false] at hne
            clear hs hs'
            have SZ := HG6.out.size
            have t0 := BX6.out.at0
            have t1 := BX6.out.at1
            have t2 := BX6.out.at2
            have t3 := BX6.out.at3
            go_wp2_with (at_builtin; refine appEs rfl _ _ rfl w4.heap.size _ K2 rfl (HO6.out.keep (by repeat (first | exact Grows.refl _ | refine Grows.alloc ?_ _ | refine Grows.drew ?_ | refine Grows.drewN ?_ _))) ⟨w6.heap.size, 0, none⟩ 1 1 [x] rfl rfl (by omega) (one_newsE _ _ _ rfl) (by omega) (by omega) (Nat.le_trans HG6.out.size (by simp)) ?_)
            intro v' w9 HO9 HGB HNE
            have HG9 : Hid (Grows w4 w9) := (HG6.out.alloc _).mark HGB.out (fun k hk => (HO6.out.lt k hk).1)
            clear HGB HNE t0 t1 t2 t3
            go_wp2
            go_roundw
            case rel => exact ⟨j + 1, K2 ++ [x], by omega, by go_num, HV, by simp; omega, HO9.out, HG9.out⟩
            case measure => simp [intOf]; omega
        · have HJM : Hid (j = n) := (by omega : j = n)
          have HR : Hid (K2 = patchR xs bs) := by unfold Hid patchR; rw [HK.out, HJM.out, ← HN.out, List.take_length]
          have hO := HO.out
          rw [HR.out] at hO
          have HO9 := Lib.hid hO
          have G9 : Hid (Grows w wr) := G4.out.trans HG.out
          clear hO
          go_wp2
          go_ret
          exact ⟨_, rfl, HO9.out.less (by omega), G9.out⟩

set_option maxRecDepth 100000 in
set_option maxHeartbeats 4000000 in
theorem implPatYes_any (A : Option Addr) (c : Nat) (xs : List Ent) (B : Option Addr) (d : Nat) (bs : List Ent) (w : World) (hf : EFit xs) (hA : EntsAt w A xs) (hg : EFit bs) (hB : EntsAt w B bs) (hv : vflat xs = true) (hu : vflat bs = true) :
    Calls Tryd.prog 9 #[.agg #[.slice A xs.length c], .agg #[.slice B bs.length d]] w (ResEB (patchL xs bs) (patchB xs bs) w) := by
  have HI := Lib.hid (fun w1 (g : Grows w w1) => implFlat_any A c xs w1 hf (hA.keep g))
  have HJ := Lib.hid (fun w1 (g : Grows w w1) => implFlat_any B d bs w1 hg (hB.keep g))
  have HPR := Lib.hid (fun w1 (g : Grows w w1) => implPatchR_any A c xs B d bs w1 hf (hA.keep g) hg (hB.keep g) (vflat_vlayer hv) (vflat_vlayer hu) hv hu)
  have HFR : Hid (EFit (patchR xs bs)) := patchR_fit (vflat_vlayer hv) (vflat_vlayer hu)
  have HPE : Hid (patchL xs bs = chkE (patchR xs bs) ∧ patchB xs bs = vlayer (patchR xs bs)) := patchL_yes hv hu
  unfold RetE at HPR
  rw [hv] at HI
  rw [hu] at HJ
  clear hA hB hf hg hv hu
  obtain ⟨m, hmm⟩ : ∃ m, xs.length = m := ⟨_, rfl⟩
  obtain ⟨n, hnn⟩ : ∃ n, bs.length = n := ⟨_, rfl⟩
  rw [hmm] at HI HPR ⊢
  rw [hnn] at HJ HPR ⊢
  clear hmm hnn
  go_enter Tryd.func9, Tryd.ntmps9
  go_upto_region 1 with (fail)
  have XA : Hid (Box (((w.alloc (.cells #[.slice A m c] 25)).alloc (.cells #[.slice B n d] 25)).alloc (.cells #[.slice none 0 0] 25)) w.heap.size (.slice A m c) 25) := row_grow (row_grow (heap_alloc_new w _) ((Grows.refl _).alloc _)) ((Grows.refl _).alloc _)
  have XB : Hid (Box (((w.alloc (.cells #[.slice A m c] 25)).alloc (.cells #[.slice B n d] 25)).alloc (.cells #[.slice none 0 0] 25)) (w.heap.size + 1) (.slice B n d) 25) := row_grow (alloc_new2 w _ _) ((Grows.refl _).alloc _)
  have XR : Hid (Box (((w.alloc (.cells #[.slice A m c] 25)).alloc (.cells #[.slice B n d] 25)).alloc (.cells #[.slice none 0 0] 25)) (w.heap.size + 1 + 1) (.slice none 0 0) 25) := alloc_new3 w _ _ _
  have G0 : Hid (Grows w (((w.alloc (.cells #[.slice A m c] 25)).alloc (.cells #[.slice B n d] 25)).alloc (.cells #[.slice none 0 0] 25))) := (((Grows.refl w).alloc _).alloc _).alloc _
  obtain ⟨w0, hw0⟩ : ∃ w0, ((w.alloc (.cells #[.slice A m c] 25)).alloc (.cells #[.slice B n d] 25)).alloc (.cells #[.slice none 0 0] 25) = w0 := ⟨_, rfl⟩
  rw [hw0] at XA XB XR G0 ⊢
  clear hw0
  have S0 : w.heap.size + 1 + 1 < w0.heap.size := XR.out.lt
  have cA := XA.out.cell
  go_wp2_with fail
  refine (HI.out _ G0.out).mono ?_
  rintro r w1 ⟨rfl, g1⟩
  have G1 : Hid (Grows w w1) := G0.out.trans g1
  have XA1 := Lib.hid (XA.out.keep g1)
  have XB1 := Lib.hid (XB.out.keep g1)
  have XR1 := Lib.hid (XR.out.keep g1)
  have S1 : w0.heap.size ≤ w1.heap.size := g1.size
  clear g1 cA XA XB XR
  have cB := XB1.out.cell
  go_wp2_with fail
  refine (HJ.out _ G1.out).mono ?_
  rintro r w2 ⟨rfl, g2⟩
  have G2 : Hid (Grows w w2) := G1.out.trans g2
  have XA2 := Lib.hid (XA1.out.keep g2)
  have XB2 := Lib.hid (XB1.out.keep g2)
  have XR2 := Lib.hid (XR1.out.keep g2)
  have S2 : w1.heap.size ≤ w2.heap.size := g2.size
  clear g2 cB XA1 XB1 XR1 HI HJ
  have cA := XA2.out.cell
  have cB := XB2.out.cell
  go_wp2_with fail
  refine (HPR.out _ G2.out).mono ?_
  rintro r w3 ⟨v, rfl, hv, g3⟩
  have G3 : Hid (Grows w w3) := G2.out.trans g3
  have XR3 := Lib.hid (XR2.out.keep g3)
  have HCK := Lib.hid (validEntries_any v w2.heap.size (patchR xs bs) w3 HFR.out hv)
  unfold ChkRetE at HCK
  clear g3 hv cA cB XA2 XB2 XR2 HPR
  go_wp2_with fail
  refine (HCK.out).mono ?_
  rintro r w9 ⟨u, rfl, hu, g9⟩
  have G9 : Hid (Grows w w9) := G3.out.trans g9
  have XR9 := Lib.hid (XR3.out.keep g9)
  obtain ⟨A5, n5, c5, hv5⟩ := OwnE.form3 hu
  subst hv5
  have HU := Lib.hid hu
  clear g9 hu
  have h1 := XR9.out.cell
  have h2 := XR9.out.free
  obtain ⟨β, hβ⟩ : ∃ β, vlayer (patchR xs bs) = β := ⟨_, rfl⟩
  rw [hβ] at HPE ⊢
  clear hβ
  go_wp2
  refine bodyPost_ret (v := .tuple #[.agg #[.slice A5 n5 c5], .bool β]) (by simp [results, Tryd.results9, go_sem, h1]) rfl ?_
  rw [HPE.out.1, HPE.out.2]
  exact ⟨_, rfl, (HU.out.setOther (by omega) _).less (by omega), G9.out.setCell (show w.heap.size ≤ w.heap.size + 1 + 1 by omega) _⟩

set_option maxRecDepth 100000 in
set_option maxHeartbeats 4000000 in
theorem implPat_any (A : Option Addr) (c : Nat) (xs : List Ent) (B : Option Addr) (d : Nat) (bs : List Ent) (w : World) (HC0 : xs.length ≤ c) (HD0 : bs.length ≤ d) (hf : EFit xs) (hA : EntsAt w A xs) (hg : EFit bs) (hB : EntsAt w B bs) :
    Calls Tryd.prog 9 #[.agg #[.slice A xs.length c], .agg #[.slice B bs.length d]] w (ResEB (patchL xs bs) (patchB xs bs) w) := by
  have hc0 := HC0
  have hd0 := HD0
  have HI := Lib.hid (fun w1 (g : Grows w w1) => implFlat_any A c xs w1 hf (hA.keep g))
  have HJ := Lib.hid (fun w1 (g : Grows w w1) => implFlat_any B d bs w1 hg (hB.keep g))
  by_cases hv : vflat xs = true
  · by_cases hu : vflat bs = true
    · exact implPatYes_any A c xs B d bs w hf hA hg hB hv hu
    · have hu' : vflat bs = false := by simpa using hu
      have HPE : Hid (patchL xs bs = [] ∧ patchB xs bs = false) := patchL_no2 hu'
      rw [hv] at HI
      rw [hu'] at HJ
      clear hA hf hv hu hu' hB hg hc0 hd0
      obtain ⟨m, hmm⟩ : ∃ m, xs.length = m := ⟨_, rfl⟩
      obtain ⟨n, hnn⟩ : ∃ n, bs.length = n := ⟨_, rfl⟩
      rw [hmm] at HI ⊢
      rw [hnn] at HJ ⊢
      clear hmm hnn
      go_enter Tryd.func9, Tryd.ntmps9
      go_upto_region 1 with (fail)
      have XA : Hid (Box (((w.alloc (.cells #[.slice A m c] 25)).alloc (.cells #[.slice B n d] 25)).alloc (.cells #[.slice none 0 0] 25)) w.heap.size (.slice A m c) 25) := row_grow (row_grow (heap_alloc_new w _) ((Grows.refl _).alloc _)) ((Grows.refl _).alloc _)
      have XB : Hid (Box (((w.alloc (.cells #[.slice A m c] 25)).alloc (.cells #[.slice B n d] 25)).alloc (.cells #[.slice none 0 0] 25)) (w.heap.size + 1) (.slice B n d) 25) := row_grow (alloc_new2 w _ _) ((Grows.refl _).alloc _)
      have XR : Hid (Box (((w.alloc (.cells #[.slice A m c] 25)).alloc (.cells #[.slice B n d] 25)).alloc (.cells #[.slice none 0 0] 25)) (w.heap.size + 1 + 1) (.slice none 0 0) 25) := alloc_new3 w _ _ _
      have G0 : Hid (Grows w (((w.alloc (.cells #[.slice A m c] 25)).alloc (.cells #[.slice B n d] 25)).alloc (.cells #[.slice none 0 0] 25))) := (((Grows.refl w).alloc _).alloc _).alloc _
      obtain ⟨w0, hw0⟩ : ∃ w0, ((w.alloc (.cells #[.slice A m c] 25)).alloc (.cells #[.slice B n d] 25)).alloc (.cells #[.slice none 0 0] 25) = w0 := ⟨_, rfl⟩
      rw [hw0] at XA XB XR G0 ⊢
      clear hw0
      have S0 : w.heap.size + 1 + 1 < w0.heap.size := XR.out.lt
      have cA := XA.out.cell
      go_wp2_with fail
      refine (HI.out _ G0.out).mono ?_
      rintro r w1 ⟨rfl, g1⟩
      have G1 : Hid (Grows w w1) := G0.out.trans g1
      have XB1 := Lib.hid (XB.out.keep g1)
      have XR1 := Lib.hid (XR.out.keep g1)
      clear g1 cA XA XB XR
      have cB := XB1.out.cell
      go_wp2_with fail
      refine (HJ.out _ G1.out).mono ?_
      rintro r w2 ⟨rfl, g2⟩
      have G2 : Hid (Grows w w2) := G1.out.trans g2
      have XR2 := Lib.hid (XR1.out.keep g2)
      clear g2 cB XB1 XR1
      have h1 := XR2.out.cell
      have h2 := XR2.out.free
      go_wp2
      refine bodyPost_ret (v := .tuple #[.agg #[.slice none 0 0], .bool false]) (by simp [results, Tryd.results9, go_sem, h1]) rfl ?_
      rw [HPE.out.1, HPE.out.2]
      exact ⟨_, rfl, OwnE.nil _ _, G2.out.setCell (show w.heap.size ≤ w.heap.size + 1 + 1 by omega) _⟩
  · have hv' : vflat xs = false := by simpa using hv
    have HPE : Hid (patchL xs bs = [] ∧ patchB xs bs = false) := patchL_no1 hv'
    rw [hv'] at HI
    clear hA hf hv hv' hB hg hc0 hd0 HJ
    obtain ⟨m, hmm⟩ : ∃ m, xs.length = m := ⟨_, rfl⟩
    obtain ⟨n, hnn⟩ : ∃ n, bs.length = n := ⟨_, rfl⟩
    rw [hmm] at HI ⊢
    rw [hnn]
    clear hmm hnn
    go_enter Tryd.func9, Tryd.ntmps9
    go_upto_region 1 with (fail)
    have XA : Hid (Box (((w.alloc (.cells #[.slice A m c] 25)).alloc (.cells #[.slice B n d] 25)).alloc (.cells #[.slice none 0 0] 25)) w.heap.size (.slice A m c) 25) := row_grow (row_grow (heap_alloc_new w _) ((Grows.refl _).alloc _)) ((Grows.refl _).alloc _)
    have XB : Hid (Box (((w.alloc (.cells #[.slice A m c] 25)).alloc (.cells #[.slice B n d] 25)).alloc (.cells #[.slice none 0 0] 25)) (w.heap.size + 1) (.slice B n d) 25) := row_grow (alloc_new2 w _ _) ((Grows.refl _).alloc _)
    have XR : Hid (Box (((w.alloc (.cells #[.slice A m c] 25)).alloc (.cells #[.slice B n d] 25)).alloc (.cells #[.slice none 0 0] 25)) (w.heap.size + 1 + 1) (.slice none 0 0) 25) := alloc_new3 w _ _ _
    have G0 : Hid (Grows w (((w.alloc (.cells #[.slice A m c] 25)).alloc (.cells #[.slice B n d] 25)).alloc (.cells #[.slice none 0 0] 25))) := (((Grows.refl w).alloc _).alloc _).alloc _
    obtain ⟨w0, hw0⟩ : ∃ w0, ((w.alloc (.cells #[.slice A m c] 25)).alloc (.cells #[.slice B n d] 25)).alloc (.cells #[.slice none 0 0] 25) = w0 := ⟨_, rfl⟩
    rw [hw0] at XA XB XR G0 ⊢
    clear hw0
    have S0 : w.heap.size + 1 + 1 < w0.heap.size := XR.out.lt
    have cA := XA.out.cell
    go_wp2_with fail
    refine (HI.out _ G0.out).mono ?_
    rintro r w1 ⟨rfl, g1⟩
    have G1 : Hid (Grows w w1) := G0.out.trans g1
    have XR1 := Lib.hid (XR.out.keep g1)
    clear g1 cA XA XB XR
    have h1 := XR1.out.cell
    have h2 := XR1.out.free
    go_wp2
    refine bodyPost_ret (v := .tuple #[.agg #[.slice none 0 0], .bool false]) (by simp [results, Tryd.results9, go_sem, h1]) rfl ?_
    rw [HPE.out.1, HPE.out.2]
    exact ⟨_, rfl, OwnE.nil _ _, G1.out.setCell (show w.heap.size ≤ w.heap.size + 1 + 1 by omega) _⟩
end Go.Proofs.YtcecjdjfbgmogaaDoor
