/-
  The layer of a file: LayerOf of the program. Conditions: at most 1048576 bytes in all.
-/
import Derived.Test.YtclopcbpelhiaaaDoorMeanP
namespace Go.Proofs.YtclopcbpelhiaaaDoor
open Go.RowKit

set_option maxRecDepth 100000 in
set_option maxHeartbeats 4000000 in
theorem implLay_any (A : Option Addr) (c : Nat) (ls : List Ln) (w : World) (hf : AllFit ls) (hA : LnsAt w A ls) :
    Calls Tryd.prog 12 #[.agg #[.slice A ls.length c]] w (ResE (layOf ls) w) := by
  have HSE := Lib.hid (fun w1 (g : Grows w w1) => implSecs_any A c ls w1 hf (hA.keep g))
  have HKE := Lib.hid (fun s w1 (g : Grows w w1) => implKeys_any A c ls s w1 hf (hA.keep g))
  have HGE := Lib.hid (fun s key w1 (g : Grows w w1) => implGet_any A c ls s key w1 hf (hA.keep g))
  have hss := secs_20 ls
  have HT : Hid (layOf ls = esecs ls (secsOf' ls)) := rfl
  clear hA hf
  unfold StrsRet at HSE HKE
  obtain ⟨ss, hsx⟩ : ∃ ss, secsOf' ls = ss := ⟨_, rfl⟩
  rw [hsx] at HSE HT hss
  clear hsx
  obtain ⟨n, hnn⟩ : ∃ n, ls.length = n := ⟨_, rfl⟩
  rw [hnn] at HSE HKE HGE
  rw [hnn]
  clear hnn
  go_enter Tryd.func12, Tryd.ntmps12
  go_wp2_with fail
  refine (HSE.out _ (((Grows.refl _).alloc _).alloc _)).mono ?_
  rintro e w1 ⟨sv, rfl, hsv, g1⟩
  have HG0 : Hid (Grows ((w.alloc (fbox A n c)).alloc (.cells #[.slice none 0 0] 35)) w1) := g1
  have HG1 : Hid (Grows w w1) := (((Grows.refl _).alloc _).alloc _).trans g1
  have hs1 : w.heap.size + 1 < w1.heap.size := Nat.lt_of_lt_of_le (by simp) g1.size
  obtain ⟨B, cB, rfl, hB⟩ := hsv.form
  have HB := Lib.hid hB
  obtain ⟨p, hp⟩ : ∃ p, ss.length = p := ⟨_, rfl⟩
  rw [hp] at hss ⊢
  have HP := Lib.hid hp
  clear g1 hsv hB hp
  go_wp2_with fail
  go_loopw [3, 13] (fun v i wr => ∃ (j : Nat) (K : List Ent), j ≤ p ∧ i = .int .i64 j ∧ Hid (K = esecs ls (ss.take j)) ∧ K.length ≤ j * 20 ∧ Hid (OwnE wr w1.heap.size v K) ∧ Hid (Grows w1 wr)) (fun _ i _ => p - (intOf i).toNat)
  case atStart => exact ⟨0, [], Nat.zero_le _, rfl, rfl, Nat.zero_le _, OwnE.nil _ _, Grows.refl _⟩
  case round =>
    obtain ⟨j, K, hj, rfl, HK, hKj, HO, HG⟩ := hrel
    have hb0 : wr.cell? ⟨w.heap.size, 0, none⟩ = some (.slice A n c) := ((HG0.out.trans HG.out).cell (p := ⟨w.heap.size, 0, none⟩) (by simp; omega)).trans (by simp [fbox])
    by_cases hlt : j < p
    · have hjs : j < ss.length := by rw [HP.out]; exact hlt
      obtain ⟨gb, rfl, _, hgb, hcs, _⟩ := HB.out (by rw [HP.out]; omega)
      have c0 := hcs j hjs
      obtain ⟨s, hs⟩ : ∃ s, ss[j] = s := ⟨_, rfl⟩
      rw [hs] at c0
      have c1 : wr.cell? ⟨gb, j, none⟩ = some (.string s) := (HG.out.cell (p := ⟨gb, j, none⟩) hgb).trans c0
      have HTS : Hid (esecs ls (ss.take (j + 1)) = K ++ ekeys ls s (keysOf' ls s)) := by
        unfold Hid; rw [esecs_succ ls hjs, hs, ← HK.out]
      have HKS := Lib.hid (HKE.out s)
      have HGS := Lib.hid (HGE.out s)
      have hk20 := keys_20 ls s
      obtain ⟨ks, hks⟩ : ∃ ks, keysOf' ls s = ks := ⟨_, rfl⟩
      rw [hks] at HTS HKS hk20
      clear hcs c0 hs hks
      go_wp2_with fail
      refine (HKS.out _ (HG1.out.trans HG.out)).mono ?_
      rintro e w3 ⟨kv, rfl, hkv, g3⟩
      have HKV := Lib.hid hkv
      have HAP : Hid (Apart u3 kv) := Apart.less (fun k hk => (HO.out.lt k hk).2) (fun k hk => (World.ownsRow.lt HKV.out k hk).1)
      obtain ⟨C, cC, rfl, _⟩ := hkv.form
      have HG3 : Hid (Grows w1 w3) := HG.out.trans g3
      have HO3 := Lib.hid (HO.out.keep g3)
      obtain ⟨q, hq⟩ : ∃ q, ks.length = q := ⟨_, rfl⟩
      rw [hq] at hk20 HAP HKV ⊢
      have HQ := Lib.hid hq
      clear g3 hkv hq
      go_wp2_with fail
      go_loopw [3, 21] (fun v i wx => ∃ (k : Nat) (M : List Ent), k ≤ q ∧ i = .int .i64 k ∧ Hid (M = K ++ ekeys ls s (ks.take k)) ∧ M.length ≤ j * 20 + k ∧ Hid (OwnE wx w1.heap.size v M) ∧ Hid (OwnS wx wr.heap.size (.slice C q cC) ks) ∧ Hid (Apart v (.slice C q cC)) ∧ Hid (Grows w1 wx)) (fun _ i _ => q - (intOf i).toNat)
      case atStart => exact ⟨0, K, Nat.zero_le _, rfl, by unfold Hid; simp [ekeys], by omega, HO3.out, HKV.out, HAP.out, HG3.out⟩
      case round =>
        obtain ⟨k, M, hk, rfl, HM, hMk, HOx, HKx, HAx, HGx⟩ := hrel
        have hbx : wr.cell? ⟨w.heap.size, 0, none⟩ = some (.slice A n c) := ((HG0.out.trans HGx.out).cell (p := ⟨w.heap.size, 0, none⟩) (by simp; omega)).trans (by simp [fbox])
        by_cases hlk : k < q
        · have hks : k < ks.length := by rw [HQ.out]; exact hlk
          obtain ⟨C', cC', hv, hC⟩ := OwnS.form HKx.out
          injection hv with hv1 hv2 hv3
          subst hv1
          obtain ⟨gc, rfl, _, hgc, hcc, _⟩ := hC (by omega)
          have d0 := hcc k hks
          have hts := ekeys_succ ls s hks
          obtain ⟨x, hx⟩ : ∃ x, ks[k] = x := ⟨_, rfl⟩
          rw [hx] at d0 hts
          have HVX := Lib.hid (HGS.out x)
          unfold entL at hts
          obtain ⟨y, hy⟩ : ∃ y, getV ls s x = y := ⟨_, rfl⟩
          rw [hy] at hts HVX
          have HM2 : Hid (M ++ [Ent.mk s x 0 y] = K ++ ekeys ls s (ks.take (k + 1))) := by unfold Hid; rw [hts, ← List.append_assoc, HM.out]
          clear hcc hx hy hts hv2 hv3 hC
          go_wp2_with fail
          refine (HVX.out _ (HG1.out.trans HGx.out)).mono ?_
          rintro e w4 ⟨rfl, g4⟩
          have HO4 := Lib.hid (HOx.out.keep g4)
          have HK4 := Lib.hid (OwnS.keep HKx.out g4)
          have HG4 : Hid (Grows w1 w4) := HGx.out.trans g4
          clear g4 d0
          go_wp2_with (at_builtin; refine appEs rfl _ _ rfl w1.heap.size _ M rfl (HO4.out.keep ((Grows.refl _).alloc _)) ⟨w4.heap.size, 0, none⟩ 1 1 [Ent.mk s x 0 y] rfl rfl (by omega) (one_newsE _ _ _ rfl) (by omega) (by omega) (Nat.le_trans HG4.out.size (by simp)) ?_)
          intro v' w6 HO6 HGB HNE
          have HK6 := Lib.hid ((HK4.out.keep ((Grows.refl _).alloc _)).far HGB.out (fun k hk e => HAx.out k e hk))
          have HAP6 : Hid (Apart v' (.slice (some ⟨gc, 0, none⟩) q cC)) := HAx.out.near HNE.out (fun k hk => Nat.lt_of_lt_of_le (World.ownsRow.lt HK4.out k hk).2 (by simp))
          have HG6 : Hid (Grows w1 w6) := (HG4.out.alloc _).mark HGB.out (fun k hk => (HO4.out.lt k hk).1)
          go_wp2
          go_roundw
          case rel => exact ⟨k + 1, M ++ [Ent.mk s x 0 y], by omega, by go_num, HM2.out, by simp; omega, HO6.out, HK6.out, HAP6.out, HG6.out⟩
          case measure => simp [intOf]; omega
        · obtain rfl : k = q := by omega
          have HM3 : Hid (M = esecs ls (ss.take (j + 1))) := by
            unfold Hid
            rw [HTS.out, HM.out, ← HQ.out, List.take_length]
          go_wp2
          go_roundw
          case rel => exact ⟨j + 1, M, by omega, by go_num, HM3.out, by omega, HOx.out, HGx.out⟩
          case measure => simp [intOf]; omega
    · obtain rfl : j = p := by omega
      have h1 : wr.cell? ⟨w.heap.size + 1, 0, none⟩ = some (.slice none 0 0) := ((HG0.out.trans HG.out).cell (p := ⟨w.heap.size + 1, 0, none⟩) (by simp)).trans (by simp [fbox])
      have h2 : wr.frozen? ⟨w.heap.size + 1, 0, none⟩ = false := ((HG0.out.trans HG.out).frozen (p := ⟨w.heap.size + 1, 0, none⟩) (by simp)).trans (by simp [fbox])
      have HR : Hid (K = layOf ls) := by unfold Hid; rw [HT.out, HK.out, ← HP.out, List.take_length]
      obtain ⟨A', n', c', hv'⟩ := HO.out.form3
      subst hv'
      go_wp2
      refine bodyPost_ret (v := .agg #[.slice A' n' c']) (by simp [results, Tryd.results12, go_sem, h1]) rfl ?_
      rw [← HR.out]
      exact ⟨_, rfl, (HO.out.setOther (by omega) _).less HG1.out.size, (HG1.out.trans HG.out).setCell (by simp) _⟩
end Go.Proofs.YtclopcbpelhiaaaDoor
