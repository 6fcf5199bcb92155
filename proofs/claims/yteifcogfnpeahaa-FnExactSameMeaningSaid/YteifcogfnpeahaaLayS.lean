/-
  The layer of a file: LayerOf of the specification. Conditions: at most 1048576 bytes in all.
-/
import Derived.Test.YteifcogfnpeahaaLay
import Derived.Test.YteifcogfnpeahaaRegM
namespace Go.Proofs.Yteifcogfnpeahaa
open Go.RowKit

set_option maxRecDepth 100000 in
set_option maxHeartbeats 4000000 in
theorem specLay_any (A : Option Addr) (c : Nat) (ls : List Ln) (w : World) (hf : AllFit ls) (hA : LnsAt w A ls) :
    Calls Try.prog 54 #[.agg #[.slice A ls.length c]] w (ResE (layOf ls) w) := by
  have HF := Lib.hid (fun w1 (g : Grows w w1) => specFile_any A c ls w1 hf (hA.keep g))
  have HA := Lib.hid hA
  have HSE := Lib.hid (fun w1 (g : Grows w w1) => specSecs_any A c ls w1 hf (hA.keep g))
  have HKE := Lib.hid (fun s w1 (g : Grows w w1) => specKeys_any A c ls s w1 hf (hA.keep g))
  have HLP := Lib.hid (fun s key w1 (g : Grows w w1) => lastPair_any A c ls s key w1 hf.1 (hA.keep g))
  have hss := secs_20 ls
  have hn : ls.length ≤ 1048576 := hf.1
  clear hA hf
  by_cases hv : vfile ls = true
  · have HT : Hid (layOf ls = esecs ls (secsOf' ls)) := rfl
    rw [hv] at HF
    clear hv
    unfold StrsRet at HSE HKE
    obtain ⟨ss, hsx⟩ : ∃ ss, secsOf' ls = ss := ⟨_, rfl⟩
    rw [hsx] at HSE HT hss
    clear hsx
    obtain ⟨n, hnn⟩ : ∃ n, ls.length = n := ⟨_, rfl⟩
    rw [hnn] at HSE HKE HLP HF hn
    rw [hnn]
    have HN := Lib.hid hnn
    clear hnn
    go_enter Try.func54, Try.ntmps54
    go_wp2_with fail
    refine (HF.out _ (((Grows.refl _).alloc _).alloc _)).mono ?_
    rintro e w1 ⟨rfl, g1⟩
    have HG0 : Hid (Grows ((w.alloc (fbox A n c)).alloc (.cells #[.slice none 0 0] 65)) w1) := g1
    have HG1 : Hid (Grows w w1) := (((Grows.refl _).alloc _).alloc _).trans g1
    have hs1 : w.heap.size + 1 < w1.heap.size := Nat.lt_of_lt_of_le (by simp) g1.size
    have hs0 : w.heap.size < w1.heap.size := by omega
    have hb1 : w1.cell? ⟨w.heap.size, 0, none⟩ = some (.slice A n c) := (HG0.out.cell (p := ⟨w.heap.size, 0, none⟩) (by simp; omega)).trans (by simp [fbox])
    clear g1
    go_wp2_with fail
    refine (HSE.out _ ((HG1.out.alloc _).alloc _)).mono ?_
    rintro e w2 ⟨sv, rfl, hsv, g2⟩
    have HG2 : Hid (Grows w1 w2) := (((Grows.refl _).alloc _).alloc _).trans g2
    have HO2 : Hid (OwnE w2 w1.heap.size (.slice (some ⟨w1.heap.size, 0, none⟩) 0 0) []) := ((OwnE.empty w1 _ (Nat.le_refl _)).keep ((Grows.refl _).alloc _)).keep g2
    have HX2 : Hid (Box w2 (w1.heap.size + 1) (.slice (some ⟨w1.heap.size, 0, none⟩) 0 0) 65) := by
      have h := Box.new (w1.alloc (.cells #[] 102)) (.slice (some ⟨w1.heap.size, 0, none⟩) 0 0) 65
      simp only [World.size_alloc] at h
      exact h.keep g2
    have HS2 : Hid (OwnS w2 (w1.heap.size + 1 + 1) sv ss) := by have h := hsv; simp only [World.size_alloc] at h; exact h
    obtain ⟨B, cB, rfl, _⟩ := hsv.form
    obtain ⟨p, hp⟩ : ∃ p, ss.length = p := ⟨_, rfl⟩
    rw [hp] at hss HS2 ⊢
    have HP := Lib.hid hp
    have hs2 : w1.heap.size + 1 + 1 ≤ w2.heap.size := Nat.le_trans (by simp) g2.size
    clear g2 hsv hp hb1
    go_wp2_with fail
    go_loopw [5] (fun i wr => ∃ (j : Nat) (K : List Ent) (v : Value), j ≤ p ∧ i = .int .i64 j ∧ Hid (K = esecs ls (ss.take j)) ∧ K.length ≤ j * 20 ∧ Hid (OwnE wr w1.heap.size v K) ∧ Hid (Box wr (w1.heap.size + 1) v 65) ∧ Hid (v.ownBlock ≠ some (w1.heap.size + 1)) ∧ Hid (OwnS wr (w1.heap.size + 1 + 1) (.slice B p cB) ss) ∧ Hid (Apart v (.slice B p cB)) ∧ Hid (Grows w1 wr)) (fun i _ => p - (intOf i).toNat)
    case atStart => exact ⟨0, [], _, Nat.zero_le _, rfl, rfl, Nat.zero_le _, HO2.out, HX2.out, (fun h => by have h' : some w1.heap.size = some (w1.heap.size + 1) := h; injection h' with h'; omega), HS2.out, Apart.less (b := w1.heap.size + 1) (fun k hk => by have h' : some w1.heap.size = some k := hk; injection h' with h'; omega) (fun k hk => by have := (World.ownsRow.lt HS2.out k hk).1; omega), HG2.out⟩
    case round =>
      obtain ⟨j, K, v, hj, rfl, HK, hKj, HO, HX, HNB, HS, HAP, HG⟩ := hrel
      have hb0 : wr.cell? ⟨w.heap.size, 0, none⟩ = some (.slice A n c) := ((HG0.out.trans HG.out).cell (p := ⟨w.heap.size, 0, none⟩) (by simp; omega)).trans (by simp [fbox])
      have hbo := HX.out.cell
      have hbf := HX.out.free
      obtain ⟨A9, n9, c9, hv9⟩ := HO.out.form3
      by_cases hlt : j < p
      · have hjs : j < ss.length := by rw [HP.out]; exact hlt
        obtain ⟨B', cB', hv, hC⟩ := OwnS.form HS.out
        injection hv with hv1 hv2 hv3
        subst hv1
        obtain ⟨gb, rfl, hgo2, hgb, hcs, _⟩ := hC (by omega)
        have c1 := hcs j hjs
        obtain ⟨s, hs⟩ : ∃ s, ss[j] = s := ⟨_, rfl⟩
        rw [hs] at c1
        have HSE1 := Lib.hid hs
        have HTS : Hid (esecs ls (ss.take (j + 1)) = K ++ ekeys ls s (keysOf' ls s)) := by
          unfold Hid; rw [esecs_succ ls hjs, hs, ← HK.out]
        have HKS := Lib.hid (HKE.out s)
        have hk20 := keys_20 ls s
        obtain ⟨ks, hks⟩ : ∃ ks, keysOf' ls s = ks := ⟨_, rfl⟩
        have HKW : Hid (∀ i (h : i < ks.length), ∃ k : Nat, lastP ls s ks[i] ls.length = k ∧ ∃ hk : k < ls.length, ls[k].va = getV ls s ks[i]) := by
          subst hks
          intro i h
          obtain ⟨k, h1, hk, h2, _⟩ := keys_where h
          exact ⟨k, h1, hk, h2⟩
        rw [hks] at HTS HKS hk20
        clear hcs hs hks hv2 hv3 hC hv9 hbo hbf hgo2
        go_wp2_with fail
        refine wp_region_M 5 (CellsAre [(⟨w.heap.size, 0, none⟩, .slice A n c), (⟨gb, j, none⟩, .string s)]) (by kernel_rfl) (by kernel_rfl) ⟨hb0, c1, trivial⟩ (fun hB hS => ?_)
        refine wpAnyM_take (i := 0) (v := ?va0) hB rfl (by kernel_rfl) (fun _ _ _ h => h) (by rfl) ?ya0 hS ?na0
        case ya0 => (intro w9 hSw; obtain ⟨s1, s2, _⟩ := hSw; go_simp; try with_reducible rfl)
        refine wpAnyM_take (i := 1) (v := ?va1) hB rfl (by kernel_rfl) (fun _ _ _ h => h) (by rfl) ?ya1 hS ?na1
        case ya1 => (intro w9 hSw; obtain ⟨s1, s2, _⟩ := hSw; go_simp; try with_reducible rfl)
        refine wpAnyM_take (i := 2) (v := ?va2) hB rfl (by kernel_rfl) (fun _ _ _ h => h) (by rfl) ?ya2 hS ?na2
        case ya2 => (intro w9 hSw; obtain ⟨s1, s2, _⟩ := hSw; go_simp; try with_reducible rfl)
        refine wpAnyM_take (i := 3) (v := ?va3) hB rfl (by kernel_rfl) (fun _ _ _ h => h) (by rfl) ?ya3 hS ?na3
        case ya3 => (intro w9 hSw; obtain ⟨s1, s2, _⟩ := hSw; go_simp; try with_reducible rfl)
        refine wpAnyM_take (i := 4) (v := ?va4) hB rfl (by kernel_rfl) (fun _ _ _ h => h) (by rfl) ?ya4 hS ?na4
        case ya4 => (intro w9 hSw; obtain ⟨s1, s2, _⟩ := hSw; go_simp; try with_reducible rfl)
        refine wpAnyM_tail (by kernel_rfl) ?_
        clear hB hS hb0 c1
        go_wp2_with fail
        refine (HKS.out _ (HG1.out.trans (HG.out.drew))).mono ?_
        rintro e w3 ⟨kv, rfl, hkv, g3⟩
        have g3' : Grows wr w3 := (Grows.refl _).drew.trans g3
        have HKV : Hid (OwnS w3 wr.heap.size kv ks) := hkv
        have HAK : Hid (Apart v kv) := Apart.less (fun k hk => (HO.out.lt k hk).2) (fun k hk => (World.ownsRow.lt HKV.out k hk).1)
        have HNK : Hid (kv.ownBlock ≠ some (w1.heap.size + 1)) := fun e => by
          have h1 := (World.ownsRow.lt HKV.out _ e).1
          have h2 := HX.out.lt
          omega
        obtain ⟨C, cC, rfl, _⟩ := hkv.form
        have HG3 : Hid (Grows w1 w3) := HG.out.trans g3'
        have HO3 := Lib.hid (HO.out.keep g3')
        have HX3 := Lib.hid (HX.out.keep g3')
        have HS3 := Lib.hid (OwnS.keep HS.out g3')
        obtain ⟨q, hq⟩ : ∃ q, ks.length = q := ⟨_, rfl⟩
        rw [hq] at hk20 HAK HKV HNK ⊢
        have HQ := Lib.hid hq
        clear g3 g3' hkv hq hgb
        go_wp2_with fail
        go_loopw [7] (fun i wx => ∃ (k : Nat) (M : List Ent) (v : Value), k ≤ q ∧ i = .int .i64 k ∧ Hid (M = K ++ ekeys ls s (ks.take k)) ∧ M.length ≤ j * 20 + k ∧ Hid (OwnE wx w1.heap.size v M) ∧ Hid (Box wx (w1.heap.size + 1) v 65) ∧ Hid (v.ownBlock ≠ some (w1.heap.size + 1)) ∧ Hid (OwnS wx (w1.heap.size + 1 + 1) (.slice (some ⟨gb, 0, none⟩) p cB) ss) ∧ Hid (Apart v (.slice (some ⟨gb, 0, none⟩) p cB)) ∧ Hid (OwnS wx wr.heap.size (.slice C q cC) ks) ∧ Hid (Apart v (.slice C q cC)) ∧ Hid (Grows w1 wx)) (fun i _ => q - (intOf i).toNat)
        case atStart => exact ⟨0, K, v, Nat.zero_le _, rfl, by unfold Hid; simp [ekeys], by omega, HO3.out, HX3.out, HNB.out, HS3.out, HAP.out, HKV.out, HAK.out, HG3.out⟩
        case round =>
          obtain ⟨k, M, v, hk, rfl, HM, hMk, HOx, HXx, HNx, HSx, HAx, HKx, HAKx, HGx⟩ := hrel
          have hbx : wr.cell? ⟨w.heap.size, 0, none⟩ = some (.slice A n c) := ((HG0.out.trans HGx.out).cell (p := ⟨w.heap.size, 0, none⟩) (by simp; omega)).trans (by simp [fbox])
          have hox := HXx.out.cell
          by_cases hlk : k < q
          · have hks : k < ks.length := by rw [HQ.out]; exact hlk
            obtain ⟨C', cC', hv, hC⟩ := OwnS.form HKx.out
            injection hv with hv1 hv2 hv3
            subst hv1
            obtain ⟨gc, rfl, _, hgc, hcc, _⟩ := hC (by omega)
            have d0 := hcc k hks
            obtain ⟨B3, cB3, hv5, hC3⟩ := OwnS.form HSx.out
            injection hv5 with hv51 hv52 hv53
            obtain ⟨gb3, hgbe3, _, _, hcs3, _⟩ := hC3 (by omega)
            have d1 := hcs3 j hjs
            rw [HSE1.out] at d1
            rw [← hv51] at hgbe3
            injection hgbe3 with hgbe3
            injection hgbe3 with hgbe3
            subst hgbe3
            have hts := ekeys_succ ls s hks
            obtain ⟨kk, hkk, hkn, hva⟩ := HKW.out k hks
            obtain ⟨x, hx⟩ : ∃ x, ks[k] = x := ⟨_, rfl⟩
            rw [hx] at d0 hts hkk hva
            rw [HN.out] at hkk
            have HLX := Lib.hid (HLP.out s x)
            rw [hkk] at HLX
            obtain ⟨bl, ol, rfl, hbl, hcl⟩ := HA.out (by omega)
            obtain ⟨_, _, _, _, d4, _⟩ := (hcl kk hkn).keep hbl (HG1.out.trans HGx.out)
            rw [hva] at d4
            have hkn2 : kk < n := by rw [← HN.out]; exact hkn
            unfold entL at hts
            obtain ⟨y, hy⟩ : ∃ y, getV ls s x = y := ⟨_, rfl⟩
            rw [hy] at hts d4
            have HM2 : Hid (M ++ [Ent.mk s x 0 y] = K ++ ekeys ls s (ks.take (k + 1))) := by unfold Hid; rw [hts, ← List.append_assoc, HM.out]
            clear hcc hx hy hts hv2 hv3 hC hv51 hv52 hv53 hC3 hcs3 hkk hva hcl hks
            go_wp2_with fail
            refine wp_region_M 27 (CellsAre [(⟨w1.heap.size + 1, 0, none⟩, v), (⟨gc, k, none⟩, .string x), (⟨w.heap.size, 0, none⟩, .slice (some ⟨bl, ol, none⟩) n c), (⟨gb, j, none⟩, .string s), (⟨bl, ol + kk * 6 + 4, none⟩, .string y)]) (by kernel_rfl) (by kernel_rfl) ⟨hox, d0, hbx, d1, d4, trivial⟩ (fun hB hS => ?_)
            refine wpAnyM_take (i := 0) (v := ?vb0) hB rfl (by kernel_rfl) (fun _ _ _ h => h) (by rfl) ?yb0 hS ?nb0
            case yb0 => (intro w9 hSw; obtain ⟨s1, s2, s3, s4, s5, _⟩ := hSw; go_simp; try with_reducible rfl)
            refine wpAnyM_take (i := 1) (v := ?vb1) hB rfl (by kernel_rfl) (fun _ _ _ h => h) (by rfl) ?yb1 hS ?nb1
            case yb1 => (intro w9 hSw; obtain ⟨s1, s2, s3, s4, s5, _⟩ := hSw; go_simp; try with_reducible rfl)
            refine wpAnyM_take (i := 2) (v := ?vb2) hB rfl (by kernel_rfl) (fun _ _ _ h => h) (by rfl) ?yb2 hS ?nb2
            case yb2 => (intro w9 hSw; obtain ⟨s1, s2, s3, s4, s5, _⟩ := hSw; go_simp; try with_reducible rfl)
            refine wpAnyM_take (i := 3) (v := ?vb3) hB rfl (by kernel_rfl) (fun _ _ _ h => h) (by rfl) ?yb3 hS ?nb3
            case yb3 => (intro w9 hSw; obtain ⟨s1, s2, s3, s4, s5, _⟩ := hSw; go_simp; try with_reducible rfl)
            refine wpAnyM_take (i := 4) (v := ?vb4) hB rfl (by kernel_rfl) (fun _ _ _ h => h) (by rfl) ?yb4 hS ?nb4
            case yb4 => (intro w9 hSw; obtain ⟨s1, s2, s3, s4, s5, _⟩ := hSw; go_simp; try with_reducible rfl)
            refine wpAnyM_take (i := 5) (v := ?vb5) hB rfl (by kernel_rfl) (fun _ _ _ h => h) (by rfl) ?yb5 hS ?nb5
            case yb5 => (intro w9 hSw; obtain ⟨s1, s2, s3, s4, s5, _⟩ := hSw; go_simp; try with_reducible rfl)
            refine wpAnyM_take (i := 6) (v := ?vb6) hB rfl (by kernel_rfl) (fun _ _ _ h => h) (by rfl) ?yb6 hS ?nb6
            case yb6 => (intro w9 hSw; obtain ⟨s1, s2, s3, s4, s5, _⟩ := hSw; go_simp; try with_reducible rfl)
            refine wpAnyM_take (i := 7) (v := ?vb7) hB rfl (by kernel_rfl) (fun _ _ _ h => h) (by rfl) ?yb7 hS ?nb7
            case yb7 => (intro w9 hSw; obtain ⟨s1, s2, s3, s4, s5, _⟩ := hSw; go_simp; try with_reducible rfl)
            refine wpAnyM_take (i := 8) (v := ?vb8) hB rfl (by kernel_rfl) (fun _ _ _ h => h) (by rfl) ?yb8 hS ?nb8
            case yb8 => (intro w9 hSw; obtain ⟨s1, s2, s3, s4, s5, _⟩ := hSw; go_simp; try with_reducible rfl)
            refine wpAnyM_take (i := 9) (v := ?vb9) hB rfl (by kernel_rfl) (fun _ _ _ h => h) (by rfl) ?yb9 hS ?nb9
            case yb9 => (intro w9 hSw; obtain ⟨s1, s2, s3, s4, s5, _⟩ := hSw; go_simp; try with_reducible rfl)
            refine wpAnyM_take (i := 10) (v := ?vb10) hB rfl (by kernel_rfl) (fun _ _ _ h => h) (by rfl) ?yb10 hS ?nb10
            case yb10 => (intro w9 hSw; obtain ⟨s1, s2, s3, s4, s5, _⟩ := hSw; go_simp; try with_reducible rfl)
            refine wpAnyM_take (i := 11) (v := ?vb11) hB rfl (by kernel_rfl) (fun _ _ _ h => h) (by rfl) ?yb11 hS ?nb11
            case yb11 => (intro w9 hSw; obtain ⟨s1, s2, s3, s4, s5, _⟩ := hSw; go_simp; try with_reducible rfl)
            refine wpAnyM_take (i := 12) (v := ?vb12) hB rfl (by kernel_rfl) (fun _ _ _ h => h) (by rfl) ?yb12 hS ?nb12
            case yb12 => (intro w9 hSw; obtain ⟨s1, s2, s3, s4, s5, _⟩ := hSw; go_simp; try with_reducible rfl)
            refine wpAnyM_take (i := 13) (v := ?vb13) hB rfl (by kernel_rfl) (fun _ _ _ h => h) (by rfl) ?yb13 hS ?nb13
            case yb13 => (intro w9 hSw; obtain ⟨s1, s2, s3, s4, s5, _⟩ := hSw; go_simp; try with_reducible rfl)
            refine wpAnyM_take (i := 14) (v := ?vb14) hB rfl (by kernel_rfl) (fun _ _ _ h => h) (by rfl) ?yb14 hS ?nb14
            case yb14 => (intro w9 hSw; obtain ⟨s1, s2, s3, s4, s5, _⟩ := hSw; go_simp; try with_reducible rfl)
            refine wpAnyM_take (i := 15) (v := ?vb15) hB rfl (by kernel_rfl) (fun _ _ _ h => h) (by rfl) ?yb15 hS ?nb15
            case yb15 => (intro w9 hSw; obtain ⟨s1, s2, s3, s4, s5, _⟩ := hSw; go_simp; try with_reducible rfl)
            refine wpAnyM_take (i := 16) (v := ?vb16) hB rfl (by kernel_rfl) (fun _ _ _ h => h) (by rfl) ?yb16 hS ?nb16
            case yb16 => (intro w9 hSw; obtain ⟨s1, s2, s3, s4, s5, _⟩ := hSw; go_simp; try with_reducible rfl)
            refine wpAnyM_take (i := 17) (v := ?vb17) hB rfl (by kernel_rfl) (fun _ _ _ h => h) (by rfl) ?yb17 hS ?nb17
            case yb17 => (intro w9 hSw; obtain ⟨s1, s2, s3, s4, s5, _⟩ := hSw; go_simp; try with_reducible rfl)
            refine wpAnyM_take (i := 18) (v := ?vb18) hB rfl (by kernel_rfl) (fun _ _ _ h => h) (by rfl) ?yb18 hS ?nb18
            case yb18 => (intro w9 hSw; obtain ⟨s1, s2, s3, s4, s5, _⟩ := hSw; go_simp; try with_reducible rfl)
            refine wpAnyM_take (i := 19) (v := ?vb19) hB rfl (by kernel_rfl) (fun _ _ _ h => h) (by rfl) ?yb19 hS ?nb19
            case yb19 => (intro w9 hSw; obtain ⟨s1, s2, s3, s4, s5, _⟩ := hSw; go_simp; try with_reducible rfl)
            refine wpAnyM_take (i := 20) (v := ?vb20) hB rfl (by kernel_rfl) (fun _ _ _ h => h) (by rfl) ?yb20 hS ?nb20
            case yb20 => (intro w9 hSw; obtain ⟨s1, s2, s3, s4, s5, _⟩ := hSw; go_simp; try with_reducible rfl)
            refine wpAnyM_one (i := 21) rfl (by kernel_rfl) rfl ?_
            go_wp2_with fail
            refine (HLX.out _ (HG1.out.trans HGx.out.drew)).mono ?_
            rintro e w4 ⟨rfl, g4⟩
            have HS4 := Lib.hid (CellsAre.keep hS g4)
            have G4 : Hid (Grows wr w4) := (Grows.refl _).drew.trans g4
            clear g4 hS
            go_wp2_with fail
            refine ⟨HS4.out, ?_⟩
            have hS := HS4.out
            refine wpAnyM_take (i := 22) (v := ?vb22) hB rfl (by kernel_rfl) (fun _ _ _ h => h) (by rfl) ?yb22 hS ?nb22
            case yb22 => (intro w9 hSw; obtain ⟨s1, s2, s3, s4, s5, _⟩ := hSw; go_simp; try with_reducible rfl)
            refine wpAnyM_take (i := 23) (v := ?vb23) hB rfl (by kernel_rfl) (fun _ _ _ h => h) (by rfl) ?yb23 hS ?nb23
            case yb23 => (intro w9 hSw; obtain ⟨s1, s2, s3, s4, s5, _⟩ := hSw; go_simp; try with_reducible rfl)
            refine wpAnyM_take (i := 24) (v := ?vb24) hB rfl (by kernel_rfl) (fun _ _ _ h => h) (by rfl) ?yb24 hS ?nb24
            case yb24 => (intro w9 hSw; obtain ⟨s1, s2, s3, s4, s5, _⟩ := hSw; go_simp; try with_reducible rfl)
            refine wpAnyM_take (i := 25) (v := ?vb25) hB rfl (by kernel_rfl) (fun _ _ _ h => h) (by rfl) ?yb25 hS ?nb25
            case yb25 => (intro w9 hSw; obtain ⟨s1, s2, s3, s4, s5, _⟩ := hSw; go_simp; try with_reducible rfl)
            refine wpAnyM_one (i := 26) rfl (by kernel_rfl) rfl ?_
            clear hS
            go_wp2_with fail
            refine ⟨CellsAre.keep HS4.out ((Grows.refl _).alloc _), ?_⟩
            refine wpAnyM_tail (by kernel_rfl) ?_
            clear HS4 hB hox d0 d1 d4 hbx
            have HO5 := Lib.hid (HOx.out.keep G4.out)
            go_wp2_with (at_builtin; refine appEs rfl _ _ rfl w1.heap.size v M rfl (HO5.out.keep ((Grows.refl _).alloc _)) ⟨w4.heap.size, 0, none⟩ 1 1 [Ent.mk s x 0 y] rfl rfl (by omega) (one_newsE _ _ _ rfl) (by omega) (by omega) (Nat.le_trans (HGx.out.trans G4.out).size (by simp)) ?_)
            intro v' w6 HO6 HGB HNE
            have G6 : Hid (wr.grownBy w6 v.ownBlock) := (gb_of2 (G4.out.alloc _) _).trans HGB.out
            obtain ⟨A8, n8, c8, rfl⟩ := HO6.out.form3
            have HX6 := Lib.hid (HXx.out.far G6.out HNx.out)
            have hx6 := HX6.out.cell
            have hf6 := HX6.out.free
            have HN6 : Hid ((Value.slice A8 n8 c8).ownBlock ≠ some (w1.heap.size + 1)) := fun e => by
              rcases HNE.out _ e with h | h
              · exact HNx.out h
              · have h1 := HXx.out.lt
                have h2 := G4.out.size
                simp only [World.size_alloc] at h
                omega
            have HS6 := Lib.hid (OwnS.far HSx.out G6.out (fun k hk e => HAx.out k e hk))
            have HA6 : Hid (Apart (.slice A8 n8 c8) (.slice (some ⟨gb, 0, none⟩) p cB)) := HAx.out.near HNE.out (fun k hk => Nat.lt_of_lt_of_le (World.ownsRow.lt HSx.out k hk).2 (Nat.le_trans G4.out.size (by simp)))
            have HK6 := Lib.hid (OwnS.far HKx.out G6.out (fun k hk e => HAKx.out k e hk))
            have HAK6 : Hid (Apart (.slice A8 n8 c8) (.slice (some ⟨gc, 0, none⟩) q cC)) := HAKx.out.near HNE.out (fun k hk => Nat.lt_of_lt_of_le (World.ownsRow.lt HKx.out k hk).2 (Nat.le_trans G4.out.size (by simp)))
            have HG6 : Hid (Grows w1 w6) := HGx.out.mark G6.out (fun k hk => (HOx.out.lt k hk).1)
            clear HGB HNE
            go_wp2
            go_roundw
            case rel => exact ⟨k + 1, M ++ [Ent.mk s x 0 y], _, by omega, by go_num, HM2.out, by simp; omega, HO6.out.setFar HN6.out _, HX6.out.set_ _, HN6.out, HS6.out.setFar (fun e => by have := (World.ownsRow.lt HS6.out _ e).1; omega) _, HA6.out, HK6.out.setFar HNK.out _, HAK6.out, HG6.out.setCell (by simp) _⟩
            case measure => simp [intOf]; omega
          · obtain rfl : k = q := by omega
            have HM3 : Hid (M = esecs ls (ss.take (j + 1))) := by
              unfold Hid
              rw [HTS.out, HM.out, ← HQ.out, List.take_length]
            go_wp2
            go_roundw
            case rel => exact ⟨j + 1, M, v, by omega, by go_num, HM3.out, by omega, HOx.out, HXx.out, HNx.out, HSx.out, HAx.out, HGx.out⟩
            case measure => simp [intOf]; omega
      · obtain rfl : j = p := by omega
        have h1 : wr.cell? ⟨w.heap.size + 1, 0, none⟩ = some (.slice none 0 0) := ((HG0.out.trans HG.out).cell (p := ⟨w.heap.size + 1, 0, none⟩) (by simp)).trans (by simp [fbox])
        have h2 : wr.frozen? ⟨w.heap.size + 1, 0, none⟩ = false := ((HG0.out.trans HG.out).frozen (p := ⟨w.heap.size + 1, 0, none⟩) (by simp)).trans (by simp [fbox])
        have HR : Hid (K = layOf ls) := by unfold Hid; rw [HT.out, HK.out, ← HP.out, List.take_length]
        have hn9 : v.ownBlock ≠ some (w.heap.size + 1) := fun e => by have := (HO.out.lt _ e).1; omega
        have HN9 := Lib.hid hn9
        clear hn9
        subst hv9
        go_wp2
        refine bodyPost_ret (v := .agg #[.slice A9 n9 c9]) (by simp [results, Try.results54, go_sem, h1]) rfl ?_
        rw [← HR.out]
        exact ⟨_, rfl, (HO.out.setFar HN9.out _).less HG1.out.size, (HG1.out.trans HG.out).setCell (by simp) _⟩
  · have hv' : vfile ls = false := by simpa using hv
    rw [hv'] at HF
    have HV : Hid (layOf ls = []) := lay_no hv'
    clear hv hv' hss
    go_enter Try.func54, Try.ntmps54
    go_wp2_with fail
    refine (HF.out _ (((Grows.refl _).alloc _).alloc _)).mono ?_
    rintro e w1 ⟨rfl, g1⟩
    have HG1 : Hid (Grows w w1) := (((Grows.refl _).alloc _).alloc _).trans g1
    have h1 : w1.cell? ⟨w.heap.size + 1, 0, none⟩ = some (.slice none 0 0) := (g1.cell (p := ⟨w.heap.size + 1, 0, none⟩) (by simp)).trans (by simp)
    have h2 : w1.frozen? ⟨w.heap.size + 1, 0, none⟩ = false := (g1.frozen (p := ⟨w.heap.size + 1, 0, none⟩) (by simp)).trans (by simp)
    clear g1
    go_wp2
    refine bodyPost_ret (v := .agg #[.slice none 0 0]) (by simp [results, Try.results54, go_sem, h1]) rfl ?_
    rw [HV.out]
    exact ⟨_, rfl, OwnE.nil _ _, HG1.out.setCell (by simp) _⟩
end Go.Proofs.Yteifcogfnpeahaa
