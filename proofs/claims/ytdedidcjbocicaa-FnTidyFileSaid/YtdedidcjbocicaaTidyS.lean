/-
  The tidy file of the specification. Conditions: at most 1048576 bytes in all.
-/
import Derived.Test.YtdedidcjbocicaaTidy
import Derived.Test.YtdedidcjbocicaaRegM
namespace Go.Proofs.Ytdedidcjbocicaa
open Go.RowKit

set_option maxHeartbeats 1000000 in
theorem newPair_any (k v : ByteArray) (w : World) : Calls Try.prog 40 #[.string k, .string v] w fun e w' => e = .returned (.agg #[.int .i64 3, .string ⟨#[]⟩, .string k, .string newSep, .string v, .string ⟨#[]⟩]) ∧ Grows w w' := by
  go_enter Try.func40, Try.ntmps40
  go_wp2
  exact bodyPost_ret (v := .agg #[.int .i64 3, .string ⟨#[]⟩, .string k, .string newSep, .string v, .string ⟨#[]⟩]) (by simp [results, Try.results40, go_sem, newSep]) rfl ⟨rfl, ((Grows.refl _).alloc _)⟩

set_option maxRecDepth 100000 in
set_option maxHeartbeats 4000000 in
theorem specTidy_any (A : Option Addr) (c : Nat) (ls : List Ln) (w : World) (hf : AllFit ls) (hA : LnsAt w A ls) :
    Calls Try.prog 18 #[.agg #[.slice A ls.length c]] w (ResL (tidyOf ls) w) := by
  have HF := Lib.hid (fun w1 (g : Grows w w1) => specFile_any A c ls w1 hf (hA.keep g))
  have HA := Lib.hid hA
  have HSE := Lib.hid (fun w1 (g : Grows w w1) => specSecs_any A c ls w1 hf (hA.keep g))
  have HKE := Lib.hid (fun s w1 (g : Grows w w1) => specKeys_any A c ls s w1 hf (hA.keep g))
  have HLP := Lib.hid (fun s key w1 (g : Grows w w1) => lastPair_any A c ls s key w1 hf.1 (hA.keep g))
  have hss := secs_20 ls
  have hn : ls.length ≤ 1048576 := hf.1
  clear hA hf
  by_cases hv : vfile ls = true
  · have HT : Hid (tidyOf ls = tsecs ls (secsOf' ls)) := rfl
    rw [hv] at HF
    clear hv
    unfold StrsRet at HSE HKE
    obtain ⟨ss, hsx⟩ : ∃ ss, secsOf' ls = ss := ⟨_, rfl⟩
    rw [hsx] at HSE HT hss
    clear hsx
    obtain ⟨n, hnn⟩ : ∃ n, ls.length = n := ⟨_, rfl⟩
    rw [hnn] at HSE HKE HLP HF hn
    rw [hnn]
    have HN := Lib.hid hnn
    clear hnn
    go_enter Try.func18, Try.ntmps18
    go_wp2_with fail
    refine (HF.out _ (((Grows.refl _).alloc _).alloc _)).mono ?_
    rintro e w1 ⟨rfl, g1⟩
    have HG0 : Hid (Grows ((w.alloc (fbox A n c)).alloc (fbox none 0 0)) w1) := g1
    have HG1 : Hid (Grows w w1) := (((Grows.refl _).alloc _).alloc _).trans g1
    have hs1 : w.heap.size + 1 < w1.heap.size := Nat.lt_of_lt_of_le (by simp) g1.size
    have hs0 : w.heap.size < w1.heap.size := by omega
    have hb1 : w1.cell? ⟨w.heap.size, 0, none⟩ = some (.slice A n c) := (HG0.out.cell (p := ⟨w.heap.size, 0, none⟩) (by simp; omega)).trans (by simp [fbox])
    clear g1
    go_wp2_with fail
    refine (HSE.out _ ((HG1.out.alloc _).alloc _)).mono ?_
    rintro e w2 ⟨sv, rfl, hsv, g2⟩
    have HG2 : Hid (Grows w1 w2) := (((Grows.refl _).alloc _).alloc _).trans g2
    have HO2 : Hid (OwnL w2 w1.heap.size (.slice (some ⟨w1.heap.size, 0, none⟩) 0 0) []) := ((OwnL.empty w1 _ (Nat.le_refl _)).keep ((Grows.refl _).alloc _)).keep g2
    have HX2 : Hid (Box w2 (w1.heap.size + 1) (.slice (some ⟨w1.heap.size, 0, none⟩) 0 0) 25) := by
      have h := Box.new (w1.alloc (.cells #[] 39)) (.slice (some ⟨w1.heap.size, 0, none⟩) 0 0) 25
      simp only [World.size_alloc] at h
      exact h.keep g2
    have HS2 : Hid (OwnS w2 (w1.heap.size + 1 + 1) sv ss) := by have h := hsv; simp only [World.size_alloc] at h; exact h
    obtain ⟨B, cB, rfl, _⟩ := hsv.form
    obtain ⟨p, hp⟩ : ∃ p, ss.length = p := ⟨_, rfl⟩
    rw [hp] at hss HS2 ⊢
    have HP := Lib.hid hp
    have hs2 : w1.heap.size + 1 + 1 ≤ w2.heap.size := Nat.le_trans (by simp) g2.size
    clear g2 hsv hp hb1
    go_wp2_with fail
    go_loopw [5] (fun i wr => ∃ (j : Nat) (K : List Ln) (v : Value), j ≤ p ∧ i = .int .i64 j ∧ Hid (K = tsecs ls (ss.take j)) ∧ K.length ≤ j * 21 ∧ Hid (OwnL wr w1.heap.size v K) ∧ Hid (Box wr (w1.heap.size + 1) v 25) ∧ Hid (v.ownBlock ≠ some (w1.heap.size + 1)) ∧ Hid (OwnS wr (w1.heap.size + 1 + 1) (.slice B p cB) ss) ∧ Hid (Apart v (.slice B p cB)) ∧ Hid (Grows w1 wr)) (fun i _ => p - (intOf i).toNat)
    case atStart => exact ⟨0, [], _, Nat.zero_le _, rfl, rfl, Nat.zero_le _, HO2.out, HX2.out, (fun h => by have h' : some w1.heap.size = some (w1.heap.size + 1) := h; injection h' with h'; omega), HS2.out, Apart.less (b := w1.heap.size + 1) (fun k hk => by have h' : some w1.heap.size = some k := hk; injection h' with h'; omega) (fun k hk => by have := (World.ownsRow.lt HS2.out k hk).1; omega), HG2.out⟩
    case round =>
      obtain ⟨j, K, v, hj, rfl, HK, hKj, HO, HX, HNB, HS, HAP, HG⟩ := hrel
      have hb0 : wr.cell? ⟨w.heap.size, 0, none⟩ = some (.slice A n c) := ((HG0.out.trans HG.out).cell (p := ⟨w.heap.size, 0, none⟩) (by simp; omega)).trans (by simp [fbox])
      have hbo := HX.out.cell
      have hbf := HX.out.free
      obtain ⟨A9, c9, hv9, _⟩ := HO.out.form
      by_cases hlt : j < p
      · have hjs : j < ss.length := by rw [HP.out]; exact hlt
        obtain ⟨B', cB', hv, hC⟩ := OwnS.form HS.out
        injection hv with hv1 hv2 hv3
        subst hv1
        obtain ⟨gb, rfl, hgo2, hgb, hcs, _⟩ := hC (by omega)
        have c1 := hcs j hjs
        obtain ⟨s, hs⟩ : ∃ s, ss[j] = s := ⟨_, rfl⟩
        rw [hs] at c1
        have HSE1 := Lib.hid hs
        have HTS : Hid (tsecs ls (ss.take (j + 1)) = K ++ (thead s ++ tkeys ls s (keysOf' ls s))) := by
          unfold Hid; rw [tsecs_succ ls hjs, hs, ← HK.out]; rfl
        have HKS := Lib.hid (HKE.out s)
        have hk20 := keys_20 ls s
        have hth := thead_le s
        obtain ⟨ks, hks⟩ : ∃ ks, keysOf' ls s = ks := ⟨_, rfl⟩
        have HKW : Hid (∀ i (h : i < ks.length), ∃ k : Nat, lastP ls s ks[i] ls.length = k ∧ ∃ hk : k < ls.length, ls[k].va = getV ls s ks[i]) := by
          subst hks
          intro i h
          obtain ⟨k, h1, hk, h2, _⟩ := keys_where h
          exact ⟨k, h1, hk, h2⟩
        rw [hks] at HTS HKS hk20
        clear hcs hs hks hv2 hv3 hC
        by_cases he : s.toList.isEmpty = true
        · have he2 := toList_nil_of he
          have HH : Hid (thead s = []) := by unfold Hid thead; rw [if_pos he]
          clear hv9
          go_wp2_with fail
          clear hgb hgo2 c1 hb0 hbo hbf

          have hf10 : wr.cell? ⟨w.heap.size, 0, none⟩ = some (.slice A n c) := ((HG0.out.trans HG.out).cell (p := ⟨w.heap.size, 0, none⟩) (by simp; omega)).trans (by simp [fbox])
          obtain ⟨B2, cB2, hv2, hC2⟩ := OwnS.form HS.out
          injection hv2 with hv21 hv22 hv23
          subst hv21
          obtain ⟨gb2, hgbe, hgo2, hgb, hcs, _⟩ := hC2 (by omega)
          injection hgbe with hgbe
          injection hgbe with hgbe
          subst hgbe
          have c1 := hcs j hjs
          rw [HSE1.out] at c1
          clear hcs hv22 hv23 hC2
          refine wp_region_M 5 (CellsAre [(⟨w.heap.size, 0, none⟩, .slice A n c), (⟨gb, j, none⟩, .string s)]) (by kernel_rfl) (by kernel_rfl) ⟨hf10, c1, trivial⟩ (fun hB hS => ?_)
          refine wpAnyM_take (i := 0) (v := ?veb0) hB rfl (by kernel_rfl) (fun _ _ _ h => h) (by rfl) ?yeb0 hS ?neb0
          case yeb0 => (intro w9 hSw; obtain ⟨s1, s2, _⟩ := hSw; go_simp; try with_reducible rfl)
          refine wpAnyM_take (i := 1) (v := ?veb1) hB rfl (by kernel_rfl) (fun _ _ _ h => h) (by rfl) ?yeb1 hS ?neb1
          case yeb1 => (intro w9 hSw; obtain ⟨s1, s2, _⟩ := hSw; go_simp; try with_reducible rfl)
          refine wpAnyM_take (i := 2) (v := ?veb2) hB rfl (by kernel_rfl) (fun _ _ _ h => h) (by rfl) ?yeb2 hS ?neb2
          case yeb2 => (intro w9 hSw; obtain ⟨s1, s2, _⟩ := hSw; go_simp; try with_reducible rfl)
          refine wpAnyM_take (i := 3) (v := ?veb3) hB rfl (by kernel_rfl) (fun _ _ _ h => h) (by rfl) ?yeb3 hS ?neb3
          case yeb3 => (intro w9 hSw; obtain ⟨s1, s2, _⟩ := hSw; go_simp; try with_reducible rfl)
          refine wpAnyM_take (i := 4) (v := ?veb4) hB rfl (by kernel_rfl) (fun _ _ _ h => h) (by rfl) ?yeb4 hS ?neb4
          case yeb4 => (intro w9 hSw; obtain ⟨s1, s2, _⟩ := hSw; go_simp; try with_reducible rfl)
          refine wpAnyM_tail (by kernel_rfl) ?_
          clear hB hS hf10
          go_wp2_with fail
          refine (HKS.out _ (HG1.out.trans (HG.out.drew))).mono ?_
          rintro e w3 ⟨kv, rfl, hkv, g3⟩
          have g3' : Grows wr w3 := (Grows.refl _).drew.trans g3
          have HKV : Hid (OwnS w3 wr.heap.size kv ks) := hkv
          have HAK : Hid (Apart v kv) := Apart.less (fun k hk => (HO.out.lt k hk).2) (fun k hk => (World.ownsRow.lt HKV.out k hk).1)
          have HNK : Hid (kv.ownBlock ≠ some (w1.heap.size + 1)) := fun e => by
            have h1 := (World.ownsRow.lt HKV.out _ e).1
            have h2 := HX.out.lt
            omega
          obtain ⟨C, cC, rfl, _⟩ := hkv.form
          have HG3 : Hid (Grows w1 w3) := HG.out.trans g3'
          have HO3 := Lib.hid (HO.out.keep g3')
          have HX3 := Lib.hid (HX.out.keep g3')
          have HS3 := Lib.hid (OwnS.keep HS.out g3')
          obtain ⟨q, hq⟩ : ∃ q, ks.length = q := ⟨_, rfl⟩
          rw [hq] at hk20 HAK HKV HNK ⊢
          have HQ := Lib.hid hq
          clear g3 g3' hkv hq c1 hgb hgo2
          go_wp2_with fail
          go_loopw [7] (fun i wx => ∃ (k : Nat) (M : List Ln) (v : Value), k ≤ q ∧ i = .int .i64 k ∧ Hid (M = K ++ tkeys ls s (ks.take k)) ∧ M.length ≤ j * 21 + 1 + k ∧ Hid (OwnL wx w1.heap.size v M) ∧ Hid (Box wx (w1.heap.size + 1) v 25) ∧ Hid (v.ownBlock ≠ some (w1.heap.size + 1)) ∧ Hid (OwnS wx (w1.heap.size + 1 + 1) (.slice (some ⟨gb, 0, none⟩) p cB) ss) ∧ Hid (Apart v (.slice (some ⟨gb, 0, none⟩) p cB)) ∧ Hid (OwnS wx wr.heap.size (.slice C q cC) ks) ∧ Hid (Apart v (.slice C q cC)) ∧ Hid (Grows w1 wx)) (fun i _ => q - (intOf i).toNat)
          case atStart => exact ⟨0, K, v, Nat.zero_le _, rfl, by unfold Hid; simp [tkeys], by omega, HO3.out, HX3.out, HNB.out, HS3.out, HAP.out, HKV.out, HAK.out, HG3.out⟩
          case round =>
            obtain ⟨k, M, v, hk, rfl, HM, hMk, HOx, HXx, HNx, HSx, HAx, HKx, HAKx, HGx⟩ := hrel
            have hbx : wr.cell? ⟨w.heap.size, 0, none⟩ = some (.slice A n c) := ((HG0.out.trans HGx.out).cell (p := ⟨w.heap.size, 0, none⟩) (by simp; omega)).trans (by simp [fbox])
            have hox := HXx.out.cell
            by_cases hlk : k < q
            · have hks : k < ks.length := by rw [HQ.out]; exact hlk
              obtain ⟨C', cC', hv, hC⟩ := OwnS.form HKx.out
              injection hv with hv1 hv2 hv3
              subst hv1
              obtain ⟨gc, rfl, _, hgc, hcc, _⟩ := hC (by omega)
              have d0 := hcc k hks
              obtain ⟨B3, cB3, hv5, hC3⟩ := OwnS.form HSx.out
              injection hv5 with hv51 hv52 hv53
              obtain ⟨gb3, hgbe3, _, _, hcs3, _⟩ := hC3 (by omega)
              have d1 := hcs3 j hjs
              rw [HSE1.out] at d1
              rw [← hv51] at hgbe3
              injection hgbe3 with hgbe3
              injection hgbe3 with hgbe3
              subst hgbe3
              have hts := tkeys_succ ls s hks
              obtain ⟨kk, hkk, hkn, hva⟩ := HKW.out k hks
              obtain ⟨x, hx⟩ : ∃ x, ks[k] = x := ⟨_, rfl⟩
              rw [hx] at d0 hts hkk hva
              rw [HN.out] at hkk
              have HLX := Lib.hid (HLP.out s x)
              rw [hkk] at HLX
              obtain ⟨bl, ol, rfl, hbl, hcl⟩ := HA.out (by omega)
              obtain ⟨_, _, _, _, d4, _⟩ := (hcl kk hkn).keep hbl (HG1.out.trans HGx.out)
              rw [hva] at d4
              have hkn2 : kk < n := by rw [← HN.out]; exact hkn
              obtain ⟨y, hy⟩ : ∃ y, getV ls s x = y := ⟨_, rfl⟩
              rw [hy] at hts d4
              have HM2 : Hid (M ++ [pairL x y] = K ++ tkeys ls s (ks.take (k + 1))) := by unfold Hid; rw [hts, ← List.append_assoc, HM.out]
              clear hcc hx hy hts hv2 hv3 hC hv51 hv52 hv53 hC3 hcs3 hkk hva hcl hks
              go_wp2_with fail
              refine wp_region_M 23 (CellsAre [(⟨w1.heap.size + 1, 0, none⟩, v), (⟨gc, k, none⟩, .string x), (⟨w.heap.size, 0, none⟩, .slice (some ⟨bl, ol, none⟩) n c), (⟨gb, j, none⟩, .string s), (⟨bl, ol + kk * 6 + 4, none⟩, .string y)]) (by kernel_rfl) (by kernel_rfl) ⟨hox, d0, hbx, d1, d4, trivial⟩ (fun hB hS => ?_)
              refine wpAnyM_take (i := 0) (v := ?vec0) hB rfl (by kernel_rfl) (fun _ _ _ h => h) (by rfl) ?yec0 hS ?nec0
              case yec0 => (intro w9 hSw; obtain ⟨s1, s2, s3, s4, s5, _⟩ := hSw; go_simp; try with_reducible rfl)
              refine wpAnyM_take (i := 1) (v := ?vec1) hB rfl (by kernel_rfl) (fun _ _ _ h => h) (by rfl) ?yec1 hS ?nec1
              case yec1 => (intro w9 hSw; obtain ⟨s1, s2, s3, s4, s5, _⟩ := hSw; go_simp; try with_reducible rfl)
              refine wpAnyM_take (i := 2) (v := ?vec2) hB rfl (by kernel_rfl) (fun _ _ _ h => h) (by rfl) ?yec2 hS ?nec2
              case yec2 => (intro w9 hSw; obtain ⟨s1, s2, s3, s4, s5, _⟩ := hSw; go_simp; try with_reducible rfl)
              refine wpAnyM_take (i := 3) (v := ?vec3) hB rfl (by kernel_rfl) (fun _ _ _ h => h) (by rfl) ?yec3 hS ?nec3
              case yec3 => (intro w9 hSw; obtain ⟨s1, s2, s3, s4, s5, _⟩ := hSw; go_simp; try with_reducible rfl)
              refine wpAnyM_take (i := 4) (v := ?vec4) hB rfl (by kernel_rfl) (fun _ _ _ h => h) (by rfl) ?yec4 hS ?nec4
              case yec4 => (intro w9 hSw; obtain ⟨s1, s2, s3, s4, s5, _⟩ := hSw; go_simp; try with_reducible rfl)
              refine wpAnyM_take (i := 5) (v := ?vec5) hB rfl (by kernel_rfl) (fun _ _ _ h => h) (by rfl) ?yec5 hS ?nec5
              case yec5 => (intro w9 hSw; obtain ⟨s1, s2, s3, s4, s5, _⟩ := hSw; go_simp; try with_reducible rfl)
              refine wpAnyM_take (i := 6) (v := ?vec6) hB rfl (by kernel_rfl) (fun _ _ _ h => h) (by rfl) ?yec6 hS ?nec6
              case yec6 => (intro w9 hSw; obtain ⟨s1, s2, s3, s4, s5, _⟩ := hSw; go_simp; try with_reducible rfl)
              refine wpAnyM_take (i := 7) (v := ?vec7) hB rfl (by kernel_rfl) (fun _ _ _ h => h) (by rfl) ?yec7 hS ?nec7
              case yec7 => (intro w9 hSw; obtain ⟨s1, s2, s3, s4, s5, _⟩ := hSw; go_simp; try with_reducible rfl)
              refine wpAnyM_take (i := 8) (v := ?vec8) hB rfl (by kernel_rfl) (fun _ _ _ h => h) (by rfl) ?yec8 hS ?nec8
              case yec8 => (intro w9 hSw; obtain ⟨s1, s2, s3, s4, s5, _⟩ := hSw; go_simp; try with_reducible rfl)
              refine wpAnyM_take (i := 9) (v := ?vec9) hB rfl (by kernel_rfl) (fun _ _ _ h => h) (by rfl) ?yec9 hS ?nec9
              case yec9 => (intro w9 hSw; obtain ⟨s1, s2, s3, s4, s5, _⟩ := hSw; go_simp; try with_reducible rfl)
              refine wpAnyM_take (i := 10) (v := ?vec10) hB rfl (by kernel_rfl) (fun _ _ _ h => h) (by rfl) ?yec10 hS ?nec10
              case yec10 => (intro w9 hSw; obtain ⟨s1, s2, s3, s4, s5, _⟩ := hSw; go_simp; try with_reducible rfl)
              refine wpAnyM_take (i := 11) (v := ?vec11) hB rfl (by kernel_rfl) (fun _ _ _ h => h) (by rfl) ?yec11 hS ?nec11
              case yec11 => (intro w9 hSw; obtain ⟨s1, s2, s3, s4, s5, _⟩ := hSw; go_simp; try with_reducible rfl)
              refine wpAnyM_take (i := 12) (v := ?vec12) hB rfl (by kernel_rfl) (fun _ _ _ h => h) (by rfl) ?yec12 hS ?nec12
              case yec12 => (intro w9 hSw; obtain ⟨s1, s2, s3, s4, s5, _⟩ := hSw; go_simp; try with_reducible rfl)
              refine wpAnyM_take (i := 13) (v := ?vec13) hB rfl (by kernel_rfl) (fun _ _ _ h => h) (by rfl) ?yec13 hS ?nec13
              case yec13 => (intro w9 hSw; obtain ⟨s1, s2, s3, s4, s5, _⟩ := hSw; go_simp; try with_reducible rfl)
              refine wpAnyM_take (i := 14) (v := ?vec14) hB rfl (by kernel_rfl) (fun _ _ _ h => h) (by rfl) ?yec14 hS ?nec14
              case yec14 => (intro w9 hSw; obtain ⟨s1, s2, s3, s4, s5, _⟩ := hSw; go_simp; try with_reducible rfl)
              refine wpAnyM_take (i := 15) (v := ?vec15) hB rfl (by kernel_rfl) (fun _ _ _ h => h) (by rfl) ?yec15 hS ?nec15
              case yec15 => (intro w9 hSw; obtain ⟨s1, s2, s3, s4, s5, _⟩ := hSw; go_simp; try with_reducible rfl)
              refine wpAnyM_take (i := 16) (v := ?vec16) hB rfl (by kernel_rfl) (fun _ _ _ h => h) (by rfl) ?yec16 hS ?nec16
              case yec16 => (intro w9 hSw; obtain ⟨s1, s2, s3, s4, s5, _⟩ := hSw; go_simp; try with_reducible rfl)
              refine wpAnyM_one (i := 17) rfl (by kernel_rfl) rfl ?_
              go_wp2_with fail
              refine (HLX.out _ (HG1.out.trans HGx.out.drew)).mono ?_
              rintro e w4 ⟨rfl, g4⟩
              have HS4 := Lib.hid (CellsAre.keep hS g4)
              have G4 : Hid (Grows wr w4) := (Grows.refl _).drew.trans g4
              clear g4 hS
              go_wp2_with fail
              refine ⟨HS4.out, ?_⟩
              have hS := HS4.out
              refine wpAnyM_take (i := 18) (v := ?vec18) hB rfl (by kernel_rfl) (fun _ _ _ h => h) (by rfl) ?yec18 hS ?nec18
              case yec18 => (intro w9 hSw; obtain ⟨s1, s2, s3, s4, s5, _⟩ := hSw; go_simp; try with_reducible rfl)
              refine wpAnyM_take (i := 19) (v := ?vec19) hB rfl (by kernel_rfl) (fun _ _ _ h => h) (by rfl) ?yec19 hS ?nec19
              case yec19 => (intro w9 hSw; obtain ⟨s1, s2, s3, s4, s5, _⟩ := hSw; go_simp; try with_reducible rfl)
              refine wpAnyM_take (i := 20) (v := ?vec20) hB rfl (by kernel_rfl) (fun _ _ _ h => h) (by rfl) ?yec20 hS ?nec20
              case yec20 => (intro w9 hSw; obtain ⟨s1, s2, s3, s4, s5, _⟩ := hSw; go_simp; try with_reducible rfl)
              refine wpAnyM_one (i := 21) rfl (by kernel_rfl) rfl ?_
              clear hS
              go_wp2_with fail
              refine (newPair_any x y _).mono ?_
              rintro e w5 ⟨rfl, g5⟩
              have HS5 := Lib.hid (CellsAre.keep HS4.out g5)
              have G5 : Hid (Grows wr w5) := G4.out.trans g5
              clear g5
              go_wp2_with fail
              refine ⟨HS5.out, ?_⟩
              refine wpAnyM_one (i := 22) rfl (by kernel_rfl) rfl ?_
              go_wp2_with fail
              refine ⟨CellsAre.keep HS5.out ((Grows.refl _).alloc _), ?_⟩
              refine wpAnyM_tail (by kernel_rfl) ?_
              clear HS4 HS5 hB hox d0 d1 d4 hbx
              have HO5 := Lib.hid (HOx.out.keep G5.out)
              go_wp2_with (at_builtin; refine appLs rfl _ _ rfl w1.heap.size v M rfl (HO5.out.keep ((Grows.refl _).alloc _)) ⟨w5.heap.size, 0, none⟩ 1 1 [pairL x y] rfl rfl (by omega) (one_news _ _ _) (by omega) (by omega) (Nat.le_trans (HGx.out.trans G5.out).size (by simp)) ?_)
              intro v' w6 HO6 HGB HNE
              have G6 : Hid (wr.grownBy w6 v.ownBlock) := (gb_of2 (G5.out.alloc _) _).trans HGB.out
              obtain ⟨A8, n8, c8, rfl⟩ := HO6.out.form3
              have HX6 := Lib.hid (HXx.out.far G6.out HNx.out)
              have hx6 := HX6.out.cell
              have hf6 := HX6.out.free
              have HN6 : Hid ((Value.slice A8 n8 c8).ownBlock ≠ some (w1.heap.size + 1)) := fun e => by
                rcases HNE.out _ e with h | h
                · exact HNx.out h
                · have h1 := HXx.out.lt
                  have h2 := G5.out.size
                  simp only [World.size_alloc] at h
                  omega
              have HS6 := Lib.hid (OwnS.far HSx.out G6.out (fun k hk e => HAx.out k e hk))
              have HA6 : Hid (Apart (.slice A8 n8 c8) (.slice (some ⟨gb, 0, none⟩) p cB)) := HAx.out.near HNE.out (fun k hk => Nat.lt_of_lt_of_le (World.ownsRow.lt HSx.out k hk).2 (Nat.le_trans G5.out.size (by simp)))
              have HK6 := Lib.hid (OwnS.far HKx.out G6.out (fun k hk e => HAKx.out k e hk))
              have HAK6 : Hid (Apart (.slice A8 n8 c8) (.slice (some ⟨gc, 0, none⟩) q cC)) := HAKx.out.near HNE.out (fun k hk => Nat.lt_of_lt_of_le (World.ownsRow.lt HKx.out k hk).2 (Nat.le_trans G5.out.size (by simp)))
              have HG6 : Hid (Grows w1 w6) := HGx.out.mark G6.out (fun k hk => (HOx.out.lt k hk).1)
              clear HGB HNE
              go_wp2
              go_roundw
              case rel => exact ⟨k + 1, M ++ [pairL x y], _, by omega, by go_num, HM2.out, by simp; omega, HO6.out.setFar HN6.out _, HX6.out.set_ _, HN6.out, HS6.out.setFar (fun e => by have := (World.ownsRow.lt HS6.out _ e).1; omega) _, HA6.out, HK6.out.setFar HNK.out _, HAK6.out, HG6.out.setCell (by simp) _⟩
              case measure => simp [intOf]; omega
            · obtain rfl : k = q := by omega
              have HM3 : Hid (M = tsecs ls (ss.take (j + 1))) := by
                unfold Hid
                rw [HTS.out, HM.out, ← HQ.out, List.take_length, HH.out, List.nil_append]
              go_wp2
              go_roundw
              case rel => exact ⟨j + 1, M, v, by omega, by go_num, HM3.out, by omega, HOx.out, HXx.out, HNx.out, HSx.out, HAx.out, HGx.out⟩
              case measure => simp [intOf]; omega
        · have he1 : s.toList.isEmpty = false := by simpa using he
          have he2 : ¬ s.toList = [] := by intro h; rw [h] at he; simp at he
          have HH : Hid (thead s = [headL s]) := by unfold Hid thead; rw [if_neg he]
          have HKt : Hid (K ++ [headL s] = K ++ thead s) := by unfold Hid; rw [HH.out]
          clear he hv9
          go_wp2_with fail
          refine wp_region_M 8 (CellsAre [(⟨w1.heap.size + 1, 0, none⟩, v), (⟨gb, j, none⟩, .string s)]) (by kernel_rfl) (by kernel_rfl) ⟨hbo, c1, trivial⟩ (fun hB hS => ?_)
          refine wpAnyM_take (i := 0) (v := ?vfa0) hB rfl (by kernel_rfl) (fun _ _ _ h => h) (by rfl) ?yfa0 hS ?nfa0
          case yfa0 => (intro w9 hSw; obtain ⟨s1, s2, _⟩ := hSw; go_simp; try with_reducible rfl)
          refine wpAnyM_take (i := 1) (v := ?vfa1) hB rfl (by kernel_rfl) (fun _ _ _ h => h) (by rfl) ?yfa1 hS ?nfa1
          case yfa1 => (intro w9 hSw; obtain ⟨s1, s2, _⟩ := hSw; go_simp; try with_reducible rfl)
          refine wpAnyM_take (i := 2) (v := ?vfa2) hB rfl (by kernel_rfl) (fun _ _ _ h => h) (by rfl) ?yfa2 hS ?nfa2
          case yfa2 => (intro w9 hSw; obtain ⟨s1, s2, _⟩ := hSw; go_simp; try with_reducible rfl)
          refine wpAnyM_take (i := 3) (v := ?vfa3) hB rfl (by kernel_rfl) (fun _ _ _ h => h) (by rfl) ?yfa3 hS ?nfa3
          case yfa3 => (intro w9 hSw; obtain ⟨s1, s2, _⟩ := hSw; go_simp; try with_reducible rfl)
          refine wpAnyM_take (i := 4) (v := ?vfa4) hB rfl (by kernel_rfl) (fun _ _ _ h => h) (by rfl) ?yfa4 hS ?nfa4
          case yfa4 => (intro w9 hSw; obtain ⟨s1, s2, _⟩ := hSw; go_simp; try with_reducible rfl)
          refine wpAnyM_take (i := 5) (v := ?vfa5) hB rfl (by kernel_rfl) (fun _ _ _ h => h) (by rfl) ?yfa5 hS ?nfa5
          case yfa5 => (intro w9 hSw; obtain ⟨s1, s2, _⟩ := hSw; go_simp; try with_reducible rfl)
          refine wpAnyM_take (i := 6) (v := ?vfa6) hB rfl (by kernel_rfl) (fun _ _ _ h => h) (by rfl) ?yfa6 hS ?nfa6
          case yfa6 => (intro w9 hSw; obtain ⟨s1, s2, _⟩ := hSw; go_simp; try with_reducible rfl)
          refine wpAnyM_one (i := 7) rfl (by kernel_rfl) rfl ?_
          go_wp2_with fail
          refine ⟨CellsAre.keep (w := wr) ⟨hbo, c1, trivial⟩ ((Grows.refl _).alloc _).drew, ?_⟩
          refine wpAnyM_tail (by kernel_rfl) ?_
          go_wp2_with (at_builtin; refine appLs rfl _ _ rfl w1.heap.size v K rfl (HO.out.keep ((Grows.refl _).alloc _).drew) ⟨wr.heap.size, 0, none⟩ 1 1 [headL s] rfl rfl (by omega) (World.news_of_block (cs := #[.int .i64 2, .string ⟨#[]⟩, .string s, .string ⟨#[]⟩, .string ⟨#[]⟩, .string ⟨#[]⟩]) (t := 39) (fr := (0, 0)) (heap_alloc_new wr _)) (by omega) (by omega) (Nat.le_trans HG.out.size (by simp)) ?_)
          intro v' w6 HO6 HGB HNE
          have G6 : Hid (wr.grownBy w6 v.ownBlock) := (gb_of2 ((Grows.refl wr).alloc _).drew _).trans HGB.out
          obtain ⟨A8, n8, c8, rfl⟩ := HO6.out.form3
          have HX6 := Lib.hid (HX.out.far G6.out HNB.out)
          have hx6 := HX6.out.cell
          have hf6 := HX6.out.free
          have HNt : Hid ((Value.slice A8 n8 c8).ownBlock ≠ some (w1.heap.size + 1)) := fun e => by
            rcases HNE.out _ e with h | h
            · exact HNB.out h
            · have h1 := HX.out.lt
              simp at h
              omega
          have HS6 := Lib.hid (OwnS.far HS.out G6.out (fun k hk e => HAP.out k e hk))
          have HAt : Hid (Apart (.slice A8 n8 c8) (.slice (some ⟨gb, 0, none⟩) p cB)) := HAP.out.near HNE.out (fun k hk => Nat.lt_of_lt_of_le (World.ownsRow.lt HS.out k hk).2 (by simp))
          have HG6 : Hid (Grows w1 w6) := HG.out.mark G6.out (fun k hk => (HO.out.lt k hk).1)
          clear HGB HNE hB hS hb0 hbo hbf c1 hgb hgo2
          go_wp2_with fail
          have HOt : Hid (OwnL (w6.setCell ⟨w1.heap.size + 1, 0, none⟩ (.slice A8 n8 c8)) w1.heap.size (.slice A8 n8 c8) (K ++ [headL s])) := HO6.out.setFar HNt.out _
          have HXt : Hid (Box (w6.setCell ⟨w1.heap.size + 1, 0, none⟩ (.slice A8 n8 c8)) (w1.heap.size + 1) (.slice A8 n8 c8) 25) := HX6.out.set_ _
          have HSt : Hid (OwnS (w6.setCell ⟨w1.heap.size + 1, 0, none⟩ (.slice A8 n8 c8)) (w1.heap.size + 1 + 1) (.slice (some ⟨gb, 0, none⟩) p cB) ss) := HS6.out.setFar (fun e => by have := (World.ownsRow.lt HS6.out _ e).1; omega) _
          have HGt : Hid (Grows w1 (w6.setCell ⟨w1.heap.size + 1, 0, none⟩ (.slice A8 n8 c8))) := HG6.out.setCell (by simp) _
          clear hx6 hf6 HX6 HS6 HG6 HO6 G6
          obtain ⟨wt, hwt⟩ : ∃ wt, w6.setCell ⟨w1.heap.size + 1, 0, none⟩ (.slice A8 n8 c8) = wt := ⟨_, rfl⟩
          rw [hwt] at HOt HXt HSt HGt ⊢
          clear hwt

          have hKl : (K ++ [headL s]).length ≤ j * 21 + 1 := by simp; omega
          have hf10 : wt.cell? ⟨w.heap.size, 0, none⟩ = some (.slice A n c) := ((HG0.out.trans HGt.out).cell (p := ⟨w.heap.size, 0, none⟩) (by simp; omega)).trans (by simp [fbox])
          obtain ⟨B2, cB2, hv2, hC2⟩ := OwnS.form HSt.out
          injection hv2 with hv21 hv22 hv23
          subst hv21
          obtain ⟨gb2, hgbe, hgo2, hgb, hcs, _⟩ := hC2 (by omega)
          injection hgbe with hgbe
          injection hgbe with hgbe
          subst hgbe
          have c1 := hcs j hjs
          rw [HSE1.out] at c1
          clear hcs hv22 hv23 hC2
          refine wp_region_M 5 (CellsAre [(⟨w.heap.size, 0, none⟩, .slice A n c), (⟨gb, j, none⟩, .string s)]) (by kernel_rfl) (by kernel_rfl) ⟨hf10, c1, trivial⟩ (fun hB hS => ?_)
          refine wpAnyM_take (i := 0) (v := ?vfb0) hB rfl (by kernel_rfl) (fun _ _ _ h => h) (by rfl) ?yfb0 hS ?nfb0
          case yfb0 => (intro w9 hSw; obtain ⟨s1, s2, _⟩ := hSw; go_simp; try with_reducible rfl)
          refine wpAnyM_take (i := 1) (v := ?vfb1) hB rfl (by kernel_rfl) (fun _ _ _ h => h) (by rfl) ?yfb1 hS ?nfb1
          case yfb1 => (intro w9 hSw; obtain ⟨s1, s2, _⟩ := hSw; go_simp; try with_reducible rfl)
          refine wpAnyM_take (i := 2) (v := ?vfb2) hB rfl (by kernel_rfl) (fun _ _ _ h => h) (by rfl) ?yfb2 hS ?nfb2
          case yfb2 => (intro w9 hSw; obtain ⟨s1, s2, _⟩ := hSw; go_simp; try with_reducible rfl)
          refine wpAnyM_take (i := 3) (v := ?vfb3) hB rfl (by kernel_rfl) (fun _ _ _ h => h) (by rfl) ?yfb3 hS ?nfb3
          case yfb3 => (intro w9 hSw; obtain ⟨s1, s2, _⟩ := hSw; go_simp; try with_reducible rfl)
          refine wpAnyM_take (i := 4) (v := ?vfb4) hB rfl (by kernel_rfl) (fun _ _ _ h => h) (by rfl) ?yfb4 hS ?nfb4
          case yfb4 => (intro w9 hSw; obtain ⟨s1, s2, _⟩ := hSw; go_simp; try with_reducible rfl)
          refine wpAnyM_tail (by kernel_rfl) ?_
          clear hB hS hf10
          go_wp2_with fail
          refine (HKS.out _ (HG1.out.trans (HGt.out.drew))).mono ?_
          rintro e w3 ⟨kv, rfl, hkv, g3⟩
          have g3' : Grows wt w3 := (Grows.refl _).drew.trans g3
          have HKV : Hid (OwnS w3 wt.heap.size kv ks) := hkv
          have HAK : Hid (Apart (.slice A8 n8 c8) kv) := Apart.less (fun k hk => (HOt.out.lt k hk).2) (fun k hk => (World.ownsRow.lt HKV.out k hk).1)
          have HNK : Hid (kv.ownBlock ≠ some (w1.heap.size + 1)) := fun e => by
            have h1 := (World.ownsRow.lt HKV.out _ e).1
            have h2 := HXt.out.lt
            omega
          obtain ⟨C, cC, rfl, _⟩ := hkv.form
          have HG3 : Hid (Grows w1 w3) := HGt.out.trans g3'
          have HO3 := Lib.hid (HOt.out.keep g3')
          have HX3 := Lib.hid (HXt.out.keep g3')
          have HS3 := Lib.hid (OwnS.keep HSt.out g3')
          obtain ⟨q, hq⟩ : ∃ q, ks.length = q := ⟨_, rfl⟩
          rw [hq] at hk20 HAK HKV HNK ⊢
          have HQ := Lib.hid hq
          clear g3 g3' hkv hq c1 hgb hgo2
          go_wp2_with fail
          go_loopw [7] (fun i wx => ∃ (k : Nat) (M : List Ln) (v : Value), k ≤ q ∧ i = .int .i64 k ∧ Hid (M = (K ++ [headL s]) ++ tkeys ls s (ks.take k)) ∧ M.length ≤ j * 21 + 1 + k ∧ Hid (OwnL wx w1.heap.size v M) ∧ Hid (Box wx (w1.heap.size + 1) v 25) ∧ Hid (v.ownBlock ≠ some (w1.heap.size + 1)) ∧ Hid (OwnS wx (w1.heap.size + 1 + 1) (.slice (some ⟨gb, 0, none⟩) p cB) ss) ∧ Hid (Apart v (.slice (some ⟨gb, 0, none⟩) p cB)) ∧ Hid (OwnS wx wt.heap.size (.slice C q cC) ks) ∧ Hid (Apart v (.slice C q cC)) ∧ Hid (Grows w1 wx)) (fun i _ => q - (intOf i).toNat)
          case atStart => exact ⟨0, K ++ [headL s], (.slice A8 n8 c8), Nat.zero_le _, rfl, by unfold Hid; simp [tkeys], by omega, HO3.out, HX3.out, HNt.out, HS3.out, HAt.out, HKV.out, HAK.out, HG3.out⟩
          case round =>
            obtain ⟨k, M, v, hk, rfl, HM, hMk, HOx, HXx, HNx, HSx, HAx, HKx, HAKx, HGx⟩ := hrel
            have hbx : wr.cell? ⟨w.heap.size, 0, none⟩ = some (.slice A n c) := ((HG0.out.trans HGx.out).cell (p := ⟨w.heap.size, 0, none⟩) (by simp; omega)).trans (by simp [fbox])
            have hox := HXx.out.cell
            by_cases hlk : k < q
            · have hks : k < ks.length := by rw [HQ.out]; exact hlk
              obtain ⟨C', cC', hv, hC⟩ := OwnS.form HKx.out
              injection hv with hv1 hv2 hv3
              subst hv1
              obtain ⟨gc, rfl, _, hgc, hcc, _⟩ := hC (by omega)
              have d0 := hcc k hks
              obtain ⟨B3, cB3, hv5, hC3⟩ := OwnS.form HSx.out
              injection hv5 with hv51 hv52 hv53
              obtain ⟨gb3, hgbe3, _, _, hcs3, _⟩ := hC3 (by omega)
              have d1 := hcs3 j hjs
              rw [HSE1.out] at d1
              rw [← hv51] at hgbe3
              injection hgbe3 with hgbe3
              injection hgbe3 with hgbe3
              subst hgbe3
              have hts := tkeys_succ ls s hks
              obtain ⟨kk, hkk, hkn, hva⟩ := HKW.out k hks
              obtain ⟨x, hx⟩ : ∃ x, ks[k] = x := ⟨_, rfl⟩
              rw [hx] at d0 hts hkk hva
              rw [HN.out] at hkk
              have HLX := Lib.hid (HLP.out s x)
              rw [hkk] at HLX
              obtain ⟨bl, ol, rfl, hbl, hcl⟩ := HA.out (by omega)
              obtain ⟨_, _, _, _, d4, _⟩ := (hcl kk hkn).keep hbl (HG1.out.trans HGx.out)
              rw [hva] at d4
              have hkn2 : kk < n := by rw [← HN.out]; exact hkn
              obtain ⟨y, hy⟩ : ∃ y, getV ls s x = y := ⟨_, rfl⟩
              rw [hy] at hts d4
              have HM2 : Hid (M ++ [pairL x y] = (K ++ [headL s]) ++ tkeys ls s (ks.take (k + 1))) := by unfold Hid; rw [hts, ← List.append_assoc, HM.out]
              clear hcc hx hy hts hv2 hv3 hC hv51 hv52 hv53 hC3 hcs3 hkk hva hcl hks
              go_wp2_with fail
              refine wp_region_M 23 (CellsAre [(⟨w1.heap.size + 1, 0, none⟩, v), (⟨gc, k, none⟩, .string x), (⟨w.heap.size, 0, none⟩, .slice (some ⟨bl, ol, none⟩) n c), (⟨gb, j, none⟩, .string s), (⟨bl, ol + kk * 6 + 4, none⟩, .string y)]) (by kernel_rfl) (by kernel_rfl) ⟨hox, d0, hbx, d1, d4, trivial⟩ (fun hB hS => ?_)
              refine wpAnyM_take (i := 0) (v := ?vfc0) hB rfl (by kernel_rfl) (fun _ _ _ h => h) (by rfl) ?yfc0 hS ?nfc0
              case yfc0 => (intro w9 hSw; obtain ⟨s1, s2, s3, s4, s5, _⟩ := hSw; go_simp; try with_reducible rfl)
              refine wpAnyM_take (i := 1) (v := ?vfc1) hB rfl (by kernel_rfl) (fun _ _ _ h => h) (by rfl) ?yfc1 hS ?nfc1
              case yfc1 => (intro w9 hSw; obtain ⟨s1, s2, s3, s4, s5, _⟩ := hSw; go_simp; try with_reducible rfl)
              refine wpAnyM_take (i := 2) (v := ?vfc2) hB rfl (by kernel_rfl) (fun _ _ _ h => h) (by rfl) ?yfc2 hS ?nfc2
              case yfc2 => (intro w9 hSw; obtain ⟨s1, s2, s3, s4, s5, _⟩ := hSw; go_simp; try with_reducible rfl)
              refine wpAnyM_take (i := 3) (v := ?vfc3) hB rfl (by kernel_rfl) (fun _ _ _ h => h) (by rfl) ?yfc3 hS ?nfc3
              case yfc3 => (intro w9 hSw; obtain ⟨s1, s2, s3, s4, s5, _⟩ := hSw; go_simp; try with_reducible rfl)
              refine wpAnyM_take (i := 4) (v := ?vfc4) hB rfl (by kernel_rfl) (fun _ _ _ h => h) (by rfl) ?yfc4 hS ?nfc4
              case yfc4 => (intro w9 hSw; obtain ⟨s1, s2, s3, s4, s5, _⟩ := hSw; go_simp; try with_reducible rfl)
              refine wpAnyM_take (i := 5) (v := ?vfc5) hB rfl (by kernel_rfl) (fun _ _ _ h => h) (by rfl) ?yfc5 hS ?nfc5
              case yfc5 => (intro w9 hSw; obtain ⟨s1, s2, s3, s4, s5, _⟩ := hSw; go_simp; try with_reducible rfl)
              refine wpAnyM_take (i := 6) (v := ?vfc6) hB rfl (by kernel_rfl) (fun _ _ _ h => h) (by rfl) ?yfc6 hS ?nfc6
              case yfc6 => (intro w9 hSw; obtain ⟨s1, s2, s3, s4, s5, _⟩ := hSw; go_simp; try with_reducible rfl)
              refine wpAnyM_take (i := 7) (v := ?vfc7) hB rfl (by kernel_rfl) (fun _ _ _ h => h) (by rfl) ?yfc7 hS ?nfc7
              case yfc7 => (intro w9 hSw; obtain ⟨s1, s2, s3, s4, s5, _⟩ := hSw; go_simp; try with_reducible rfl)
              refine wpAnyM_take (i := 8) (v := ?vfc8) hB rfl (by kernel_rfl) (fun _ _ _ h => h) (by rfl) ?yfc8 hS ?nfc8
              case yfc8 => (intro w9 hSw; obtain ⟨s1, s2, s3, s4, s5, _⟩ := hSw; go_simp; try with_reducible rfl)
              refine wpAnyM_take (i := 9) (v := ?vfc9) hB rfl (by kernel_rfl) (fun _ _ _ h => h) (by rfl) ?yfc9 hS ?nfc9
              case yfc9 => (intro w9 hSw; obtain ⟨s1, s2, s3, s4, s5, _⟩ := hSw; go_simp; try with_reducible rfl)
              refine wpAnyM_take (i := 10) (v := ?vfc10) hB rfl (by kernel_rfl) (fun _ _ _ h => h) (by rfl) ?yfc10 hS ?nfc10
              case yfc10 => (intro w9 hSw; obtain ⟨s1, s2, s3, s4, s5, _⟩ := hSw; go_simp; try with_reducible rfl)
              refine wpAnyM_take (i := 11) (v := ?vfc11) hB rfl (by kernel_rfl) (fun _ _ _ h => h) (by rfl) ?yfc11 hS ?nfc11
              case yfc11 => (intro w9 hSw; obtain ⟨s1, s2, s3, s4, s5, _⟩ := hSw; go_simp; try with_reducible rfl)
              refine wpAnyM_take (i := 12) (v := ?vfc12) hB rfl (by kernel_rfl) (fun _ _ _ h => h) (by rfl) ?yfc12 hS ?nfc12
              case yfc12 => (intro w9 hSw; obtain ⟨s1, s2, s3, s4, s5, _⟩ := hSw; go_simp; try with_reducible rfl)
              refine wpAnyM_take (i := 13) (v := ?vfc13) hB rfl (by kernel_rfl) (fun _ _ _ h => h) (by rfl) ?yfc13 hS ?nfc13
              case yfc13 => (intro w9 hSw; obtain ⟨s1, s2, s3, s4, s5, _⟩ := hSw; go_simp; try with_reducible rfl)
              refine wpAnyM_take (i := 14) (v := ?vfc14) hB rfl (by kernel_rfl) (fun _ _ _ h => h) (by rfl) ?yfc14 hS ?nfc14
              case yfc14 => (intro w9 hSw; obtain ⟨s1, s2, s3, s4, s5, _⟩ := hSw; go_simp; try with_reducible rfl)
              refine wpAnyM_take (i := 15) (v := ?vfc15) hB rfl (by kernel_rfl) (fun _ _ _ h => h) (by rfl) ?yfc15 hS ?nfc15
              case yfc15 => (intro w9 hSw; obtain ⟨s1, s2, s3, s4, s5, _⟩ := hSw; go_simp; try with_reducible rfl)
              refine wpAnyM_take (i := 16) (v := ?vfc16) hB rfl (by kernel_rfl) (fun _ _ _ h => h) (by rfl) ?yfc16 hS ?nfc16
              case yfc16 => (intro w9 hSw; obtain ⟨s1, s2, s3, s4, s5, _⟩ := hSw; go_simp; try with_reducible rfl)
              refine wpAnyM_one (i := 17) rfl (by kernel_rfl) rfl ?_
              go_wp2_with fail
              refine (HLX.out _ (HG1.out.trans HGx.out.drew)).mono ?_
              rintro e w4 ⟨rfl, g4⟩
              have HS4 := Lib.hid (CellsAre.keep hS g4)
              have G4 : Hid (Grows wr w4) := (Grows.refl _).drew.trans g4
              clear g4 hS
              go_wp2_with fail
              refine ⟨HS4.out, ?_⟩
              have hS := HS4.out
              refine wpAnyM_take (i := 18) (v := ?vfc18) hB rfl (by kernel_rfl) (fun _ _ _ h => h) (by rfl) ?yfc18 hS ?nfc18
              case yfc18 => (intro w9 hSw; obtain ⟨s1, s2, s3, s4, s5, _⟩ := hSw; go_simp; try with_reducible rfl)
              refine wpAnyM_take (i := 19) (v := ?vfc19) hB rfl (by kernel_rfl) (fun _ _ _ h => h) (by rfl) ?yfc19 hS ?nfc19
              case yfc19 => (intro w9 hSw; obtain ⟨s1, s2, s3, s4, s5, _⟩ := hSw; go_simp; try with_reducible rfl)
              refine wpAnyM_take (i := 20) (v := ?vfc20) hB rfl (by kernel_rfl) (fun _ _ _ h => h) (by rfl) ?yfc20 hS ?nfc20
              case yfc20 => (intro w9 hSw; obtain ⟨s1, s2, s3, s4, s5, _⟩ := hSw; go_simp; try with_reducible rfl)
              refine wpAnyM_one (i := 21) rfl (by kernel_rfl) rfl ?_
              clear hS
              go_wp2_with fail
              refine (newPair_any x y _).mono ?_
              rintro e w5 ⟨rfl, g5⟩
              have HS5 := Lib.hid (CellsAre.keep HS4.out g5)
              have G5 : Hid (Grows wr w5) := G4.out.trans g5
              clear g5
              go_wp2_with fail
              refine ⟨HS5.out, ?_⟩
              refine wpAnyM_one (i := 22) rfl (by kernel_rfl) rfl ?_
              go_wp2_with fail
              refine ⟨CellsAre.keep HS5.out ((Grows.refl _).alloc _), ?_⟩
              refine wpAnyM_tail (by kernel_rfl) ?_
              clear HS4 HS5 hB hox d0 d1 d4 hbx
              have HO5 := Lib.hid (HOx.out.keep G5.out)
              go_wp2_with (at_builtin; refine appLs rfl _ _ rfl w1.heap.size v M rfl (HO5.out.keep ((Grows.refl _).alloc _)) ⟨w5.heap.size, 0, none⟩ 1 1 [pairL x y] rfl rfl (by omega) (one_news _ _ _) (by omega) (by omega) (Nat.le_trans (HGx.out.trans G5.out).size (by simp)) ?_)
              intro v' w6 HO6 HGB HNE
              have G6 : Hid (wr.grownBy w6 v.ownBlock) := (gb_of2 (G5.out.alloc _) _).trans HGB.out
              obtain ⟨A8, n8, c8, rfl⟩ := HO6.out.form3
              have HX6 := Lib.hid (HXx.out.far G6.out HNx.out)
              have hx6 := HX6.out.cell
              have hf6 := HX6.out.free
              have HN6 : Hid ((Value.slice A8 n8 c8).ownBlock ≠ some (w1.heap.size + 1)) := fun e => by
                rcases HNE.out _ e with h | h
                · exact HNx.out h
                · have h1 := HXx.out.lt
                  have h2 := G5.out.size
                  simp only [World.size_alloc] at h
                  omega
              have HS6 := Lib.hid (OwnS.far HSx.out G6.out (fun k hk e => HAx.out k e hk))
              have HA6 : Hid (Apart (.slice A8 n8 c8) (.slice (some ⟨gb, 0, none⟩) p cB)) := HAx.out.near HNE.out (fun k hk => Nat.lt_of_lt_of_le (World.ownsRow.lt HSx.out k hk).2 (Nat.le_trans G5.out.size (by simp)))
              have HK6 := Lib.hid (OwnS.far HKx.out G6.out (fun k hk e => HAKx.out k e hk))
              have HAK6 : Hid (Apart (.slice A8 n8 c8) (.slice (some ⟨gc, 0, none⟩) q cC)) := HAKx.out.near HNE.out (fun k hk => Nat.lt_of_lt_of_le (World.ownsRow.lt HKx.out k hk).2 (Nat.le_trans G5.out.size (by simp)))
              have HG6 : Hid (Grows w1 w6) := HGx.out.mark G6.out (fun k hk => (HOx.out.lt k hk).1)
              clear HGB HNE
              go_wp2
              go_roundw
              case rel => exact ⟨k + 1, M ++ [pairL x y], _, by omega, by go_num, HM2.out, by simp; omega, HO6.out.setFar HN6.out _, HX6.out.set_ _, HN6.out, HS6.out.setFar (fun e => by have := (World.ownsRow.lt HS6.out _ e).1; omega) _, HA6.out, HK6.out.setFar HNK.out _, HAK6.out, HG6.out.setCell (by simp) _⟩
              case measure => simp [intOf]; omega
            · obtain rfl : k = q := by omega
              have HM3 : Hid (M = tsecs ls (ss.take (j + 1))) := by
                unfold Hid
                rw [HTS.out, HM.out, ← HQ.out, List.take_length, HKt.out, List.append_assoc]
              go_wp2
              go_roundw
              case rel => exact ⟨j + 1, M, v, by omega, by go_num, HM3.out, by omega, HOx.out, HXx.out, HNx.out, HSx.out, HAx.out, HGx.out⟩
              case measure => simp [intOf]; omega
      · obtain rfl : j = p := by omega
        have h1 : wr.cell? ⟨w.heap.size + 1, 0, none⟩ = some (.slice none 0 0) := ((HG0.out.trans HG.out).cell (p := ⟨w.heap.size + 1, 0, none⟩) (by simp)).trans (by simp [fbox])
        have h2 : wr.frozen? ⟨w.heap.size + 1, 0, none⟩ = false := ((HG0.out.trans HG.out).frozen (p := ⟨w.heap.size + 1, 0, none⟩) (by simp)).trans (by simp [fbox])
        have HR : Hid (K = tidyOf ls) := by unfold Hid; rw [HT.out, HK.out, ← HP.out, List.take_length]
        have hn9 : v.ownBlock ≠ some (w.heap.size + 1) := fun e => by have := (HO.out.lt _ e).1; omega
        have HN9 := Lib.hid hn9
        clear hn9
        subst hv9
        go_wp2
        refine bodyPost_ret (v := .agg #[.slice A9 K.length c9]) (by simp [results, Try.results18, go_sem, h1]) rfl ?_
        rw [← HR.out]
        exact ⟨_, rfl, (HO.out.setFar HN9.out _).less HG1.out.size, (HG1.out.trans HG.out).setCell (by simp) _⟩
  · have hv' : vfile ls = false := by simpa using hv
    rw [hv'] at HF
    have HV : Hid (tidyOf ls = []) := tidy_no hv'
    clear hv hv' hss
    go_enter Try.func18, Try.ntmps18
    go_wp2_with fail
    refine (HF.out _ (((Grows.refl _).alloc _).alloc _)).mono ?_
    rintro e w1 ⟨rfl, g1⟩
    have HG1 : Hid (Grows w w1) := (((Grows.refl _).alloc _).alloc _).trans g1
    have h1 : w1.cell? ⟨w.heap.size + 1, 0, none⟩ = some (.slice none 0 0) := (g1.cell (p := ⟨w.heap.size + 1, 0, none⟩) (by simp)).trans (by simp)
    have h2 : w1.frozen? ⟨w.heap.size + 1, 0, none⟩ = false := (g1.frozen (p := ⟨w.heap.size + 1, 0, none⟩) (by simp)).trans (by simp)
    clear g1
    go_wp2
    refine bodyPost_ret (v := .agg #[.slice none 0 0]) (by simp [results, Try.results18, go_sem, h1]) rfl ?_
    rw [HV.out]
    exact ⟨_, rfl, OwnL.nil _ _, HG1.out.setCell (by simp) _⟩
end Go.Proofs.Ytdedidcjbocicaa
