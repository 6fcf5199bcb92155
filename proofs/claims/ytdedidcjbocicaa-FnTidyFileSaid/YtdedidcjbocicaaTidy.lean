/-
  The tidy file: TidyFile of the program and of the specification. Conditions: at most 1048576 bytes in all.
-/
import Derived.Test.YtdedidcjbocicaaTidyP
import Derived.Test.YtdedidcjbocicaaCopyL
import Derived.Deep.RegionHeld3
import Derived.Deep.AppendLies
namespace Go.Proofs.Ytdedidcjbocicaa
open Go.RowKit

theorem line2_g (s : ByteArray) (w : World) : Calls Try.prog 24 #[.agg #[.string ⟨#[]⟩, .string s, .string ⟨#[]⟩]] w fun e w' => e = .returned (.agg #[.int .i64 2, .string ⟨#[]⟩, .string s, .string ⟨#[]⟩, .string ⟨#[]⟩, .string ⟨#[]⟩]) ∧ Grows w w' :=
  (line_2 ⟨#[]⟩ s ⟨#[]⟩ w).mono fun e w' ⟨h1, h2⟩ => ⟨h1, by rw [h2]; exact ((Grows.refl _).alloc _).alloc _⟩
theorem line3_g (k v : ByteArray) (w : World) : Calls Try.prog 27 #[.agg #[.string ⟨#[]⟩, .string k, .string newSep, .string v, .string ⟨#[]⟩]] w fun e w' => e = .returned (.agg #[.int .i64 3, .string ⟨#[]⟩, .string k, .string newSep, .string v, .string ⟨#[]⟩]) ∧ Grows w w' :=
  (line_3 ⟨#[]⟩ k newSep v ⟨#[]⟩ w).mono fun e w' ⟨h1, h2⟩ => ⟨h1, by rw [h2]; exact ((Grows.refl _).alloc _).alloc _⟩
theorem toList_nil_of {s : ByteArray} (h : s.toList.isEmpty = true) : s.toList = [] := by simpa using h

set_option maxRecDepth 100000 in
set_option maxHeartbeats 4000000 in
theorem implTidy_any (A : Option Addr) (c : Nat) (ls : List Ln) (w : World) (hf : AllFit ls) (hA : LnsAt w A ls) :
    Calls Try.prog 9 #[.agg #[.slice A ls.length c]] w (ResL (tidyOf ls) w) := by
  have HSE := Lib.hid (fun w1 (g : Grows w w1) => implSecs_any A c ls w1 hf (hA.keep g))
  have HKE := Lib.hid (fun s w1 (g : Grows w w1) => implKeys_any A c ls s w1 hf (hA.keep g))
  have HGE := Lib.hid (fun s key w1 (g : Grows w w1) => implGet_any A c ls s key w1 hf (hA.keep g))
  have hss := secs_20 ls
  have HT : Hid (tidyOf ls = tsecs ls (secsOf' ls)) := rfl
  clear hA hf
  unfold StrsRet at HSE HKE
  obtain ⟨ss, hsx⟩ : ∃ ss, secsOf' ls = ss := ⟨_, rfl⟩
  rw [hsx] at HSE HT hss
  clear hsx
  obtain ⟨n, hnn⟩ : ∃ n, ls.length = n := ⟨_, rfl⟩
  rw [hnn] at HSE HKE HGE
  rw [hnn]
  clear hnn
  go_enter Try.func9, Try.ntmps9
  go_wp2_with fail
  refine (HSE.out _ (((Grows.refl _).alloc _).alloc _)).mono ?_
  rintro e w1 ⟨sv, rfl, hsv, g1⟩
  have HG0 : Hid (Grows ((w.alloc (fbox A n c)).alloc (fbox none 0 0)) w1) := g1
  have HG1 : Hid (Grows w w1) := (((Grows.refl _).alloc _).alloc _).trans g1
  have hs1 : w.heap.size + 1 < w1.heap.size := Nat.lt_of_lt_of_le (by simp) g1.size
  obtain ⟨B, cB, rfl, hB⟩ := hsv.form
  have HB := Lib.hid hB
  obtain ⟨p, hp⟩ : ∃ p, ss.length = p := ⟨_, rfl⟩
  rw [hp] at hss ⊢
  have HP := Lib.hid hp
  clear g1 hsv hB hp
  go_wp2_with fail
  go_loopw [3, 13] (fun v i wr => ∃ (j : Nat) (K : List Ln), j ≤ p ∧ i = .int .i64 j ∧ Hid (K = tsecs ls (ss.take j)) ∧ K.length ≤ j * 21 ∧ Hid (OwnL wr w1.heap.size v K) ∧ Hid (Grows w1 wr)) (fun _ i _ => p - (intOf i).toNat)
  case atStart => exact ⟨0, [], Nat.zero_le _, rfl, rfl, Nat.zero_le _, OwnL.nil _ _, Grows.refl _⟩
  case round =>
    obtain ⟨j, K, hj, rfl, HK, hKj, HO, HG⟩ := hrel
    have hb0 : wr.cell? ⟨w.heap.size, 0, none⟩ = some (.slice A n c) := ((HG0.out.trans HG.out).cell (p := ⟨w.heap.size, 0, none⟩) (by simp; omega)).trans (by simp [fbox])
    by_cases hlt : j < p
    · have hjs : j < ss.length := by rw [HP.out]; exact hlt
      obtain ⟨gb, rfl, _, hgb, hcs, _⟩ := HB.out (by rw [HP.out]; omega)
      have c0 := hcs j hjs
      obtain ⟨s, hs⟩ : ∃ s, ss[j] = s := ⟨_, rfl⟩
      rw [hs] at c0
      have c1 : wr.cell? ⟨gb, j, none⟩ = some (.string s) := (HG.out.cell (p := ⟨gb, j, none⟩) hgb).trans c0
      have HTS : Hid (tsecs ls (ss.take (j + 1)) = K ++ (thead s ++ tkeys ls s (keysOf' ls s))) := by
        unfold Hid; rw [tsecs_succ ls hjs, hs, ← HK.out]; rfl
      have HKS := Lib.hid (HKE.out s)
      have HGS := Lib.hid (HGE.out s)
      have hk20 := keys_20 ls s
      have hth := thead_le s
      obtain ⟨ks, hks⟩ : ∃ ks, keysOf' ls s = ks := ⟨_, rfl⟩
      rw [hks] at HTS HKS hk20
      clear hcs c0 hs hks
      by_cases he : s.toList.isEmpty = true
      · have he2 := toList_nil_of he
        have HH : Hid (thead s = []) := by unfold Hid thead; rw [if_pos he]
        have HKt : Hid (K = K ++ thead s) := by unfold Hid; rw [HH.out, List.append_nil]
        go_wp2_with fail

        refine (HKS.out _ (HG1.out.trans HG.out)).mono ?_
        rintro e w3 ⟨kv, rfl, hkv, g3⟩
        have HKV := Lib.hid hkv
        have HAP : Hid (Apart u3 kv) := Apart.less (fun k hk => (HO.out.lt k hk).2) (fun k hk => (World.ownsRow.lt HKV.out k hk).1)
        obtain ⟨C, cC, rfl, _⟩ := hkv.form
        have HG3 : Hid (Grows w1 w3) := HG.out.trans g3
        have HO3 := Lib.hid (HO.out.keep g3)
        obtain ⟨q, hq⟩ : ∃ q, ks.length = q := ⟨_, rfl⟩
        rw [hq] at hk20 HAP HKV ⊢
        have HQ := Lib.hid hq
        clear g3 hkv hq
        go_wp2_with fail
        go_loopw [3, 29] (fun v i wx => ∃ (k : Nat) (M : List Ln), k ≤ q ∧ i = .int .i64 k ∧ Hid (M = K ++ tkeys ls s (ks.take k)) ∧ M.length ≤ j * 21 + 1 + k ∧ Hid (OwnL wx w1.heap.size v M) ∧ Hid (OwnS wx wr.heap.size (.slice C q cC) ks) ∧ Hid (Apart v (.slice C q cC)) ∧ Hid (Grows w1 wx)) (fun _ i _ => q - (intOf i).toNat)
        case atStart => exact ⟨0, K, Nat.zero_le _, rfl, by unfold Hid; simp [tkeys], by omega, HO3.out, HKV.out, HAP.out, HG3.out⟩
        case round =>
          obtain ⟨k, M, hk, rfl, HM, hMk, HOx, HKx, HAx, HGx⟩ := hrel
          have hbx : wr.cell? ⟨w.heap.size, 0, none⟩ = some (.slice A n c) := ((HG0.out.trans HGx.out).cell (p := ⟨w.heap.size, 0, none⟩) (by simp; omega)).trans (by simp [fbox])
          by_cases hlk : k < q
          · have hks : k < ks.length := by rw [HQ.out]; exact hlk
            obtain ⟨C', cC', hv, hC⟩ := OwnS.form HKx.out
            injection hv with hv1 hv2 hv3
            subst hv1
            obtain ⟨gc, rfl, _, hgc, hcc, _⟩ := hC (by omega)
            have d0 := hcc k hks
            have hts := tkeys_succ ls s hks
            obtain ⟨x, hx⟩ : ∃ x, ks[k] = x := ⟨_, rfl⟩
            rw [hx] at d0 hts
            have HVX := Lib.hid (HGS.out x)
            obtain ⟨y, hy⟩ : ∃ y, getV ls s x = y := ⟨_, rfl⟩
            rw [hy] at hts HVX
            have HM2 : Hid (M ++ [pairL x y] = K ++ tkeys ls s (ks.take (k + 1))) := by unfold Hid; rw [hts, ← List.append_assoc, HM.out]
            clear hcc hx hy hts hv2 hv3 hC
            go_wp2_with fail
            refine (HVX.out _ (HG1.out.trans HGx.out)).mono ?_
            rintro e w4 ⟨rfl, g4⟩
            have HO4 := Lib.hid (HOx.out.keep g4)
            have HK4 := Lib.hid (OwnS.keep HKx.out g4)
            have HG4 : Hid (Grows w1 w4) := HGx.out.trans g4
            clear g4 d0
            go_wp2_with fail
            refine (line3_g x y _).mono ?_
            rintro e w5 ⟨rfl, g5⟩
            have HO5 := Lib.hid (HO4.out.keep g5)
            have HK5 := Lib.hid (HK4.out.keep g5)
            have HG5 : Hid (Grows w1 w5) := HG4.out.trans g5
            clear g5
            go_wp2_with (at_builtin; refine appLs rfl _ _ rfl w1.heap.size _ M rfl (HO5.out.keep ((Grows.refl _).alloc _)) ⟨w5.heap.size, 0, none⟩ 1 1 [pairL x y] rfl rfl (by omega) (one_news _ _ _) (by omega) (by omega) (Nat.le_trans HG5.out.size (by simp)) ?_)
            intro v' w6 HO6 HGB HNE
            have HK6 := Lib.hid ((HK5.out.keep ((Grows.refl _).alloc _)).far HGB.out (fun k hk e => HAx.out k e hk))
            have HAP6 : Hid (Apart v' (.slice (some ⟨gc, 0, none⟩) q cC)) := HAx.out.near HNE.out (fun k hk => Nat.lt_of_lt_of_le (World.ownsRow.lt HK5.out k hk).2 (by simp))
            have HG6 : Hid (Grows w1 w6) := (HG5.out.alloc _).mark HGB.out (fun k hk => (HO5.out.lt k hk).1)
            go_wp2
            go_roundw
            case rel => exact ⟨k + 1, M ++ [pairL x y], by omega, by go_num, HM2.out, by simp; omega, HO6.out, HK6.out, HAP6.out, HG6.out⟩
            case measure => simp [intOf]; omega
          · obtain rfl : k = q := by omega
            have HM3 : Hid (M = tsecs ls (ss.take (j + 1))) := by
              unfold Hid
              rw [HTS.out, HM.out, ← HQ.out, List.take_length, HH.out, List.nil_append]
            go_wp2
            go_roundw
            case rel => exact ⟨j + 1, M, by omega, by go_num, HM3.out, by omega, HOx.out, HGx.out⟩
            case measure => simp [intOf]; omega
      · have he1 : s.toList.isEmpty = false := by simpa using he
        have he2 : ¬ s.toList = [] := by intro h; rw [h] at he; simp at he
        have HH : Hid (thead s = [headL s]) := by unfold Hid thead; rw [if_neg he]
        have HKt : Hid (K ++ [headL s] = K ++ thead s) := by unfold Hid; rw [HH.out]
        clear he
        go_wp2_with fail
        refine (line2_g s _).mono ?_
        rintro e w2 ⟨rfl, g2⟩
        have HO2 := Lib.hid (HO.out.keep g2)
        have HG2 : Hid (Grows w1 w2) := HG.out.trans g2
        clear g2
        go_wp2_with (at_builtin; refine appLs rfl _ _ rfl w1.heap.size _ K rfl (HO2.out.keep ((Grows.refl _).alloc _)) ⟨w2.heap.size, 0, none⟩ 1 1 [headL s] rfl rfl (by omega) (one_news _ _ _) (by omega) (by omega) (Nat.le_trans HG2.out.size (by simp)) ?_)
        intro vt wt HOt HGB HNE
        have HGt : Hid (Grows w1 wt) := (HG2.out.alloc _).mark HGB.out (fun k hk => (HO2.out.lt k hk).1)
        have hbt : wt.cell? ⟨w.heap.size, 0, none⟩ = some (.slice A n c) := ((HG0.out.trans HGt.out).cell (p := ⟨w.heap.size, 0, none⟩) (by simp; omega)).trans (by simp [fbox])
        have hKt : (K ++ [headL s]).length ≤ j * 21 + 1 := by simp; omega
        clear HGB HNE
        go_wp2_with fail

        refine (HKS.out _ (HG1.out.trans HGt.out)).mono ?_
        rintro e w3 ⟨kv, rfl, hkv, g3⟩
        have HKV := Lib.hid hkv
        have HAP : Hid (Apart vt kv) := Apart.less (fun k hk => (HOt.out.lt k hk).2) (fun k hk => (World.ownsRow.lt HKV.out k hk).1)
        obtain ⟨C, cC, rfl, _⟩ := hkv.form
        have HG3 : Hid (Grows w1 w3) := HGt.out.trans g3
        have HO3 := Lib.hid (HOt.out.keep g3)
        obtain ⟨q, hq⟩ : ∃ q, ks.length = q := ⟨_, rfl⟩
        rw [hq] at hk20 HAP HKV ⊢
        have HQ := Lib.hid hq
        clear g3 hkv hq
        go_wp2_with fail
        go_loopw [3, 29] (fun v i wx => ∃ (k : Nat) (M : List Ln), k ≤ q ∧ i = .int .i64 k ∧ Hid (M = (K ++ [headL s]) ++ tkeys ls s (ks.take k)) ∧ M.length ≤ j * 21 + 1 + k ∧ Hid (OwnL wx w1.heap.size v M) ∧ Hid (OwnS wx wt.heap.size (.slice C q cC) ks) ∧ Hid (Apart v (.slice C q cC)) ∧ Hid (Grows w1 wx)) (fun _ i _ => q - (intOf i).toNat)
        case atStart => exact ⟨0, K ++ [headL s], Nat.zero_le _, rfl, by unfold Hid; simp [tkeys], by omega, HO3.out, HKV.out, HAP.out, HG3.out⟩
        case round =>
          obtain ⟨k, M, hk, rfl, HM, hMk, HOx, HKx, HAx, HGx⟩ := hrel
          have hbx : wr.cell? ⟨w.heap.size, 0, none⟩ = some (.slice A n c) := ((HG0.out.trans HGx.out).cell (p := ⟨w.heap.size, 0, none⟩) (by simp; omega)).trans (by simp [fbox])
          by_cases hlk : k < q
          · have hks : k < ks.length := by rw [HQ.out]; exact hlk
            obtain ⟨C', cC', hv, hC⟩ := OwnS.form HKx.out
            injection hv with hv1 hv2 hv3
            subst hv1
            obtain ⟨gc, rfl, _, hgc, hcc, _⟩ := hC (by omega)
            have d0 := hcc k hks
            have hts := tkeys_succ ls s hks
            obtain ⟨x, hx⟩ : ∃ x, ks[k] = x := ⟨_, rfl⟩
            rw [hx] at d0 hts
            have HVX := Lib.hid (HGS.out x)
            obtain ⟨y, hy⟩ : ∃ y, getV ls s x = y := ⟨_, rfl⟩
            rw [hy] at hts HVX
            have HM2 : Hid (M ++ [pairL x y] = (K ++ [headL s]) ++ tkeys ls s (ks.take (k + 1))) := by unfold Hid; rw [hts, ← List.append_assoc, HM.out]
            clear hcc hx hy hts hv2 hv3 hC
            go_wp2_with fail
            refine (HVX.out _ (HG1.out.trans HGx.out)).mono ?_
            rintro e w4 ⟨rfl, g4⟩
            have HO4 := Lib.hid (HOx.out.keep g4)
            have HK4 := Lib.hid (OwnS.keep HKx.out g4)
            have HG4 : Hid (Grows w1 w4) := HGx.out.trans g4
            clear g4 d0
            go_wp2_with fail
            refine (line3_g x y _).mono ?_
            rintro e w5 ⟨rfl, g5⟩
            have HO5 := Lib.hid (HO4.out.keep g5)
            have HK5 := Lib.hid (HK4.out.keep g5)
            have HG5 : Hid (Grows w1 w5) := HG4.out.trans g5
            clear g5
            go_wp2_with (at_builtin; refine appLs rfl _ _ rfl w1.heap.size _ M rfl (HO5.out.keep ((Grows.refl _).alloc _)) ⟨w5.heap.size, 0, none⟩ 1 1 [pairL x y] rfl rfl (by omega) (one_news _ _ _) (by omega) (by omega) (Nat.le_trans HG5.out.size (by simp)) ?_)
            intro v' w6 HO6 HGB HNE
            have HK6 := Lib.hid ((HK5.out.keep ((Grows.refl _).alloc _)).far HGB.out (fun k hk e => HAx.out k e hk))
            have HAP6 : Hid (Apart v' (.slice (some ⟨gc, 0, none⟩) q cC)) := HAx.out.near HNE.out (fun k hk => Nat.lt_of_lt_of_le (World.ownsRow.lt HK5.out k hk).2 (by simp))
            have HG6 : Hid (Grows w1 w6) := (HG5.out.alloc _).mark HGB.out (fun k hk => (HO5.out.lt k hk).1)
            go_wp2
            go_roundw
            case rel => exact ⟨k + 1, M ++ [pairL x y], by omega, by go_num, HM2.out, by simp; omega, HO6.out, HK6.out, HAP6.out, HG6.out⟩
            case measure => simp [intOf]; omega
          · obtain rfl : k = q := by omega
            have HM3 : Hid (M = tsecs ls (ss.take (j + 1))) := by
              unfold Hid
              rw [HTS.out, HM.out, ← HQ.out, List.take_length, HKt.out, List.append_assoc]
            go_wp2
            go_roundw
            case rel => exact ⟨j + 1, M, by omega, by go_num, HM3.out, by omega, HOx.out, HGx.out⟩
            case measure => simp [intOf]; omega
    · obtain rfl : j = p := by omega
      have h1 : wr.cell? ⟨w.heap.size + 1, 0, none⟩ = some (.slice none 0 0) := ((HG0.out.trans HG.out).cell (p := ⟨w.heap.size + 1, 0, none⟩) (by simp)).trans (by simp [fbox])
      have h2 : wr.frozen? ⟨w.heap.size + 1, 0, none⟩ = false := ((HG0.out.trans HG.out).frozen (p := ⟨w.heap.size + 1, 0, none⟩) (by simp)).trans (by simp [fbox])
      have HR : Hid (K = tidyOf ls) := by unfold Hid; rw [HT.out, HK.out, ← HP.out, List.take_length]
      obtain ⟨A', c', rfl, _⟩ := HO.out.form
      go_wp2
      refine bodyPost_ret (v := .agg #[.slice A' K.length c']) (by simp [results, Try.results9, go_sem, h1]) rfl ?_
      rw [← HR.out]
      exact ⟨_, rfl, (HO.out.setOther (by omega) _).less HG1.out.size, (HG1.out.trans HG.out).setCell (by simp) _⟩
end Go.Proofs.Ytdedidcjbocicaa
