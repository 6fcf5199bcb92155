/-
  The drawn law of KeysOf: whatever its bytes, it returns true. Condition: no more bytes than a slice may have.
-/
import Derived.Test.YteifcogfnpeahaaDGet
import Derived.Test.YteifcogfnpeahaaSecs
namespace Go.Proofs.Yteifcogfnpeahaa
open Go.RowKit

set_option maxRecDepth 100000 in
set_option maxHeartbeats 4000000 in
theorem dKeys_any (A : Option Addr) (n c : Nat) (w : World) (hn : n ≤ maxLen) (hc : n ≤ c) (h : BytesAt w A n) :
    Calls Try.prog 4 #[.slice A n c] w fun e w' => e = .returned (.bool true) ∧ Below w.heap.size w w' := by
  by_cases hbig : 1048576 < n
  · clear h
    unfold maxLen at hn
    go_enter Try.func4, Try.ntmps4
    go_wp2
    go_ret
    exact ⟨rfl, (Grows.refl _).below⟩
  · have HD := Lib.hid (DrawKeysOf_any A n c w hn hc h)
    clear h
    unfold maxLen at hn
    go_enter Try.func4, Try.ntmps4
    go_wp2_with fail
    refine (HD.out).mono ?_
    rintro e w1 ⟨v, K, s, rfl, ⟨hS, hK⟩, hO, hs, g1⟩
    obtain ⟨A0, c0, rfl, hA⟩ := hO.form
    have hf := hS.fit hK
    have HA := Lib.hid hA
    have HKI := Lib.hid (fun w2 (g : Grows w1 w2) => implKeys_any A0 c0 K s w2 hf (hA.keep g))
    have HKS := Lib.hid (fun w2 (g : Grows w1 w2) => specKeys_any A0 c0 K s w2 hf (hA.keep g))
    have HVF := Lib.hid (fun w2 (g : Grows w1 w2) => implFile_any A0 c0 K w2 hf (hA.keep g))
    have HSE := Lib.hid (fun w2 (g : Grows w1 w2) => implSecs_any A0 c0 K w2 hf (hA.keep g))
    have HG1 := Lib.hid g1
    have HGI := Lib.hid (fun key w2 (g : Grows w1 w2) => implGet_any A0 c0 K s key w2 hf (hA.keep g))
    have HKL := Lib.hid (fun hv : vfile K = true => fun key => keys_has hv s key)
    have hkl : (keysOf' K s).length ≤ 20 := keys_20 K s
    have hsl : (secsOf' K).length ≤ 20 := secs_20 K
    have HND := Lib.hid (keys_nodup K s)
    have HSEC := Lib.hid (keys_sec (ls := K) (s := s))
    unfold StrsRet at HKI HKS HSE
    clear hs
    clear hS hO g1 hA hf HD
    obtain ⟨m, hm⟩ : ∃ m, K.length = m := ⟨_, rfl⟩
    rw [hm] at HKI HKS HVF HSE HGI hK ⊢
    have HM := Lib.hid hm
    clear hm
    obtain ⟨ks, hks⟩ : ∃ ks, keysOf' K s = ks := ⟨_, rfl⟩
    rw [hks] at HKI HKS HKL hkl HND HSEC
    clear hks
    obtain ⟨ss, hss⟩ : ∃ ss, secsOf' K = ss := ⟨_, rfl⟩
    rw [hss] at HSE hsl HSEC
    clear hss
    go_wp2_with fail
    refine (HKI.out _ ((Grows.refl _).alloc _)).mono ?_
    rintro e w2 ⟨kv, rfl, hkv, g2⟩
    have G2 : Hid (Grows (w1.alloc (fbox A0 m c0)) w2) := g2
    have K2 : Hid (Grows w1 w2) := ((Grows.refl _).alloc _).trans g2
    have Hkv := Lib.hid hkv
    have G2' : Hid (Grows w1 w2) := ((Grows.refl _).alloc _).trans G2.out
    have hx2 : w2.cell? ⟨w1.heap.size, 0, none⟩ = some (.slice A0 m c0) := (G2.out.cell (p := ⟨w1.heap.size, 0, none⟩) (by simp)).trans (by simp [fbox])
    clear g2 hkv
    go_wp2_with fail
    refine (HKS.out _ G2'.out).mono ?_
    rintro e w3 ⟨ku, rfl, hku, g3⟩
    have G3 : Hid (Grows (w1.alloc (fbox A0 m c0)) w3) := G2.out.trans g3
    have K3 : Hid (Grows w2 w3) := g3
    have Hku := Lib.hid hku
    have G3' : Hid (Grows w1 w3) := ((Grows.refl _).alloc _).trans G3.out
    have hx3 : w3.cell? ⟨w1.heap.size, 0, none⟩ = some (.slice A0 m c0) := (G3.out.cell (p := ⟨w1.heap.size, 0, none⟩) (by simp)).trans (by simp [fbox])
    clear g3 hku hx2
    have Hkv3 := Lib.hid (Hkv.out.keep K3.out)
    have Hku3 := Hku
    have HB2 : Hid (Hid (w1.heap.size + 1 = w1.heap.size + 1)) := rfl
    go_wp2_with fail
    refine (equalTexts_any kv ku _ _ ks _ (by omega) Hkv3.out Hku3.out).mono ?_
    rintro e w4 ⟨rfl, g4⟩
    have K4 : Hid (Grows w3 w4) := g4
    have G4 : Hid (Grows (w1.alloc (fbox A0 m c0)) w4) := G3.out.trans g4
    have G4' : Hid (Grows w1 w4) := ((Grows.refl _).alloc _).trans G4.out
    have hx4 : w4.cell? ⟨w1.heap.size, 0, none⟩ = some (.slice A0 m c0) := (G4.out.cell (p := ⟨w1.heap.size, 0, none⟩) (by simp)).trans (by simp [fbox])
    clear g4 hx3
    have Hkv4 := Lib.hid (Hkv3.out.keep K4.out)
    by_cases hv : vfile K = true
    · have HV := Lib.hid hv
      rw [hv] at HVF
      clear hv
      have HKL2 := Lib.hid (HKL.out HV.out)
      go_wp2_with fail
      refine (HVF.out _ G4'.out).mono ?_
      rintro e w5 ⟨rfl, g5⟩
      have K5 : Hid (Grows w4 w5) := g5
      have G5 : Hid (Grows (w1.alloc (fbox A0 m c0)) w5) := G4.out.trans g5
      have G5' : Hid (Grows w1 w5) := ((Grows.refl _).alloc _).trans G5.out
      have hx5 : w5.cell? ⟨w1.heap.size, 0, none⟩ = some (.slice A0 m c0) := (G5.out.cell (p := ⟨w1.heap.size, 0, none⟩) (by simp)).trans (by simp [fbox])
      clear g5 hx4
      have Hkv5 := Lib.hid (Hkv4.out.keep K5.out)
      obtain ⟨Ak, ck, hkf, _⟩ := Hkv5.out.form
      subst hkf
      obtain ⟨q, hq⟩ : ∃ q, ks.length = q := ⟨_, rfl⟩
      rw [hq] at Hkv5 hkl ⊢
      have HQ := Lib.hid hq
      clear hq Hkv Hkv3 Hku3 Hku Hkv4 HKI HKS HVF K3 K4 K5 K2 HB2
      go_wp2_with fail
      go_loopw [6] (fun i wr => ∃ k : Nat, k ≤ q ∧ i = .int .i64 k ∧ Hid (Grows w5 wr)) (fun i _ => q - (intOf i).toNat)
      case atStart => exact ⟨0, Nat.zero_le _, rfl, Grows.refl _⟩
      case round =>
        obtain ⟨k, hk, rfl, HG⟩ := hrel
        have HG6' : Hid (Grows w1 wr) := G5'.out.trans HG.out
        have hx6 : wr.cell? ⟨w1.heap.size, 0, none⟩ = some (.slice A0 m c0) := (HG.out.cell (p := ⟨w1.heap.size, 0, none⟩) (World.block_lt_of_cell? w5 _ hx5)).trans hx5
        have HKV6 := Lib.hid (Hkv5.out.keep HG.out)
        by_cases hlt : k < q
        · have hk2 : k < ks.length := by rw [HQ.out]; exact hlt
          have hgb : getB K s ks[k] = true := by rw [← HKL2.out]; exact hasT_mem.2 (List.getElem_mem hk2)
          have HGK := Lib.hid (HGI.out ks[k])
          rw [hgb] at HGK
          have HOF := HKV6.out
          rw [← HQ.out] at HOF
          obtain ⟨A7, c7, he7, hf7⟩ := HOF.form
          injection he7 with he71 he72 he73
          subst he71
          obtain ⟨g9, rfl, _, hl9, hc9, _⟩ := hf7 (by omega)
          have c0' := hc9 k hk2
          obtain ⟨x, hx⟩ : ∃ x, ks[k] = x := ⟨_, rfl⟩
          rw [hx] at c0' HGK
          clear hx hc9 hf7 hgb he72 he73 HOF
          go_wp2_with fail
          go_region_held3 (fun w' => w'.cell? ⟨w1.heap.size, 0, none⟩ = some (.slice A0 m c0) ∧ w'.cell? ⟨g9, k, none⟩ = some (.string x)) (first | exact ⟨hx6, c0'⟩ | exact ⟨x1, x2⟩) (first | (go_at_call 25; refine (HGK.out _ HG6'.out.drew).mono ?_; rintro e w7 ⟨rfl, g7'⟩; have g7 : Hid (Grows wr w7) := (Grows.refl wr).drew.trans g7'; clear g7'; have x1 := (g7.out.cell (p := ⟨w1.heap.size, 0, none⟩) (World.block_lt_of_cell? wr _ hx6)).trans hx6; have x2 := (g7.out.cell (p := ⟨g9, k, none⟩) hl9).trans c0'))
          go_wp2
          go_roundw
          case rel => exact ⟨k + 1, by omega, by go_num, HG.out.trans g7.out⟩
          case measure => simp [intOf]; omega
        · obtain rfl : k = q := by omega
          have HTA := Lib.hid (textsApart_any _ _ ks wr (by rw [HQ.out]; omega) HND.out HKV6.out)
          go_wp2_with fail
          refine (HTA.out).mono ?_
          rintro e w7 ⟨rfl, g7⟩
          have G7 : Hid (Grows w1 w7) := HG6'.out.trans g7
          have hx7 : w7.cell? ⟨w1.heap.size, 0, none⟩ = some (.slice A0 m c0) := (g7.cell (p := ⟨w1.heap.size, 0, none⟩) (World.block_lt_of_cell? wr _ hx6)).trans hx6
          clear g7 hx6
          go_wp2_with fail
          refine (HSE.out _ G7.out).mono ?_
          rintro e w8 ⟨sv, rfl, hsv, g8⟩
          have HHT := Lib.hid (hasTextL_any sv _ _ s w8 (by omega) hsv)
          have G8 : Hid (Grows w1 w8) := G7.out.trans g8
          clear g8 hsv hx7
          by_cases hh : hasT ss s = true
          · rw [hh] at HHT
            clear hh
            go_wp2_with fail
            refine (HHT.out).mono ?_
            rintro e w9 ⟨rfl, rfl⟩
            go_wp2
            go_ret
            exact ⟨rfl, (HG1.out.trans G8.out).below⟩
          · have hh' : hasT ss s = false := by simpa using hh
            have hk0 : ks.length = 0 := by
              rcases Nat.eq_zero_or_pos ks.length with h0 | h0
              · exact h0
              · exact absurd (HSEC.out (List.ne_nil_of_length_pos h0)) hh
            have hkz : k = 0 := by rw [← hk0]; exact HQ.out.symm
            subst hkz
            rw [hh'] at HHT
            clear hh hh' hk0
            go_wp2_with fail
            refine (HHT.out).mono ?_
            rintro e w9 ⟨rfl, rfl⟩
            go_wp2
            go_ret
            exact ⟨rfl, (HG1.out.trans G8.out).below⟩
    · have hv' : vfile K = false := by simpa using hv
      rw [hv'] at HVF
      clear hv hv'
      go_wp2_with fail
      refine (HVF.out _ G4'.out).mono ?_
      rintro e w5 ⟨rfl, g5⟩
      have K5 : Hid (Grows w4 w5) := g5
      have G5 : Hid (Grows (w1.alloc (fbox A0 m c0)) w5) := G4.out.trans g5
      have G5' : Hid (Grows w1 w5) := ((Grows.refl _).alloc _).trans G5.out
      have hx5 : w5.cell? ⟨w1.heap.size, 0, none⟩ = some (.slice A0 m c0) := (G5.out.cell (p := ⟨w1.heap.size, 0, none⟩) (by simp)).trans (by simp [fbox])
      clear g5 hx4
      have Hkv5 := Lib.hid (Hkv4.out.keep K5.out)
      go_wp2_with fail
      refine (HKS.out _ G5'.out).mono ?_
      rintro e w6 ⟨ku2, rfl, hku2, g6⟩
      have G6 : Hid (Grows (w1.alloc (fbox A0 m c0)) w6) := G5.out.trans g6
      have K6 : Hid (Grows w5 w6) := g6
      have Hku2 := Lib.hid hku2
      have G6' : Hid (Grows w1 w6) := ((Grows.refl _).alloc _).trans G6.out
      have hx6 : w6.cell? ⟨w1.heap.size, 0, none⟩ = some (.slice A0 m c0) := (G6.out.cell (p := ⟨w1.heap.size, 0, none⟩) (by simp)).trans (by simp [fbox])
      clear g6 hku2 hx5
      have Hkv6 := Lib.hid (Hkv5.out.keep K6.out)
      have Hku26 := Hku2
      go_wp2_with fail
      refine (equalTexts_any kv ku2 _ _ ks _ (by omega) Hkv6.out Hku26.out).mono ?_
      rintro e w7 ⟨rfl, g7⟩
      have K7 : Hid (Grows w6 w7) := g7
      have G7 : Hid (Grows (w1.alloc (fbox A0 m c0)) w7) := G6.out.trans g7
      have G7' : Hid (Grows w1 w7) := ((Grows.refl _).alloc _).trans G7.out
      have hx7 : w7.cell? ⟨w1.heap.size, 0, none⟩ = some (.slice A0 m c0) := (G7.out.cell (p := ⟨w1.heap.size, 0, none⟩) (by simp)).trans (by simp [fbox])
      clear g7 hx6
      go_wp2
      go_ret
      exact ⟨rfl, (HG1.out.trans G7'.out).below⟩
end Go.Proofs.Yteifcogfnpeahaa
