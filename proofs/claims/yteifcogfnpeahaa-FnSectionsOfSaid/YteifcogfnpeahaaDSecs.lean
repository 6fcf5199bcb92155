/-
  The drawn law of SectionsOf: whatever its bytes, it returns true. Condition: no more bytes than a slice may have.
-/
import Derived.Test.YteifcogfnpeahaaDGet
import Derived.Test.YteifcogfnpeahaaSecs
import Derived.Test.YteifcogfnpeahaaName
namespace Go.Proofs.Yteifcogfnpeahaa
open Go.RowKit

set_option maxRecDepth 100000 in
set_option maxHeartbeats 4000000 in
theorem dSecs_any (A : Option Addr) (n c : Nat) (w : World) (hn : n ≤ maxLen) (hc : n ≤ c) (h : BytesAt w A n) :
    Calls Try.prog 3 #[.slice A n c] w fun e w' => e = .returned (.bool true) ∧ Below w.heap.size w w' := by
  by_cases hbig : 1048576 < n
  · clear h
    unfold maxLen at hn
    go_enter Try.func3, Try.ntmps3
    go_wp2
    go_ret
    exact ⟨rfl, (Grows.refl _).below⟩
  · have HD := Lib.hid (DrawSectionsOf_any A n c w hn hc h)
    clear h
    unfold maxLen at hn
    go_enter Try.func3, Try.ntmps3
    go_wp2_with fail
    refine (HD.out).mono ?_
    rintro e w1 ⟨v, K, rfl, ⟨hS, hK⟩, hO, g1⟩
    obtain ⟨A0, c0, rfl, hA⟩ := hO.form
    have hf := hS.fit hK
    have HA := Lib.hid hA
    have HSE := Lib.hid (fun w2 (g : Grows w1 w2) => implSecs_any A0 c0 K w2 hf (hA.keep g))
    have HSS := Lib.hid (fun w2 (g : Grows w1 w2) => specSecs_any A0 c0 K w2 hf (hA.keep g))
    have HVF := Lib.hid (fun w2 (g : Grows w1 w2) => implFile_any A0 c0 K w2 hf (hA.keep g))
    have HG1 := Lib.hid g1
    have hsl : (secsOf' K).length ≤ 20 := secs_20 K
    have HND := Lib.hid (secs_nodup K)
    have HNM := Lib.hid (secs_names K)
    unfold StrsRet at HSE HSS
    clear hS hO g1 hA hf HD
    obtain ⟨m, hm⟩ : ∃ m, K.length = m := ⟨_, rfl⟩
    rw [hm] at HSE HSS HVF hK ⊢
    have HM := Lib.hid hm
    clear hm
    obtain ⟨ss, hss⟩ : ∃ ss, secsOf' K = ss := ⟨_, rfl⟩
    have HNM2 : Hid (∀ i (h : i < ss.length), vname ss[i] = true ∨ (i = 0 ∧ ss[i] = ⟨#[]⟩)) := by subst hss; exact HNM.out
    rw [hss] at HSE HSS hsl HND
    clear hss HNM
    go_wp2_with fail
    refine (HSE.out _ ((Grows.refl _).alloc _)).mono ?_
    rintro e w2 ⟨kv, rfl, hkv, g2⟩
    have G2 : Hid (Grows (w1.alloc (fbox A0 m c0)) w2) := g2
    have K2 : Hid (Grows w1 w2) := ((Grows.refl _).alloc _).trans g2
    have Hkv := Lib.hid hkv
    have G2' : Hid (Grows w1 w2) := ((Grows.refl _).alloc _).trans G2.out
    have hx2 : w2.cell? ⟨w1.heap.size, 0, none⟩ = some (.slice A0 m c0) := (G2.out.cell (p := ⟨w1.heap.size, 0, none⟩) (by simp)).trans (by simp [fbox])
    clear g2 hkv
    go_wp2_with fail
    refine (HSS.out _ G2'.out).mono ?_
    rintro e w3 ⟨ku, rfl, hku, g3⟩
    have G3 : Hid (Grows (w1.alloc (fbox A0 m c0)) w3) := G2.out.trans g3
    have K3 : Hid (Grows w2 w3) := g3
    have Hku := Lib.hid hku
    have G3' : Hid (Grows w1 w3) := ((Grows.refl _).alloc _).trans G3.out
    have hx3 : w3.cell? ⟨w1.heap.size, 0, none⟩ = some (.slice A0 m c0) := (G3.out.cell (p := ⟨w1.heap.size, 0, none⟩) (by simp)).trans (by simp [fbox])
    clear g3 hku hx2
    have Hkv3 := Lib.hid (Hkv.out.keep K3.out)
    have Hku3 := Hku
    go_wp2_with fail
    refine (equalTexts_any kv ku _ _ ss _ (by omega) Hkv3.out Hku3.out).mono ?_
    rintro e w4 ⟨rfl, g4⟩
    have K4 : Hid (Grows w3 w4) := g4
    have G4 : Hid (Grows (w1.alloc (fbox A0 m c0)) w4) := G3.out.trans g4
    have G4' : Hid (Grows w1 w4) := ((Grows.refl _).alloc _).trans G4.out
    have hx4 : w4.cell? ⟨w1.heap.size, 0, none⟩ = some (.slice A0 m c0) := (G4.out.cell (p := ⟨w1.heap.size, 0, none⟩) (by simp)).trans (by simp [fbox])
    clear g4 hx3
    have Hkv4 := Lib.hid (Hkv3.out.keep K4.out)
    by_cases hv : vfile K = true
    · rw [hv] at HVF
      clear hv
      go_wp2_with fail
      refine (HVF.out _ G4'.out).mono ?_
      rintro e w5 ⟨rfl, g5⟩
      have K5 : Hid (Grows w4 w5) := g5
      have G5 : Hid (Grows (w1.alloc (fbox A0 m c0)) w5) := G4.out.trans g5
      have G5' : Hid (Grows w1 w5) := ((Grows.refl _).alloc _).trans G5.out
      have hx5 : w5.cell? ⟨w1.heap.size, 0, none⟩ = some (.slice A0 m c0) := (G5.out.cell (p := ⟨w1.heap.size, 0, none⟩) (by simp)).trans (by simp [fbox])
      clear g5 hx4
      have Hkv5 := Lib.hid (Hkv4.out.keep K5.out)
      obtain ⟨Ak, ck, hkf, _⟩ := Hkv5.out.form
      subst hkf
      obtain ⟨q, hq⟩ : ∃ q, ss.length = q := ⟨_, rfl⟩
      rw [hq] at Hkv5 hsl ⊢
      have HQ := Lib.hid hq
      clear hq Hkv Hkv3 Hku3 Hku Hkv4 HSE HSS HVF K3 K4 K5 K2
      go_wp2_with fail
      go_loopw [5] (fun i wr => ∃ k : Nat, k ≤ q ∧ i = .int .i64 k ∧ Hid (Grows w5 wr)) (fun i _ => q - (intOf i).toNat)
      case atStart => exact ⟨0, Nat.zero_le _, rfl, Grows.refl _⟩
      case round =>
        obtain ⟨k, hk, rfl, HG⟩ := hrel
        have HG6' : Hid (Grows w1 wr) := G5'.out.trans HG.out
        have HKV6 := Lib.hid (Hkv5.out.keep HG.out)
        by_cases hlt : k < q
        · have hk2 : k < ss.length := by rw [HQ.out]; exact hlt
          have HOF := HKV6.out
          rw [← HQ.out] at HOF
          obtain ⟨A7, c7, he7, hf7⟩ := HOF.form
          injection he7 with he71 he72 he73
          subst he71
          obtain ⟨g9, rfl, _, hl9, hc9, _⟩ := hf7 (by omega)
          have c0' := hc9 k hk2
          have hnm := HNM2.out k hk2
          obtain ⟨x, hx⟩ : ∃ x, ss[k] = x := ⟨_, rfl⟩
          rw [hx] at c0' hnm
          clear hx hc9 hf7 he72 he73 HOF
          rcases hnm with hnm | ⟨hk0, hnm⟩
          · have hsz : 0 < x.size ∧ x.size ≤ 8 := by
              rcases Nat.eq_zero_or_pos x.size with h0 | h0
              · rw [vname_size (.inl h0)] at hnm; cases hnm
              · rcases Nat.lt_or_ge 8 x.size with h8 | h8
                · rw [vname_size (.inr h8)] at hnm; cases hnm
                · exact ⟨h0, h8⟩
            have hx1 := toList_ne hsz.1
            have hx2 := isEmpty_ne hsz.1
            have HVN := Lib.hid (fun w2 => implName_any x w2 (by omega))
            rw [hnm] at HVN
            clear hnm hsz
            go_wp2_with fail
            refine (HVN.out _).mono ?_
            rintro e w7 ⟨rfl, g7⟩
            have G7 : Hid (Grows w5 w7) := HG.out.trans g7
            clear g7
            go_wp2
            go_roundw
            case rel => exact ⟨k + 1, by omega, by go_num, G7.out⟩
            case measure => simp [intOf]; omega
          · subst hk0; subst hnm
            go_wp2
            go_roundw
            case rel => exact ⟨0 + 1, by omega, by go_num, HG.out⟩
            case measure => simp [intOf]; omega
        · obtain rfl : k = q := by omega
          have HTA := Lib.hid (textsApart_any _ _ ss wr (by rw [HQ.out]; omega) HND.out HKV6.out)
          go_wp2_with fail
          refine (HTA.out).mono ?_
          rintro e w7 ⟨rfl, g7⟩
          go_wp2
          go_ret
          exact ⟨rfl, (HG1.out.trans (HG6'.out.trans g7)).below⟩
    · have hv' : vfile K = false := by simpa using hv
      rw [hv'] at HVF
      clear hv hv'
      go_wp2_with fail
      refine (HVF.out _ G4'.out).mono ?_
      rintro e w5 ⟨rfl, g5⟩
      have K5 : Hid (Grows w4 w5) := g5
      have G5 : Hid (Grows (w1.alloc (fbox A0 m c0)) w5) := G4.out.trans g5
      have G5' : Hid (Grows w1 w5) := ((Grows.refl _).alloc _).trans G5.out
      have hx5 : w5.cell? ⟨w1.heap.size, 0, none⟩ = some (.slice A0 m c0) := (G5.out.cell (p := ⟨w1.heap.size, 0, none⟩) (by simp)).trans (by simp [fbox])
      clear g5 hx4
      have Hkv5 := Lib.hid (Hkv4.out.keep K5.out)
      go_wp2_with fail
      refine (HSS.out _ G5'.out).mono ?_
      rintro e w6 ⟨ku2, rfl, hku2, g6⟩
      have G6 : Hid (Grows (w1.alloc (fbox A0 m c0)) w6) := G5.out.trans g6
      have K6 : Hid (Grows w5 w6) := g6
      have Hku2 := Lib.hid hku2
      have G6' : Hid (Grows w1 w6) := ((Grows.refl _).alloc _).trans G6.out
      have hx6 : w6.cell? ⟨w1.heap.size, 0, none⟩ = some (.slice A0 m c0) := (G6.out.cell (p := ⟨w1.heap.size, 0, none⟩) (by simp)).trans (by simp [fbox])
      clear g6 hku2 hx5
      have Hkv6 := Lib.hid (Hkv5.out.keep K6.out)
      have Hku26 := Hku2
      go_wp2_with fail
      refine (equalTexts_any kv ku2 _ _ ss _ (by omega) Hkv6.out Hku26.out).mono ?_
      rintro e w7 ⟨rfl, g7⟩
      have K7 : Hid (Grows w6 w7) := g7
      have G7 : Hid (Grows (w1.alloc (fbox A0 m c0)) w7) := G6.out.trans g7
      have G7' : Hid (Grows w1 w7) := ((Grows.refl _).alloc _).trans G7.out
      have hx7 : w7.cell? ⟨w1.heap.size, 0, none⟩ = some (.slice A0 m c0) := (G7.out.cell (p := ⟨w1.heap.size, 0, none⟩) (by simp)).trans (by simp [fbox])
      clear g7 hx6
      go_wp2
      go_ret
      exact ⟨rfl, (HG1.out.trans G7'.out).below⟩
end Go.Proofs.Yteifcogfnpeahaa
