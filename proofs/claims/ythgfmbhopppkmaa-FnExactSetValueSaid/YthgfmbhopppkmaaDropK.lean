/-
  A file without a key: DropKey of the program and of the specification. Conditions: at most 1048576 bytes in all.
-/
import Derived.Test.YthgfmbhopppkmaaCut
import Derived.Test.YthgfmbhopppkmaaTidyP
namespace Go.Proofs.Ythgfmbhopppkmaa
open Go.RowKit

/-- the lines without a key's, none if it is not there -/
def dropKL (ls : List Ln) (s key : ByteArray) : List Ln := if whereOf ls s key < 0 then [] else keepL ls (isPair ls s key) ls.length
theorem dropKL_le (ls : List Ln) (s key : ByteArray) (hn : ls.length ≤ 1048576) : (dropKL ls s key).length ≤ 1048576 := by
  unfold dropKL
  split
  · simp
  · exact Nat.le_trans (keepL_le _ _ _) hn
theorem pairs_none {ls : List Ln} {s key : ByteArray} (h : whereOf ls s key < 0) : pairsOf' ls s key = [] := by
  rw [whereOf_eq] at h
  rcases hg : (pairsOf' ls s key).getLast? with _ | i
  · exact List.getLast?_eq_none_iff.1 hg
  · rw [hg] at h; simp at h; omega
theorem pairs_some {ls : List Ln} {s key : ByteArray} (h : ¬ whereOf ls s key < 0) : vfile ls = true ∧ 0 < (pairsOf' ls s key).length := by
  have hv : vfile ls = true := by
    rcases hb : vfile ls with _ | _
    · rw [whereOf_no s key hb] at h; omega
    · rfl
  refine ⟨hv, ?_⟩
  rcases Nat.eq_zero_or_pos (pairsOf' ls s key).length with h0 | h0
  · rw [whereOf_eq, List.eq_nil_of_length_eq_zero h0] at h
    simp at h
  · exact h0
theorem getB_where (ls : List Ln) (s key : ByteArray) : getB ls s key = !decide (whereOf ls s key < 0) := rfl

set_option maxRecDepth 100000 in
set_option maxHeartbeats 4000000 in
theorem implDropKey_any (A : Option Addr) (c : Nat) (ls : List Ln) (s key : ByteArray) (w : World) (hf : AllFit ls) (hA : LnsAt w A ls) :
    Calls Try.prog 24 #[.agg #[.slice A ls.length c], .string s, .string key] w (ResLB (dropKL ls s key) (getB ls s key) w) := by
  have HP := Lib.hid (fun w1 (g : Grows w w1) => pairsOf_any A c ls s key w1 hf (hA.keep g))
  have HA := Lib.hid hA
  have hn : ls.length ≤ 1048576 := hf.1
  clear hA hf
  by_cases h0 : whereOf ls s key < 0
  · have HV : Hid (dropKL ls s key = []) := by unfold Hid dropKL; rw [if_pos h0]
    have HB : Hid (getB ls s key = false) := by unfold Hid; rw [getB_where]; simp [h0]
    rw [pairs_none h0] at HP
    clear h0
    obtain ⟨n, hnn⟩ : ∃ n, ls.length = n := ⟨_, rfl⟩
    rw [hnn] at HP ⊢
    clear hnn hn
    go_enter Try.func24, Try.ntmps24
    go_wp2_with fail
    refine (HP.out _ (((Grows.refl _).alloc _).alloc _)).mono ?_
    rintro e w1 ⟨A1, c1, rfl, _, g1, _⟩
    have HG1 : Hid (Grows w w1) := (((Grows.refl _).alloc _).alloc _).trans g1
    have h1 : w1.cell? ⟨w.heap.size + 1, 0, none⟩ = some (.slice none 0 0) := (g1.cell (p := ⟨w.heap.size + 1, 0, none⟩) (by simp)).trans (by simp)
    have h2 : w1.frozen? ⟨w.heap.size + 1, 0, none⟩ = false := (g1.frozen (p := ⟨w.heap.size + 1, 0, none⟩) (by simp)).trans (by simp)
    clear g1
    have hz : (ints []).length = 0 := rfl
    rw [hz]
    go_wp2
    refine bodyPost_ret (v := .tuple #[.agg #[.slice none 0 0], .bool false]) (by simp [results, Try.results24, go_sem, h1]) rfl ?_
    rw [HV.out, HB.out]
    exact ⟨_, rfl, OwnL.nil _ _, HG1.out.setCell (by simp) _⟩
  · have HV : Hid (dropKL ls s key = keepL ls (isPair ls s key) ls.length) := by unfold Hid dropKL; rw [if_neg h0]
    have HB : Hid (getB ls s key = true) := by unfold Hid; rw [getB_where]; simp [h0]
    obtain ⟨hv, hpos⟩ := pairs_some h0
    have HE : Hid (pairsOf' ls s key = (List.range ls.length).filter (isPair ls s key)) := by unfold Hid pairsOf'; rw [if_pos hv]; rfl
    have HC := Lib.hid (fun (I : Option Addr) (ci : Nat) w1 (g : Grows w w1) (h : ValsAt w1 I (ints ((List.range ls.length).filter (isPair ls s key)))) (h2 : ((List.range ls.length).filter (isPair ls s key)).length ≤ ci) => cutLines_any A I c ci ls (isPair ls s key) w1 hn (HA.out.keep g) h h2)
    rw [HE.out] at HP hpos
    clear h0 hv HA HE
    obtain ⟨L, hL⟩ : ∃ L, (List.range ls.length).filter (isPair ls s key) = L := ⟨_, rfl⟩
    rw [hL] at HP HC hpos
    clear hL
    obtain ⟨n, hnn⟩ : ∃ n, ls.length = n := ⟨_, rfl⟩
    rw [hnn] at HP HC HV hn ⊢
    clear hnn
    obtain ⟨m, hm⟩ : ∃ m, L.length = m := ⟨_, rfl⟩
    unfold ValsRet at HP
    rw [ints_length] at HP
    rw [hm] at HP HC hpos
    clear hm
    go_enter Try.func24, Try.ntmps24
    go_wp2_with fail
    refine (HP.out _ (((Grows.refl _).alloc _).alloc _)).mono ?_
    rintro e w1 ⟨A1, c1, rfl, hv1, g1, hc1⟩
    have HG0 : Hid (Grows ((w.alloc (fbox A n c)).alloc (fbox none 0 0)) w1) := g1
    have HG1 : Hid (Grows w w1) := (((Grows.refl _).alloc _).alloc _).trans g1
    have HC1 := Lib.hid hc1
    have HV1 := Lib.hid hv1
    have hb0 : w1.cell? ⟨w.heap.size, 0, none⟩ = some (.slice A n c) := (g1.cell (p := ⟨w.heap.size, 0, none⟩) (by simp; omega)).trans (by simp)
    clear g1 hc1 hv1
    go_wp2_with fail
    refine (HC.out _ _ _ HG1.out HV1.out HC1.out).mono ?_
    rintro e w2 ⟨v, rfl, ho, g2⟩
    have h1 : w2.cell? ⟨w.heap.size + 1, 0, none⟩ = some (.slice none 0 0) := ((HG0.out.trans g2).cell (p := ⟨w.heap.size + 1, 0, none⟩) (by simp)).trans (by simp [fbox])
    have h2 : w2.frozen? ⟨w.heap.size + 1, 0, none⟩ = false := ((HG0.out.trans g2).frozen (p := ⟨w.heap.size + 1, 0, none⟩) (by simp)).trans (by simp [fbox])
    have hs1 : w.heap.size + 1 < w1.heap.size := Nat.lt_of_lt_of_le (by simp) HG0.out.size
    have HG2 : Hid (Grows w w2) := HG1.out.trans g2
    have HO := Lib.hid ho
    obtain ⟨A2, n2, c2, hv2⟩ := ho.form3
    subst hv2
    clear g2 ho hb0
    go_wp2
    refine bodyPost_ret (v := .tuple #[.agg #[.slice A2 n2 c2], .bool true]) (by simp [results, Try.results24, go_sem, h1]) rfl ?_
    rw [HV.out, HB.out]
    exact ⟨_, rfl, (HO.out.setOther hs1 _).less HG1.out.size, HG2.out.setCell (by simp) _⟩

set_option maxRecDepth 100000 in
set_option maxHeartbeats 4000000 in
theorem specDropKey_any (A : Option Addr) (c : Nat) (ls : List Ln) (s key : ByteArray) (w : World) (hf : AllFit ls) (hA : LnsAt w A ls) :
    Calls Try.prog 23 #[.agg #[.slice A ls.length c], .string s, .string key] w (ResLB (dropKL ls s key) (getB ls s key) w) := by
  have HF := Lib.hid (fun w1 (g : Grows w w1) => specFile_any A c ls w1 hf (hA.keep g))
  have HLP := Lib.hid (fun w1 (g : Grows w w1) => lastPair_any A c ls s key w1 hf.1 (hA.keep g))
  have HSA := Lib.hid (fun (i : Nat) (h : i < ls.length) w1 (g : Grows w w1) => sectionAt_any A c ls i w1 hf.1 h (hA.keep g))
  have HA := Lib.hid hA
  have hn : ls.length ≤ 1048576 := hf.1
  clear hA hf
  by_cases hv : vfile ls = true
  · rw [hv] at HF
    rw [← whereOf_yes s key hv] at HLP
    clear hv
    by_cases h0 : whereOf ls s key < 0
    · have HV : Hid (dropKL ls s key = []) := by unfold Hid dropKL; rw [if_pos h0]
      have HB : Hid (getB ls s key = false) := by unfold Hid; rw [getB_where]; simp [h0]
      obtain ⟨q, hq⟩ : ∃ q, whereOf ls s key = q := ⟨_, rfl⟩
      rw [hq] at HLP h0
      clear hq
      go_enter Try.func23, Try.ntmps23
      go_wp2_with fail
      refine (HF.out _ (((Grows.refl _).alloc _).alloc _)).mono ?_
      rintro e w1 ⟨rfl, g1⟩
      have HG0 : Hid (Grows ((w.alloc (fbox A ls.length c)).alloc (fbox none 0 0)) w1) := g1
      have HG1 : Hid (Grows w w1) := (((Grows.refl _).alloc _).alloc _).trans g1
      have hb0 : w1.cell? ⟨w.heap.size, 0, none⟩ = some (.slice A ls.length c) := (g1.cell (p := ⟨w.heap.size, 0, none⟩) (by simp; omega)).trans (by simp)
      clear g1
      go_wp2_with fail
      refine (HLP.out _ HG1.out).mono ?_
      rintro e w2 ⟨rfl, g2⟩
      have h1 : w2.cell? ⟨w.heap.size + 1, 0, none⟩ = some (.slice none 0 0) := ((HG0.out.trans g2).cell (p := ⟨w.heap.size + 1, 0, none⟩) (by simp)).trans (by simp [fbox])
      have h2 : w2.frozen? ⟨w.heap.size + 1, 0, none⟩ = false := ((HG0.out.trans g2).frozen (p := ⟨w.heap.size + 1, 0, none⟩) (by simp)).trans (by simp [fbox])
      have HG2 : Hid (Grows w w2) := HG1.out.trans g2
      clear g2 hb0
      go_wp2
      refine bodyPost_ret (v := .tuple #[.agg #[.slice none 0 0], .bool false]) (by simp [results, Try.results23, go_sem, h1]) rfl ?_
      rw [HV.out, HB.out]
      exact ⟨_, rfl, OwnL.nil _ _, HG2.out.setCell (by simp) _⟩
    · have HV : Hid (dropKL ls s key = keepL ls (isPair ls s key) ls.length) := by unfold Hid dropKL; rw [if_neg h0]
      have HB : Hid (getB ls s key = true) := by unfold Hid; rw [getB_where]; simp [h0]
      obtain ⟨q, hq⟩ : ∃ q, whereOf ls s key = q := ⟨_, rfl⟩
      rw [hq] at HLP h0
      clear hq
      obtain ⟨n, hnn⟩ : ∃ n, ls.length = n := ⟨_, rfl⟩
      rw [hnn] at HF HLP HV HSA hn ⊢
      have HN := Lib.hid hnn
      clear hnn
      go_enter Try.func23, Try.ntmps23
      go_wp2_with fail
      refine (HF.out _ (((Grows.refl _).alloc _).alloc _)).mono ?_
      rintro e w1 ⟨rfl, g1⟩
      have HG0 : Hid (Grows ((w.alloc (fbox A n c)).alloc (fbox none 0 0)) w1) := g1
      have HG1 : Hid (Grows w w1) := (((Grows.refl _).alloc _).alloc _).trans g1
      have hb0 : w1.cell? ⟨w.heap.size, 0, none⟩ = some (.slice A n c) := (g1.cell (p := ⟨w.heap.size, 0, none⟩) (by simp; omega)).trans (by simp)
      clear g1
      go_wp2_with fail
      refine (HLP.out _ HG1.out).mono ?_
      rintro e w2 ⟨rfl, g2⟩
      have HG02 : Hid (Grows ((w.alloc (fbox A n c)).alloc (fbox none 0 0)) w2) := HG0.out.trans g2
      have HG2 : Hid (Grows w w2) := HG1.out.trans g2
      have hs2 : w.heap.size + 1 < w2.heap.size := Nat.lt_of_lt_of_le (by simp) HG02.out.size
      clear g2 hb0 HG0 HG1
      go_wp2_with fail
      go_loopw [8, 9] (fun v i wr => ∃ (j : Nat) (K : List Ln), j ≤ n ∧ i = .int .i64 j ∧ Hid (K = keepL ls (isPair ls s key) j) ∧ K.length ≤ j ∧ Hid (OwnL wr w2.heap.size v K) ∧ Hid (Grows w2 wr)) (fun _ i _ => n - (intOf i).toNat)
      case atStart => exact ⟨0, [], Nat.zero_le _, rfl, rfl, Nat.zero_le _, OwnL.empty _ _ (Nat.le_refl _), (Grows.refl _).alloc _⟩
      case round =>
        obtain ⟨j, K, hj, rfl, HK, hKj, HO, HG⟩ := hrel
        have hb0 : wr.cell? ⟨w.heap.size, 0, none⟩ = some (.slice A n c) := ((HG02.out.trans HG.out).cell (p := ⟨w.heap.size, 0, none⟩) (by simp; omega)).trans (by simp [fbox])
        have hs0 : w.heap.size < wr.heap.size := Nat.lt_of_lt_of_le (by omega) HG.out.size
        by_cases hlt : j < n
        · obtain ⟨b, o, rfl, hb, hc⟩ := HA.out (by rw [HN.out]; omega)
          have hk2 : j < ls.length := by rw [HN.out]; exact hlt
          have hsu := get_bang hk2
          obtain ⟨l, hl⟩ : ∃ l, ls[j] = l := ⟨_, rfl⟩
          have hat := (hc j hk2).keep hb (HG2.out.trans HG.out)
          rw [hl] at hat hsu
          have hbr : b < wr.heap.size := Nat.lt_of_lt_of_le hb (HG2.out.trans HG.out).size
          have HAT := Lib.hid hat
          have HBR := Lib.hid hbr
          obtain ⟨c0, c1, c2, c3, c4, c5⟩ := hat
          have HC := Lib.hid (HSA.out j hlt wr (HG2.out.trans HG.out))
          have HIP : Hid (isPair ls s key j = (((l.k == 3) && (l.na.toList == key.toList)) && inSec ls s j)) := by unfold Hid isPair isKey; rw [hsu]
          have HIN : Hid (inSec ls s j = ((nowAt ls (j + 1)).toList == s.toList)) := rfl
          obtain ⟨x, hx⟩ : ∃ x, nowAt ls (j + 1) = x := ⟨_, rfl⟩
          rw [hx] at HC HIN
          have HKN : Hid (isPair ls s key j = false → keepL ls (isPair ls s key) (j + 1) = K ++ [l]) := fun h => by rw [keepL_no h, HK.out, hsu]
          have HKY : Hid (isPair ls s key j = true → keepL ls (isPair ls s key) (j + 1) = K) := fun h => by rw [keepL_yes h, HK.out]
          clear hl hc hx hsu hbr
          by_cases h3 : (l.k == 3) = true
          · have h3n : (l.k != 3) = false := by simpa using h3
            by_cases hk : (l.na.toList == key.toList) = true
            · have hkn : (l.na.toList != key.toList) = false := by simpa using hk
              by_cases hin : (x.toList == s.toList) = true
              · have hinn : (x.toList != s.toList) = false := by simpa using hin
                have HS := Lib.hid (HKY.out (by rw [HIP.out, HIN.out, h3, hk, hin]; rfl))
                go_wp2_with fail
                refine (HC.out).mono ?_
                rintro e w3 ⟨rfl, g3⟩
                have HG3 := Lib.hid g3
                clear g3
                go_wp2_with fail
                go_roundw
                case rel => exact ⟨j + 1, K, by omega, by go_num, HS.out.symm, by omega, HO.out.keep HG3.out, HG.out.trans HG3.out⟩
                case measure => simp [intOf]; omega
              · have hin' : (x.toList == s.toList) = false := by simpa using hin
                have hinn : (x.toList != s.toList) = true := by simpa using hin
                have HS := Lib.hid (HKN.out (by rw [HIP.out, HIN.out, h3, hk, hin']; rfl))
                clear hin
                go_wp2_with fail
                refine (HC.out).mono ?_
                rintro e w3 ⟨rfl, g3⟩
                have hb3 := (g3.cell (p := ⟨w.heap.size, 0, none⟩) hs0).trans hb0
                obtain ⟨d0, d1, d2, d3, d4, d5⟩ := HAT.out.keep HBR.out g3
                have HO3 := Lib.hid (HO.out.keep g3)
                have HG3 : Hid (Grows w2 w3) := HG.out.trans g3
                clear g3
                go_wp2_with (at_builtin; refine appLs rfl _ _ rfl w2.heap.size _ K rfl (HO3.out.keep ((Grows.refl _).alloc _)) ⟨w3.heap.size, 0, none⟩ 1 1 [l] rfl rfl (by omega) (one_newsA _ _ _ rfl) (by omega) (by omega) (Nat.le_trans HG3.out.size (by simp)) ?_)
                intro v' w6 HO6 HGB HNE
                have HG6 : Hid (Grows w2 w6) := (HG3.out.alloc _).mark HGB.out (fun k hk => (HO3.out.lt k hk).1)
                clear HGB HNE
                go_wp2
                go_roundw
                case rel => exact ⟨j + 1, K ++ [l], by omega, by go_num, HS.out.symm, by simp; omega, HO6.out, HG6.out⟩
                case measure => simp [intOf]; omega
            · have hk' : (l.na.toList == key.toList) = false := by simpa using hk
              have hkn : (l.na.toList != key.toList) = true := by simpa using hk
              have HS := Lib.hid (HKN.out (by rw [HIP.out, hk', Bool.and_false]; rfl))
              clear hk
              go_wp2_with (at_builtin; refine appLs rfl _ _ rfl w2.heap.size _ K rfl (HO.out.keep ((Grows.refl _).alloc _)) ⟨wr.heap.size, 0, none⟩ 1 1 [l] rfl rfl (by omega) (one_newsA _ _ _ rfl) (by omega) (by omega) (Nat.le_trans HG.out.size (by simp)) ?_)
              intro v' w6 HO6 HGB HNE
              have HG6 : Hid (Grows w2 w6) := (HG.out.alloc _).mark HGB.out (fun k hk => (HO.out.lt k hk).1)
              clear HGB HNE
              go_wp2
              go_roundw
              case rel => exact ⟨j + 1, K ++ [l], by omega, by go_num, HS.out.symm, by simp; omega, HO6.out, HG6.out⟩
              case measure => simp [intOf]; omega
          · have h3' : (l.k == 3) = false := by simpa using h3
            have h3n : (l.k != 3) = true := by simpa using h3
            have HS := Lib.hid (HKN.out (by rw [HIP.out, h3']; rfl))
            clear h3
            go_wp2_with (at_builtin; refine appLs rfl _ _ rfl w2.heap.size _ K rfl (HO.out.keep ((Grows.refl _).alloc _)) ⟨wr.heap.size, 0, none⟩ 1 1 [l] rfl rfl (by omega) (one_newsA _ _ _ rfl) (by omega) (by omega) (Nat.le_trans HG.out.size (by simp)) ?_)
            intro v' w6 HO6 HGB HNE
            have HG6 : Hid (Grows w2 w6) := (HG.out.alloc _).mark HGB.out (fun k hk => (HO.out.lt k hk).1)
            clear HGB HNE
            go_wp2
            go_roundw
            case rel => exact ⟨j + 1, K ++ [l], by omega, by go_num, HS.out.symm, by simp; omega, HO6.out, HG6.out⟩
            case measure => simp [intOf]; omega
        · obtain rfl : j = n := by omega
          have h1 : wr.cell? ⟨w.heap.size + 1, 0, none⟩ = some (.slice none 0 0) := ((HG02.out.trans HG.out).cell (p := ⟨w.heap.size + 1, 0, none⟩) (by simp)).trans (by simp [fbox])
          have h2 : wr.frozen? ⟨w.heap.size + 1, 0, none⟩ = false := ((HG02.out.trans HG.out).frozen (p := ⟨w.heap.size + 1, 0, none⟩) (by simp)).trans (by simp [fbox])
          obtain ⟨A8, n8, c8, hv8⟩ := HO.out.form3
          subst hv8
          go_wp2
          refine bodyPost_ret (v := .tuple #[.agg #[.slice A8 n8 c8], .bool true]) (by simp [results, Try.results23, go_sem, h1]) rfl ?_
          rw [HV.out, HB.out, ← HK.out]
          exact ⟨_, rfl, (HO.out.setOther hs2 _).less HG2.out.size, (HG2.out.trans HG.out).setCell (by simp) _⟩
  · have hv' : vfile ls = false := by simpa using hv
    rw [hv'] at HF
    have hw0 := whereOf_no s key hv'
    have HV : Hid (dropKL ls s key = []) := by unfold Hid dropKL; rw [if_pos (by omega)]
    have HB : Hid (getB ls s key = false) := by unfold Hid; rw [getB_where, hw0]; rfl
    clear hv hv' hw0
    go_enter Try.func23, Try.ntmps23
    go_wp2_with fail
    refine (HF.out _ (((Grows.refl _).alloc _).alloc _)).mono ?_
    rintro e w1 ⟨rfl, g1⟩
    have HG1 : Hid (Grows w w1) := (((Grows.refl _).alloc _).alloc _).trans g1
    have h1 : w1.cell? ⟨w.heap.size + 1, 0, none⟩ = some (.slice none 0 0) := (g1.cell (p := ⟨w.heap.size + 1, 0, none⟩) (by simp)).trans (by simp)
    have h2 : w1.frozen? ⟨w.heap.size + 1, 0, none⟩ = false := (g1.frozen (p := ⟨w.heap.size + 1, 0, none⟩) (by simp)).trans (by simp)
    clear g1
    go_wp2
    refine bodyPost_ret (v := .tuple #[.agg #[.slice none 0 0], .bool false]) (by simp [results, Try.results23, go_sem, h1]) rfl ?_
    rw [HV.out, HB.out]
    exact ⟨_, rfl, OwnL.nil _ _, HG1.out.setCell (by simp) _⟩
end Go.Proofs.Ythgfmbhopppkmaa
