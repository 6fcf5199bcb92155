/-
  A file without a section: DropSection of the program and of the specification. Conditions: at most 1048576 bytes in all.
-/
import Derived.Test.YtclopcbpelhiaaaDoorCopyF
import Derived.Test.YtclopcbpelhiaaaDoorRegM
namespace Go.Proofs.YtclopcbpelhiaaaDoor
open Go.RowKit

/-- the lines without a section's, none if it is not there -/
def dropSL (ls : List Ln) (s : ByteArray) : List Ln := if headsOf' ls s = [] then [] else keepL ls (inSec ls s) ls.length
def dropSB (ls : List Ln) (s : ByteArray) : Bool := !(headsOf' ls s).isEmpty
theorem dropSL_le (ls : List Ln) (s : ByteArray) (hn : ls.length ≤ 1048576) : (dropSL ls s).length ≤ 1048576 := by
  unfold dropSL
  split
  · simp
  · exact Nat.le_trans (keepL_le _ _ _) hn
set_option maxRecDepth 100000 in
set_option maxHeartbeats 4000000 in
theorem implDropSec_any (A : Option Addr) (c : Nat) (ls : List Ln) (s : ByteArray) (w : World) (hf : AllFit ls) (hA : LnsAt w A ls) :
    Calls Tryd.prog 15 #[.agg #[.slice A ls.length c], .string s] w (ResLB (dropSL ls s) (dropSB ls s) w) := by
  have HP := Lib.hid (fun w1 (g : Grows w w1) => headsOf_any A c ls s w1 hf (hA.keep g))
  have HA := Lib.hid hA
  have hn : ls.length ≤ 1048576 := hf.1
  by_cases h0 : headsOf' ls s = []
  · have HV : Hid (dropSL ls s = []) := by unfold Hid dropSL; rw [if_pos h0]
    have HB : Hid (dropSB ls s = false) := by unfold Hid dropSB; rw [h0]; rfl
    rw [h0] at HP
    clear h0 hA hf
    obtain ⟨n, hnn⟩ : ∃ n, ls.length = n := ⟨_, rfl⟩
    rw [hnn] at HP ⊢
    clear hnn hn
    go_enter Tryd.func15, Tryd.ntmps15
    go_wp2_with fail
    refine (HP.out _ (((Grows.refl _).alloc _).alloc _)).mono ?_
    rintro e w1 ⟨A1, c1, rfl, _, g1, _⟩
    have HG1 : Hid (Grows w w1) := (((Grows.refl _).alloc _).alloc _).trans g1
    have h1 : w1.cell? ⟨w.heap.size + 1, 0, none⟩ = some (.slice none 0 0) := (g1.cell (p := ⟨w.heap.size + 1, 0, none⟩) (by simp)).trans (by simp)
    have h2 : w1.frozen? ⟨w.heap.size + 1, 0, none⟩ = false := (g1.frozen (p := ⟨w.heap.size + 1, 0, none⟩) (by simp)).trans (by simp)
    clear g1
    have hz : (ints []).length = 0 := rfl
    rw [hz]
    go_wp2
    refine bodyPost_ret (v := .tuple #[.agg #[.slice none 0 0], .bool false]) (by simp [results, Tryd.results15, go_sem, h1]) rfl ?_
    rw [HV.out, HB.out]
    exact ⟨_, rfl, OwnL.nil _ _, HG1.out.setCell (by simp) _⟩
  · have HV : Hid (dropSL ls s = keepL ls (inSec ls s) ls.length) := by unfold Hid dropSL; rw [if_neg h0]
    have HB : Hid (dropSB ls s = true) := by unfold Hid dropSB; cases hh : headsOf' ls s with
      | nil => exact absurd hh h0
      | cons _ _ => rfl
    have hv := heads_valid h0
    have hpos : 0 < (headsOf' ls s).length := List.length_pos_iff.2 h0
    have HLI := Lib.hid (fun w1 (g : Grows w w1) => linesIn_any A c ls s w1 hf hv (hA.keep g))
    have HC := Lib.hid (fun (I : Option Addr) (ci : Nat) w1 (g : Grows w w1) (h : ValsAt w1 I (ints ((List.range ls.length).filter (inSec ls s)))) (h2 : ((List.range ls.length).filter (inSec ls s)).length ≤ ci) => cutLines_any A I c ci ls (inSec ls s) w1 hn (HA.out.keep g) h h2)
    unfold secTo at HLI
    clear h0 hv HA hA hf
    obtain ⟨H, hH⟩ : ∃ H, headsOf' ls s = H := ⟨_, rfl⟩
    rw [hH] at HP hpos
    clear hH
    obtain ⟨L, hL⟩ : ∃ L, (List.range ls.length).filter (inSec ls s) = L := ⟨_, rfl⟩
    rw [hL] at HLI HC
    clear hL
    obtain ⟨n, hnn⟩ : ∃ n, ls.length = n := ⟨_, rfl⟩
    rw [hnn] at HP HLI HC HV hn ⊢
    clear hnn
    unfold ValsRet at HP HLI
    rw [ints_length] at HP HLI
    obtain ⟨m, hm⟩ : ∃ m, L.length = m := ⟨_, rfl⟩
    rw [hm] at HLI HC
    obtain ⟨p, hp⟩ : ∃ p, H.length = p := ⟨_, rfl⟩
    rw [hp] at HP hpos
    clear hm hp
    go_enter Tryd.func15, Tryd.ntmps15
    go_wp2_with fail
    refine (HP.out _ (((Grows.refl _).alloc _).alloc _)).mono ?_
    rintro e w1 ⟨A1, c1, rfl, _, g1, _⟩
    have HG0 : Hid (Grows ((w.alloc (fbox A n c)).alloc (fbox none 0 0)) w1) := g1
    have HG1 : Hid (Grows w w1) := (((Grows.refl _).alloc _).alloc _).trans g1
    have hb0 : w1.cell? ⟨w.heap.size, 0, none⟩ = some (.slice A n c) := (g1.cell (p := ⟨w.heap.size, 0, none⟩) (by simp; omega)).trans (by simp)
    clear g1
    go_wp2_with fail
    refine wp_region_M 5 (CellsAre [(⟨w.heap.size, 0, none⟩, .slice A n c)]) (by kernel_rfl) (by kernel_rfl) ⟨hb0, trivial⟩ (fun hB hS => ?_)
    refine wpAnyM_take (i := 0) (v := ?va0) hB rfl (by kernel_rfl) (fun _ _ _ h => h) (by rfl) ?ya0 hS ?na0
    case ya0 => (intro w9 hSw; obtain ⟨s1, _⟩ := hSw; go_simp; try with_reducible rfl)
    refine wpAnyM_take (i := 1) (v := ?va1) hB rfl (by kernel_rfl) (fun _ _ _ h => h) (by rfl) ?ya1 hS ?na1
    case ya1 => (intro w9 hSw; obtain ⟨s1, _⟩ := hSw; go_simp; try with_reducible rfl)
    refine wpAnyM_take (i := 2) (v := ?va2) hB rfl (by kernel_rfl) (fun _ _ _ h => h) (by rfl) ?ya2 hS ?na2
    case ya2 => (intro w9 hSw; obtain ⟨s1, _⟩ := hSw; go_simp; try with_reducible rfl)
    refine wpAnyM_take (i := 3) (v := ?va3) hB rfl (by kernel_rfl) (fun _ _ _ h => h) (by rfl) ?ya3 hS ?na3
    case ya3 => (intro w9 hSw; obtain ⟨s1, _⟩ := hSw; go_simp; try with_reducible rfl)
    refine wpAnyM_one (i := 4) rfl (by kernel_rfl) rfl ?_
    have HS := Lib.hid hS
    clear hS hb0
    go_wp2_with fail
    refine (HLI.out _ HG1.out.drew).mono ?_
    rintro e w2 ⟨A2, c2, rfl, hv2, g2, hc2⟩
    have HS2 := Lib.hid (CellsAre.keep HS.out g2)
    have HG02 : Hid (Grows ((w.alloc (fbox A n c)).alloc (fbox none 0 0)) w2) := HG0.out.drew.trans g2
    have HG2 : Hid (Grows w w2) := HG1.out.drew.trans g2
    have HC2 := Lib.hid hc2
    have HV2 := Lib.hid hv2
    clear g2 hc2 hv2
    go_wp2_with fail
    refine ⟨HS2.out, ?_⟩
    refine wpAnyM_tail (by kernel_rfl) ?_
    clear HS HS2 hB
    go_wp2_with fail
    refine (HC.out _ _ _ HG2.out HV2.out HC2.out).mono ?_
    rintro e w3 ⟨v, rfl, ho, g3⟩
    have h1 : w3.cell? ⟨w.heap.size + 1, 0, none⟩ = some (.slice none 0 0) := ((HG02.out.trans g3).cell (p := ⟨w.heap.size + 1, 0, none⟩) (by simp)).trans (by simp [fbox])
    have h2 : w3.frozen? ⟨w.heap.size + 1, 0, none⟩ = false := ((HG02.out.trans g3).frozen (p := ⟨w.heap.size + 1, 0, none⟩) (by simp)).trans (by simp [fbox])
    have hs1 : w.heap.size + 1 < w2.heap.size := Nat.lt_of_lt_of_le (by simp) HG02.out.size
    have HG3 : Hid (Grows w w3) := HG2.out.trans g3
    have HO := Lib.hid ho
    obtain ⟨A3, n3, c3, hv3⟩ := ho.form3
    subst hv3
    clear g3 ho
    go_wp2
    refine bodyPost_ret (v := .tuple #[.agg #[.slice A3 n3 c3], .bool true]) (by simp [results, Tryd.results15, go_sem, h1]) rfl ?_
    rw [HV.out, HB.out]
    exact ⟨_, rfl, (HO.out.setOther hs1 _).less HG2.out.size, HG3.out.setCell (by simp) _⟩

set_option maxRecDepth 100000 in
set_option maxHeartbeats 4000000 in
theorem specDropSec_any (A : Option Addr) (c : Nat) (ls : List Ln) (s : ByteArray) (w : World) (hf : AllFit ls) (hA : LnsAt w A ls) :
    Calls Tryd.prog 16 #[.agg #[.slice A ls.length c], .string s] w (ResLB (dropSL ls s) (dropSB ls s) w) := by
  have HF := Lib.hid (fun w1 (g : Grows w w1) => specFile_any A c ls w1 hf (hA.keep g))
  have HPF := Lib.hid (fun w1 (g : Grows w w1) => placeFor_any A c ls s w1 hf.1 (hA.keep g))
  have HSA := Lib.hid (fun (i : Nat) (h : i < ls.length) w1 (g : Grows w w1) => sectionAt_any A c ls i w1 hf.1 h (hA.keep g))
  have HA := Lib.hid hA
  have hn : ls.length ≤ 1048576 := hf.1
  clear hA hf
  by_cases hv : vfile ls = true
  · rw [hv] at HF
    by_cases he : s.toList.isEmpty = true
    · have he1 : s.toList = [] := by simpa using he
      have HV : Hid (dropSL ls s = []) := by unfold Hid dropSL; rw [if_pos (heads_empty he)]
      have HB : Hid (dropSB ls s = false) := by unfold Hid dropSB; rw [heads_empty he]; rfl
      clear hv
      go_enter Tryd.func16, Tryd.ntmps16
      go_wp2_with fail
      refine (HF.out _ (((Grows.refl _).alloc _).alloc _)).mono ?_
      rintro e w1 ⟨rfl, g1⟩
      have HG1 : Hid (Grows w w1) := (((Grows.refl _).alloc _).alloc _).trans g1
      have h1 : w1.cell? ⟨w.heap.size + 1, 0, none⟩ = some (.slice none 0 0) := (g1.cell (p := ⟨w.heap.size + 1, 0, none⟩) (by simp)).trans (by simp)
      have h2 : w1.frozen? ⟨w.heap.size + 1, 0, none⟩ = false := (g1.frozen (p := ⟨w.heap.size + 1, 0, none⟩) (by simp)).trans (by simp)
      clear g1
      go_wp2
      refine bodyPost_ret (v := .tuple #[.agg #[.slice none 0 0], .bool false]) (by simp [results, Tryd.results16, go_sem, h1]) rfl ?_
      rw [HV.out, HB.out]
      exact ⟨_, rfl, OwnL.nil _ _, HG1.out.setCell (by simp) _⟩
    · have he1 : s.toList.isEmpty = false := by simpa using he
      have he2 : ¬ s.toList = [] := by intro h; rw [h] at he; simp at he
      have HPH := Lib.hid (place_heads hv he1)
      clear hv he
      by_cases h0 : placeTo ls s ls.length < 0
      · have HV : Hid (dropSL ls s = []) := by unfold Hid dropSL; rw [if_pos (HPH.out.1 h0)]
        have HB : Hid (dropSB ls s = false) := by unfold Hid dropSB; rw [HPH.out.1 h0]; rfl
        obtain ⟨q, hq⟩ : ∃ q, placeTo ls s ls.length = q := ⟨_, rfl⟩
        rw [hq] at HPF h0
        clear hq HPH
        go_enter Tryd.func16, Tryd.ntmps16
        go_wp2_with fail
        refine (HF.out _ (((Grows.refl _).alloc _).alloc _)).mono ?_
        rintro e w1 ⟨rfl, g1⟩
        have HG0 : Hid (Grows ((w.alloc (fbox A ls.length c)).alloc (fbox none 0 0)) w1) := g1
        have HG1 : Hid (Grows w w1) := (((Grows.refl _).alloc _).alloc _).trans g1
        have hb0 : w1.cell? ⟨w.heap.size, 0, none⟩ = some (.slice A ls.length c) := (g1.cell (p := ⟨w.heap.size, 0, none⟩) (by simp; omega)).trans (by simp)
        clear g1
        go_wp2_with fail
        refine (HPF.out _ HG1.out).mono ?_
        rintro e w2 ⟨rfl, g2⟩
        have h1 : w2.cell? ⟨w.heap.size + 1, 0, none⟩ = some (.slice none 0 0) := ((HG0.out.trans g2).cell (p := ⟨w.heap.size + 1, 0, none⟩) (by simp)).trans (by simp [fbox])
        have h2 : w2.frozen? ⟨w.heap.size + 1, 0, none⟩ = false := ((HG0.out.trans g2).frozen (p := ⟨w.heap.size + 1, 0, none⟩) (by simp)).trans (by simp [fbox])
        have HG2 : Hid (Grows w w2) := HG1.out.trans g2
        clear g2 hb0
        go_wp2
        refine bodyPost_ret (v := .tuple #[.agg #[.slice none 0 0], .bool false]) (by simp [results, Tryd.results16, go_sem, h1]) rfl ?_
        rw [HV.out, HB.out]
        exact ⟨_, rfl, OwnL.nil _ _, HG2.out.setCell (by simp) _⟩
      · have hne : ¬ headsOf' ls s = [] := fun h => h0 (HPH.out.2 h)
        have HV : Hid (dropSL ls s = keepL ls (inSec ls s) ls.length) := by unfold Hid dropSL; rw [if_neg hne]
        have HB : Hid (dropSB ls s = true) := by unfold Hid dropSB; cases hh : headsOf' ls s with
          | nil => exact absurd hh hne
          | cons _ _ => rfl
        obtain ⟨q, hq⟩ : ∃ q, placeTo ls s ls.length = q := ⟨_, rfl⟩
        rw [hq] at HPF h0
        clear hq HPH hne
        obtain ⟨n, hnn⟩ : ∃ n, ls.length = n := ⟨_, rfl⟩
        rw [hnn] at HF HPF HV HSA hn ⊢
        have HN := Lib.hid hnn
        clear hnn
        go_enter Tryd.func16, Tryd.ntmps16
        go_wp2_with fail
        refine (HF.out _ (((Grows.refl _).alloc _).alloc _)).mono ?_
        rintro e w1 ⟨rfl, g1⟩
        have HG0 : Hid (Grows ((w.alloc (fbox A n c)).alloc (fbox none 0 0)) w1) := g1
        have HG1 : Hid (Grows w w1) := (((Grows.refl _).alloc _).alloc _).trans g1
        have hb0 : w1.cell? ⟨w.heap.size, 0, none⟩ = some (.slice A n c) := (g1.cell (p := ⟨w.heap.size, 0, none⟩) (by simp; omega)).trans (by simp)
        clear g1
        go_wp2_with fail
        refine (HPF.out _ HG1.out).mono ?_
        rintro e w2 ⟨rfl, g2⟩
        have HG02 : Hid (Grows ((w.alloc (fbox A n c)).alloc (fbox none 0 0)) w2) := HG0.out.trans g2
        have HG2 : Hid (Grows w w2) := HG1.out.trans g2
        have hs2 : w.heap.size + 1 < w2.heap.size := Nat.lt_of_lt_of_le (by simp) HG02.out.size
        clear g2 hb0 HG0 HG1
        clear he1 he2
        go_wp2_with fail
        go_loopw [6, 7] (fun v i wr => ∃ (j : Nat) (K : List Ln), j ≤ n ∧ i = .int .i64 j ∧ Hid (K = keepL ls (inSec ls s) j) ∧ K.length ≤ j ∧ Hid (OwnL wr w2.heap.size v K) ∧ Hid (Grows w2 wr)) (fun _ i _ => n - (intOf i).toNat)
        case atStart => exact ⟨0, [], Nat.zero_le _, rfl, rfl, Nat.zero_le _, OwnL.empty _ _ (Nat.le_refl _), (Grows.refl _).alloc _⟩
        case round =>
          obtain ⟨j, K, hj, rfl, HK, hKj, HO, HG⟩ := hrel
          have hb0 : wr.cell? ⟨w.heap.size, 0, none⟩ = some (.slice A n c) := ((HG02.out.trans HG.out).cell (p := ⟨w.heap.size, 0, none⟩) (by simp; omega)).trans (by simp [fbox])
          have hs0 : w.heap.size < wr.heap.size := Nat.lt_of_lt_of_le (by omega) HG.out.size
          by_cases hlt : j < n
          · obtain ⟨b, o, rfl, hb, hc⟩ := HA.out (by rw [HN.out]; omega)
            have hk2 : j < ls.length := by rw [HN.out]; exact hlt
            have hsu := get_bang hk2
            obtain ⟨l, hl⟩ : ∃ l, ls[j] = l := ⟨_, rfl⟩
            have hat := (hc j hk2).keep hb (HG2.out.trans HG.out)
            rw [hl] at hat hsu
            have hbr : b < wr.heap.size := Nat.lt_of_lt_of_le hb (HG2.out.trans HG.out).size
            have HAT := Lib.hid hat
            have HBR := Lib.hid hbr
            have HC := Lib.hid (HSA.out j hlt wr (HG2.out.trans HG.out))
            have HIN : Hid (inSec ls s j = ((nowAt ls (j + 1)).toList == s.toList)) := rfl
            obtain ⟨x, hx⟩ : ∃ x, nowAt ls (j + 1) = x := ⟨_, rfl⟩
            rw [hx] at HC HIN
            have HKN : Hid (inSec ls s j = false → keepL ls (inSec ls s) (j + 1) = K ++ [l]) := fun h => by rw [keepL_no h, HK.out, hsu]
            have HKY : Hid (inSec ls s j = true → keepL ls (inSec ls s) (j + 1) = K) := fun h => by rw [keepL_yes h, HK.out]
            clear hl hc hx hsu hbr hat
            by_cases hin : (x.toList == s.toList) = true
            · have hinn : (x.toList != s.toList) = false := by simpa using hin
              have HS := Lib.hid (HKY.out (by rw [HIN.out, hin]))
              go_wp2_with fail
              refine (HC.out).mono ?_
              rintro e w3 ⟨rfl, g3⟩
              have HG3 := Lib.hid g3
              clear g3
              go_wp2_with fail
              go_roundw
              case rel => exact ⟨j + 1, K, by omega, by go_num, HS.out.symm, by omega, HO.out.keep HG3.out, HG.out.trans HG3.out⟩
              case measure => simp [intOf]; omega
            · have hin' : (x.toList == s.toList) = false := by simpa using hin
              have hinn : (x.toList != s.toList) = true := by simpa using hin
              have HS := Lib.hid (HKN.out (by rw [HIN.out, hin']))
              clear hin
              go_wp2_with fail
              refine (HC.out).mono ?_
              rintro e w3 ⟨rfl, g3⟩
              have hb3 := (g3.cell (p := ⟨w.heap.size, 0, none⟩) hs0).trans hb0
              obtain ⟨d0, d1, d2, d3, d4, d5⟩ := HAT.out.keep HBR.out g3
              have HO3 := Lib.hid (HO.out.keep g3)
              have HG3 : Hid (Grows w2 w3) := HG.out.trans g3
              clear g3
              go_wp2_with (at_builtin; refine appLs rfl _ _ rfl w2.heap.size _ K rfl (HO3.out.keep ((Grows.refl _).alloc _)) ⟨w3.heap.size, 0, none⟩ 1 1 [l] rfl rfl (by omega) (one_newsA _ _ _ rfl) (by omega) (by omega) (Nat.le_trans HG3.out.size (by simp)) ?_)
              intro v' w6 HO6 HGB HNE
              have HG6 : Hid (Grows w2 w6) := (HG3.out.alloc _).mark HGB.out (fun k hk => (HO3.out.lt k hk).1)
              clear HGB HNE
              go_wp2
              go_roundw
              case rel => exact ⟨j + 1, K ++ [l], by omega, by go_num, HS.out.symm, by simp; omega, HO6.out, HG6.out⟩
              case measure => simp [intOf]; omega
          · obtain rfl : j = n := by omega
            have h1 : wr.cell? ⟨w.heap.size + 1, 0, none⟩ = some (.slice none 0 0) := ((HG02.out.trans HG.out).cell (p := ⟨w.heap.size + 1, 0, none⟩) (by simp)).trans (by simp [fbox])
            have h2 : wr.frozen? ⟨w.heap.size + 1, 0, none⟩ = false := ((HG02.out.trans HG.out).frozen (p := ⟨w.heap.size + 1, 0, none⟩) (by simp)).trans (by simp [fbox])
            obtain ⟨A8, n8, c8, hv8⟩ := HO.out.form3
            subst hv8
            go_wp2
            refine bodyPost_ret (v := .tuple #[.agg #[.slice A8 n8 c8], .bool true]) (by simp [results, Tryd.results16, go_sem, h1]) rfl ?_
            rw [HV.out, HB.out, ← HK.out]
            exact ⟨_, rfl, (HO.out.setOther hs2 _).less HG2.out.size, (HG2.out.trans HG.out).setCell (by simp) _⟩
  · have hv' : vfile ls = false := by simpa using hv
    rw [hv'] at HF
    have HV : Hid (dropSL ls s = []) := by unfold Hid dropSL; rw [if_pos (headsOf_no s hv')]
    have HB : Hid (dropSB ls s = false) := by unfold Hid dropSB; rw [headsOf_no s hv']; rfl
    clear hv hv'
    go_enter Tryd.func16, Tryd.ntmps16
    go_wp2_with fail
    refine (HF.out _ (((Grows.refl _).alloc _).alloc _)).mono ?_
    rintro e w1 ⟨rfl, g1⟩
    have HG1 : Hid (Grows w w1) := (((Grows.refl _).alloc _).alloc _).trans g1
    have h1 : w1.cell? ⟨w.heap.size + 1, 0, none⟩ = some (.slice none 0 0) := (g1.cell (p := ⟨w.heap.size + 1, 0, none⟩) (by simp)).trans (by simp)
    have h2 : w1.frozen? ⟨w.heap.size + 1, 0, none⟩ = false := (g1.frozen (p := ⟨w.heap.size + 1, 0, none⟩) (by simp)).trans (by simp)
    clear g1
    go_wp2
    refine bodyPost_ret (v := .tuple #[.agg #[.slice none 0 0], .bool false]) (by simp [results, Tryd.results16, go_sem, h1]) rfl ?_
    rw [HV.out, HB.out]
    exact ⟨_, rfl, OwnL.nil _ _, HG1.out.setCell (by simp) _⟩
end Go.Proofs.YtclopcbpelhiaaaDoor
