/-
  A file with one more note: AddNote of the specification. Conditions: at most 1048576 bytes in all.
-/
import Derived.Test.YtclopcbpelhiaaaSetP
namespace Go.Proofs.Ytclopcbpelhiaaa
open Go.RowKit

set_option maxRecDepth 100000 in
set_option maxHeartbeats 4000000 in
theorem specAddNoteC_any (A : Option Addr) (c : Nat) (ls : List Ln) (s key note : ByteArray) (w : World) (hf : AllFit ls) (hno : note.size ≤ 1048576) (hcap : ls.length ≤ c) (hA : LnsAt w A ls) :
    Calls Try.prog 18 #[.agg #[.slice A ls.length c], .string s, .string key, .string note] w (ResLB (addNL ls s key note) (addNB ls s key note) w) := by
  have HW := Lib.hid (fun w1 (g : Grows w w1) => specWhere_any A c ls s key w1 hf (hA.keep g))
  have HA := Lib.hid hA
  have hn : ls.length ≤ 1048576 := hf.1
  have hwl := where_lt ls s key
  by_cases h0 : whereOf ls s key < 0
  · have HV : Hid (addNL ls s key note = []) := by unfold Hid addNL; rw [if_pos h0]
    have HB : Hid (addNB ls s key note = false) := by unfold Hid addNB; rw [if_pos h0]
    obtain ⟨q, hq⟩ : ∃ q, whereOf ls s key = q := ⟨_, rfl⟩
    rw [hq] at HW h0
    obtain ⟨n, hnn⟩ : ∃ n, ls.length = n := ⟨_, rfl⟩
    rw [hnn] at HW ⊢
    clear hq hnn hwl hA hf hn
    go_enter Try.func18, Try.ntmps18
    go_wp2_with fail
    refine (HW.out _ (((Grows.refl _).alloc _).alloc _)).mono ?_
    rintro e w1 ⟨rfl, g1⟩
    have HG1 : Hid (Grows w w1) := (((Grows.refl _).alloc _).alloc _).trans g1
    have h1 : w1.cell? ⟨w.heap.size + 1, 0, none⟩ = some (.slice none 0 0) := (g1.cell (p := ⟨w.heap.size + 1, 0, none⟩) (by simp)).trans (by simp)
    have h2 : w1.frozen? ⟨w.heap.size + 1, 0, none⟩ = false := (g1.frozen (p := ⟨w.heap.size + 1, 0, none⟩) (by simp)).trans (by simp)
    clear g1
    go_wp2
    refine bodyPost_ret (v := .tuple #[.agg #[.slice none 0 0], .bool false]) (by simp [results, Try.results18, go_sem, h1]) rfl ?_
    rw [HV.out, HB.out]
    exact ⟨_, rfl, OwnL.nil _ _, HG1.out.setCell (by simp) _⟩
  · obtain ⟨k, hk⟩ : ∃ k : Nat, whereOf ls s key = k := ⟨(whereOf ls s key).toNat, by omega⟩
    have hkl : k < ls.length := by omega
    have hl := vfile_20 (pairs_some h0).1
    have HV : Hid (addNL ls s key note = chkL (putL ls k [noteL note])) := by unfold Hid addNL; rw [if_neg h0, hk, Int.toNat_natCast]
    have HB : Hid (addNB ls s key note = vfile (putL ls k [noteL note])) := by unfold Hid addNB; rw [if_neg h0, hk, Int.toNat_natCast]
    have HFR := Lib.hid (putL_fits (k := k) (ms := [noteL note]) hf (by simp; omega) (fun i h => by
      have h9 : i = 0 := by simp at h; omega
      subst h9
      exact ⟨Nat.zero_le _, Nat.zero_le _, Nat.zero_le _, Nat.le_trans hno (by unfold maxLen; omega), Nat.zero_le _⟩))
    obtain ⟨b, o, hAe, hb, _⟩ := hA (by omega)
    subst hAe
    have HCP := Lib.hid (fun w1 (g : Grows w w1) => specCopy_any ⟨b, o, none⟩ c (ls.take k) w1 (by rw [List.length_take]; omega) ((HA.out.keep g).take k))
    have HDR := Lib.hid (fun w1 (g : Grows w w1) => (HA.out.keep g).drop k)
    have HTK : Hid ((ls.take k).length = k) := by unfold Hid; rw [List.length_take]; omega
    have HDK : Hid ((ls.drop k).length = ls.length - k) := by unfold Hid; rw [List.length_drop]
    rw [HTK.out] at HCP
    rw [hk] at HW
    have HPE : Hid (ls.take k ++ [noteL note] ++ ls.drop k = putL ls k [noteL note]) := by unfold Hid putL; rw [List.append_assoc]
    clear hk h0 hwl hA hf HA
    obtain ⟨R, hR⟩ : ∃ R, putL ls k [noteL note] = R := ⟨_, rfl⟩
    rw [hR] at HFR HPE HV HB
    clear hR
    have HCK := Lib.hid (fun (v : Value) (b : Nat) w1 (h : OwnL w1 b v R) => checkedFile_any v b R w1 HFR.out h)
    unfold RetL at HCP
    unfold ChkRet at HCK
    obtain ⟨n, hnn⟩ : ∃ n, ls.length = n := ⟨_, rfl⟩
    rw [hnn] at HW HDK hn hkl hl hcap ⊢
    obtain ⟨β, hβ⟩ : ∃ β, vfile R = β := ⟨_, rfl⟩
    rw [hβ] at HCK HB
    clear hnn hβ
    have hkn : ¬ n = k := by omega
    have hkle : k ≤ n := by omega
    have hkn2 : ¬ k = n := by omega
    have hkc : k ≤ c := by omega
    have hkc1 : ¬ c = k := by omega
    have hkc2 : ¬ k = c := by omega
    go_enter Try.func18, Try.ntmps18
    go_wp2_with fail
    refine (HW.out _ (((Grows.refl _).alloc _).alloc _)).mono ?_
    rintro e w1 ⟨rfl, g1⟩
    have HG01 : Hid (Grows ((w.alloc (fbox (some ⟨b, o, none⟩) n c)).alloc (fbox none 0 0)) w1) := g1
    have HG1 : Hid (Grows w w1) := (((Grows.refl _).alloc _).alloc _).trans g1
    have hb1 : w1.cell? ⟨w.heap.size, 0, none⟩ = some (.slice (some ⟨b, o, none⟩) n c) := (HG01.out.cell (p := ⟨w.heap.size, 0, none⟩) (by simp; omega)).trans (by simp [fbox])
    clear g1
    go_wp2_with fail
    refine wp_region_M 17 (CellsAre [(⟨w.heap.size, 0, none⟩, .slice (some ⟨b, o, none⟩) n c)]) (by kernel_rfl) (by kernel_rfl) ⟨hb1, trivial⟩ (fun hB hS => ?_)
    refine wpAnyM_take (i := 0) (v := ?va0) hB rfl (by kernel_rfl) (fun _ _ _ h => h) (by rfl) ?ya0 hS ?na0
    case ya0 => (intro w9 hSw; obtain ⟨s1, _⟩ := hSw; go_simp; try with_reducible rfl)
    refine wpAnyM_take (i := 1) (v := ?va1) hB rfl (by kernel_rfl) (fun _ _ _ h => h) (by rfl) ?ya1 hS ?na1
    case ya1 => (intro w9 hSw; obtain ⟨s1, _⟩ := hSw; go_simp; try with_reducible rfl)
    refine wpAnyM_take (i := 2) (v := ?va2) hB rfl (by kernel_rfl) (fun _ _ _ h => h) (by rfl) ?ya2 hS ?na2
    case ya2 => (intro w9 hSw; obtain ⟨s1, _⟩ := hSw; go_simp; try with_reducible rfl)
    refine wpAnyM_take (i := 3) (v := ?va3) hB rfl (by kernel_rfl) (fun _ _ _ h => h) (by rfl) ?ya3 hS ?na3
    case ya3 => (intro w9 hSw; obtain ⟨s1, _⟩ := hSw; go_simp; try with_reducible rfl)
    refine wpAnyM_take (i := 5) (v := ?va5) hB rfl (by kernel_rfl) (fun _ _ _ h => h) (by rfl) ?ya5 hS ?na5
    case ya5 => (intro w9 hSw; obtain ⟨s1, _⟩ := hSw; go_simp; try with_reducible rfl)
    refine wpAnyM_take (i := 6) (v := ?va6) hB rfl (by kernel_rfl) (fun _ _ _ h => h) (by rfl) ?ya6 hS ?na6
    case ya6 => (intro w9 hSw; obtain ⟨s1, _⟩ := hSw; go_simp; try with_reducible rfl)
    refine wpAnyM_take (i := 9) (v := ?va9) hB rfl (by kernel_rfl) (fun _ _ _ h => h) (by rfl) ?ya9 hS ?na9
    case ya9 => (intro w9 hSw; obtain ⟨s1, _⟩ := hSw; go_simp; try with_reducible rfl)
    refine wpAnyM_take (i := 10) (v := ?va10) hB rfl (by kernel_rfl) (fun _ _ _ h => h) (by rfl) ?ya10 hS ?na10
    case ya10 => (intro w9 hSw; obtain ⟨s1, _⟩ := hSw; go_simp; try with_reducible rfl)
    refine wpAnyM_take (i := 11) (v := ?va11) hB rfl (by kernel_rfl) (fun _ _ _ h => h) (by rfl) ?ya11 hS ?na11
    case ya11 => (intro w9 hSw; obtain ⟨s1, _⟩ := hSw; go_simp; try with_reducible rfl)
    refine wpAnyM_take (i := 12) (v := ?va12) hB rfl (by kernel_rfl) (fun _ _ _ h => h) (by rfl) ?ya12 hS ?na12
    case ya12 => (intro w9 hSw; obtain ⟨s1, _⟩ := hSw; go_simp; try with_reducible rfl)
    have HS1 : Hid (CellsAre [(⟨w.heap.size, 0, none⟩, .slice (some ⟨b, o, none⟩) n c)] w1) := ⟨hb1, trivial⟩
    clear hS hb1
    refine wpAnyM_two (i := 4) (j := 7) rfl rfl (by kernel_rfl) rfl rfl ?wayA ?wayB
    case wayA =>
      go_wp2_with fail
      refine (HCP.out _ HG1.out.drew).mono ?_
      rintro e w3 ⟨v, rfl, ho, g3⟩
      have G3 : Hid (Grows w1 w3) := (Grows.refl _).drew.trans g3
      have HO3 : Hid (OwnL w3 w1.heap.size v (ls.take k)) := ho
      clear g3 ho
      go_wp2_with fail
      refine ⟨CellsAre.keep HS1.out G3.out, ?_⟩
      refine wpAnyM_one (i := 7) rfl (by kernel_rfl) rfl ?_
      go_wp2_with fail
      refine ⟨CellsAre.keep HS1.out (G3.out.alloc _), ?_⟩
      refine wpAnyM_one (i := 8) rfl (by kernel_rfl) rfl ?_
      refine appLs rfl (.tmp 22) (.tmp 25) rfl w1.heap.size v (ls.take k) (by simp [Act.eval]) (HO3.out.keep ((Grows.refl _).alloc _)) ⟨w3.heap.size, 0, none⟩ 1 1 [noteL note] (by simp [Act.eval]) rfl (by omega) (one_newsA _ _ _ rfl) (by rw [HTK.out]; omega) (by omega) (Nat.le_trans G3.out.size (by simp)) ?_
      intro v5 w5 HO5 HGB HNE
      have G5 : Hid (Grows w1 w5) := (G3.out.alloc _).mark HGB.out (fun k hk => (HO3.out.lt k hk).1)
      clear HGB HNE
      go_wp2_with fail
      refine ⟨CellsAre.keep HS1.out G5.out, ?_⟩
      refine wpAnyM_one (i := 13) rfl (by kernel_rfl) rfl ?_
      obtain ⟨bd, od, hde, hbd, hcd⟩ := HDR.out w5 (HG1.out.trans G5.out) (by rw [HDK.out]; omega)
      injection hde with hde
      injection hde with hde1 hde2
      subst hde1
      subst hde2
      have HNW2 := Lib.hid (LnsAt.cells hcd)
      clear hcd
      refine appLs rfl (.tmp 26) (.tmp 30) rfl w1.heap.size v5 (ls.take k ++ [noteL note]) (by simp [Act.eval]) HO5.out ⟨b, o + k * 6, none⟩ (n - k) (c - k) (ls.drop k) (by simp [Act.eval]) HDK.out (by omega) HNW2.out (by rw [List.length_append, HTK.out]; simp; omega) (by omega) G5.out.size ?_
      intro v6 w6 HO6 HGB HNE
      have G6 : Hid (Grows w1 w6) := G5.out.mark HGB.out (fun k hk => (HO5.out.lt k hk).1)
      rw [HPE.out] at HO6
      clear HGB HNE
      go_wp2_with fail
      refine ⟨CellsAre.keep HS1.out G6.out, ?_⟩
      refine wpAnyM_one (i := 14) rfl (by kernel_rfl) rfl ?_
      go_wp2_with fail
      refine (HCK.out _ _ _ HO6.out).mono ?_
      rintro e w7 ⟨u, rfl, ho, g7⟩
      have G7 : Hid (Grows w1 w7) := G6.out.trans g7
      have HO7 := Lib.hid ho
      obtain ⟨A5, n5, c5, hv5⟩ := ho.form3
      subst hv5
      clear g7 ho
      go_wp2_with fail
      refine ⟨CellsAre.keep HS1.out G7.out, ?_⟩
      have hS := CellsAre.keep HS1.out G7.out
      refine wpAnyM_take (i := 15) (v := ?vc15) hB rfl (by kernel_rfl) (fun _ _ _ h => h) (by rfl) ?yc15 hS ?nc15
      case yc15 => (intro w9 hSw; obtain ⟨s1, _⟩ := hSw; go_simp; try with_reducible rfl)
      refine wpAnyM_take (i := 16) (v := ?vc16) hB rfl (by kernel_rfl) (fun _ _ _ h => h) (by rfl) ?yc16 hS ?nc16
      case yc16 => (intro w9 hSw; obtain ⟨s1, _⟩ := hSw; go_simp; try with_reducible rfl)
      refine wpAnyM_tail (by kernel_rfl) ?_
      clear hS hB
      have HG07 : Hid (Grows ((w.alloc (fbox (some ⟨b, o, none⟩) n c)).alloc (fbox none 0 0)) w7) := HG01.out.trans G7.out
      have h1 : w7.cell? ⟨w.heap.size + 1, 0, none⟩ = some (.slice none 0 0) := (HG07.out.cell (p := ⟨w.heap.size + 1, 0, none⟩) (by simp)).trans (by simp [fbox])
      have h2 : w7.frozen? ⟨w.heap.size + 1, 0, none⟩ = false := (HG07.out.frozen (p := ⟨w.heap.size + 1, 0, none⟩) (by simp)).trans (by simp [fbox])
      have hs1 : w.heap.size + 1 < w1.heap.size := Nat.lt_of_lt_of_le (by simp) HG01.out.size
      go_wp2
      refine bodyPost_ret (v := .tuple #[.agg #[.slice A5 n5 c5], .bool β]) (by simp [results, Try.results18, go_sem, h1]) rfl ?_
      rw [HV.out, HB.out]
      exact ⟨_, rfl, (HO7.out.setOther hs1 _).less HG1.out.size, (HG1.out.trans G7.out).setCell (by simp) _⟩
    case wayB =>
      go_wp2_with fail
      refine ⟨CellsAre.keep HS1.out (show Grows w1 _ from by repeat (first | exact Grows.refl _ | refine Grows.alloc ?_ _ | refine Grows.drew ?_)), ?_⟩
      refine wpAnyM_one (i := 4) rfl (by kernel_rfl) rfl ?_
      go_wp2_with fail
      refine (HCP.out _ (by repeat (first | exact HG1.out | refine Grows.alloc ?_ _ | refine Grows.drew ?_))).mono ?_
      rintro e w3 ⟨v, rfl, ho, g3⟩
      have GA := Lib.hid g3
      have G3 : Hid (Grows w1 w3) := Grows.trans (by repeat (first | exact Grows.refl _ | refine Grows.alloc ?_ _ | refine Grows.drew ?_)) g3
      have HO3 : Hid (OwnL w3 w1.heap.size v (ls.take k)) := OwnL.less ho (by simp)
      have HNW : Hid (∀ j u, (lcells [noteL note])[j]? = some u → w3.cell? ((⟨w1.heap.size, 0, none⟩ : Addr).add j) = some u) := fun j u hj => by
        have h9 := one_newsA w1 (noteL note) 55 rfl j u hj
        have ha : (⟨w1.heap.size, 0, none⟩ : Addr).add j = ⟨w1.heap.size, 0 + j, none⟩ := by unfold Addr.add; split <;> simp_all
        rw [ha] at h9 ⊢
        exact (GA.out.cell (p := ⟨w1.heap.size, 0 + j, none⟩) (by simp)).trans h9
      clear g3 ho GA
      go_wp2_with fail
      refine ⟨CellsAre.keep HS1.out G3.out, ?_⟩
      refine wpAnyM_one (i := 8) rfl (by kernel_rfl) rfl ?_
      refine appLs rfl (.tmp 22) (.tmp 25) rfl w1.heap.size v (ls.take k) (by simp [Act.eval]) HO3.out ⟨w1.heap.size, 0, none⟩ 1 1 [noteL note] (by simp [Act.eval]) rfl (by omega) HNW.out (by rw [HTK.out]; omega) (by omega) G3.out.size ?_
      intro v5 w5 HO5 HGB HNE
      have G5 : Hid (Grows w1 w5) := G3.out.mark HGB.out (fun k hk => (HO3.out.lt k hk).1)
      clear HGB HNE
      go_wp2_with fail
      refine ⟨CellsAre.keep HS1.out G5.out, ?_⟩
      refine wpAnyM_one (i := 13) rfl (by kernel_rfl) rfl ?_
      obtain ⟨bd, od, hde, hbd, hcd⟩ := HDR.out w5 (HG1.out.trans G5.out) (by rw [HDK.out]; omega)
      injection hde with hde
      injection hde with hde1 hde2
      subst hde1
      subst hde2
      have HNW2 := Lib.hid (LnsAt.cells hcd)
      clear hcd
      refine appLs rfl (.tmp 26) (.tmp 30) rfl w1.heap.size v5 (ls.take k ++ [noteL note]) (by simp [Act.eval]) HO5.out ⟨b, o + k * 6, none⟩ (n - k) (c - k) (ls.drop k) (by simp [Act.eval]) HDK.out (by omega) HNW2.out (by rw [List.length_append, HTK.out]; simp; omega) (by omega) G5.out.size ?_
      intro v6 w6 HO6 HGB HNE
      have G6 : Hid (Grows w1 w6) := G5.out.mark HGB.out (fun k hk => (HO5.out.lt k hk).1)
      rw [HPE.out] at HO6
      clear HGB HNE
      go_wp2_with fail
      refine ⟨CellsAre.keep HS1.out G6.out, ?_⟩
      refine wpAnyM_one (i := 14) rfl (by kernel_rfl) rfl ?_
      go_wp2_with fail
      refine (HCK.out _ _ _ HO6.out).mono ?_
      rintro e w7 ⟨u, rfl, ho, g7⟩
      have G7 : Hid (Grows w1 w7) := G6.out.trans g7
      have HO7 := Lib.hid ho
      obtain ⟨A5, n5, c5, hv5⟩ := ho.form3
      subst hv5
      clear g7 ho
      go_wp2_with fail
      refine ⟨CellsAre.keep HS1.out G7.out, ?_⟩
      have hS := CellsAre.keep HS1.out G7.out
      refine wpAnyM_take (i := 15) (v := ?vd15) hB rfl (by kernel_rfl) (fun _ _ _ h => h) (by rfl) ?yd15 hS ?nd15
      case yd15 => (intro w9 hSw; obtain ⟨s1, _⟩ := hSw; go_simp; try with_reducible rfl)
      refine wpAnyM_take (i := 16) (v := ?vd16) hB rfl (by kernel_rfl) (fun _ _ _ h => h) (by rfl) ?yd16 hS ?nd16
      case yd16 => (intro w9 hSw; obtain ⟨s1, _⟩ := hSw; go_simp; try with_reducible rfl)
      refine wpAnyM_tail (by kernel_rfl) ?_
      clear hS hB
      have HG07 : Hid (Grows ((w.alloc (fbox (some ⟨b, o, none⟩) n c)).alloc (fbox none 0 0)) w7) := HG01.out.trans G7.out
      have h1 : w7.cell? ⟨w.heap.size + 1, 0, none⟩ = some (.slice none 0 0) := (HG07.out.cell (p := ⟨w.heap.size + 1, 0, none⟩) (by simp)).trans (by simp [fbox])
      have h2 : w7.frozen? ⟨w.heap.size + 1, 0, none⟩ = false := (HG07.out.frozen (p := ⟨w.heap.size + 1, 0, none⟩) (by simp)).trans (by simp [fbox])
      have hs1 : w.heap.size + 1 < w1.heap.size := Nat.lt_of_lt_of_le (by simp) HG01.out.size
      go_wp2
      refine bodyPost_ret (v := .tuple #[.agg #[.slice A5 n5 c5], .bool β]) (by simp [results, Try.results18, go_sem, h1]) rfl ?_
      rw [HV.out, HB.out]
      exact ⟨_, rfl, (HO7.out.setOther hs1 _).less HG1.out.size, (HG1.out.trans G7.out).setCell (by simp) _⟩

theorem specAddNote_any (A : Addr) (ls : List Ln) (s key note : ByteArray) (w : World) (hf : AllFit ls) (hno : note.size ≤ 1048576) (hA : LnsAt w (some A) ls) :
    Calls Try.prog 18 #[.agg #[.slice (some A) ls.length ls.length], .string s, .string key, .string note] w (ResLB (addNL ls s key note) (addNB ls s key note) w) :=
  specAddNoteC_any (some A) ls.length ls s key note w hf hno (Nat.le_refl _) hA
end Go.Proofs.Ytclopcbpelhiaaa
