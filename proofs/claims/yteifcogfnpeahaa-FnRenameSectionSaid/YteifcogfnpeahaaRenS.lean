/-
  Files whose sections have other names: RenameSection of the program and of the specification. Conditions: at most 1048576 bytes in all.
-/
import Derived.Test.YteifcogfnpeahaaRenK
namespace Go.Proofs.Yteifcogfnpeahaa
open Go.RowKit

def renSL (ls : List Ln) (s to : ByteArray) : List Ln := renR ls (headsOf' ls s) (headsOf' ls to) (headP ls s) to
def renSB (ls : List Ln) (s to : ByteArray) : Bool := renRB ls (headsOf' ls s) (headsOf' ls to) (headP ls s) to

set_option maxRecDepth 100000 in
set_option maxHeartbeats 4000000 in
theorem implRenameSection_any (A : Option Addr) (c : Nat) (ls : List Ln) (s to : ByteArray) (w : World) (hf : AllFit ls) (hto : to.size ≤ 1048576) (hA : LnsAt w A ls) :
    Calls Try.prog 35 #[.agg #[.slice A ls.length c], .string s, .string to] w (ResLB (renSL ls s to) (renSB ls s to) w) := by
  have HP := Lib.hid (fun w1 (g : Grows w w1) => headsOf_any A c ls s w1 hf (hA.keep g))
  have HT := Lib.hid (fun w1 (g : Grows w w1) => headsOf_any A c ls to w1 hf (hA.keep g))
  have HA := Lib.hid hA
  have hn : ls.length ≤ 1048576 := hf.1
  unfold ValsRet at HP HT
  rw [ints_length] at HP HT
  by_cases h0 : headsOf' ls s = []
  · have HV : Hid (renSL ls s to = []) := renR_1 h0
    have HB : Hid (renSB ls s to = false) := renRB_1 h0
    rw [h0] at HP
    clear h0 hA hf HT
    obtain ⟨n, hnn⟩ : ∃ n, ls.length = n := ⟨_, rfl⟩
    rw [hnn] at HP ⊢
    clear hnn hn
    go_enter Try.func35, Try.ntmps35
    go_wp2_with fail
    refine (HP.out _ (((Grows.refl _).alloc _).alloc _)).mono ?_
    rintro e w1 ⟨A1, c1, rfl, _, g1, _⟩
    have HG01 : Hid (Grows ((w.alloc (fbox A n c)).alloc (fbox none 0 0)) w1) := g1
    have HG1 : Hid (Grows w w1) := (((Grows.refl _).alloc _).alloc _).trans g1
    clear g1
    have hz : ([] : List Nat).length = 0 := rfl
    rw [hz]
    have h1 : w1.cell? ⟨w.heap.size + 1, 0, none⟩ = some (.slice none 0 0) := (HG01.out.cell (p := ⟨w.heap.size + 1, 0, none⟩) (by simp)).trans (by simp [fbox])
    have h2 : w1.frozen? ⟨w.heap.size + 1, 0, none⟩ = false := (HG01.out.frozen (p := ⟨w.heap.size + 1, 0, none⟩) (by simp)).trans (by simp [fbox])
    go_wp2
    refine bodyPost_ret (v := .tuple #[.agg #[.slice none 0 0], .bool false]) (by simp [results, Try.results35, go_sem, h1]) rfl ?_
    rw [HV.out, HB.out]
    exact ⟨_, rfl, OwnL.nil _ _, HG1.out.setCell (by simp) _⟩
  · have hv : vfile ls = true := heads_valid h0
    have hL : headsOf' ls s = (List.range ls.length).filter (headP ls s) := headsOf_eq s hv
    have HE : Hid (∀ i, i < ls.length → (headsOf' ls s).contains i = headP ls s i) := fun i hi => by rw [hL, filter_contains _ hi]
    have HLT : Hid (∀ i (h : i < (headsOf' ls s).length), (headsOf' ls s)[i] < ls.length) := fun i h => by
      have h9 : (headsOf' ls s)[i] ∈ (List.range ls.length).filter (headP ls s) := by rw [← hL]; exact List.getElem_mem h
      exact List.mem_range.1 (List.mem_filter.1 h9).1
    have hlen : (headsOf' ls s).length ≤ 1048576 := by rw [hL]; exact Nat.le_trans (List.length_filter_le _ _) (by simpa using hn)
    have hpos : 0 < (headsOf' ls s).length := List.length_pos_iff.2 h0
    by_cases h1 : headsOf' ls to = []
    · have HV : Hid (renSL ls s to = chkL (renS ls (headP ls s) to)) := renR_3 h0 h1
      have HB : Hid (renSB ls s to = vfile (renS ls (headP ls s) to)) := renRB_3 h0 h1
      rw [h1] at HT
      have HFR := Lib.hid (renS_fits (S := headP ls s) hf hto)
      obtain ⟨L, hLL⟩ : ∃ L, headsOf' ls s = L := ⟨_, rfl⟩
      rw [hLL] at HP HE HLT hlen hpos
      have HNL := Lib.hid (fun (I : Option Addr) (ci : Nat) w1 (g : Grows w w1) (h : ValsAt w1 I (ints L)) => nameLines_any A I c ci ls L to w1 hn (HA.out.keep g) h HLT.out hlen)
      have HEQ : Hid (renS ls L.contains to = renS ls (headP ls s) to) := renS_congr to HE.out
      rw [HEQ.out] at HNL
      clear h0 h1 hv hL HA hA hf hLL HE HLT HEQ
      obtain ⟨R, hR⟩ : ∃ R, renS ls (headP ls s) to = R := ⟨_, rfl⟩
      rw [hR] at HNL HFR HV HB
      clear hR
      have HCK := Lib.hid (fun (v : Value) (b : Nat) w1 (h : OwnL w1 b v R) => validLines_any v b R w1 HFR.out h)
      unfold RetL at HNL
      unfold ChkRet at HCK
      obtain ⟨n, hnn⟩ : ∃ n, ls.length = n := ⟨_, rfl⟩
      rw [hnn] at HP HT HNL hn ⊢
      obtain ⟨m, hm⟩ : ∃ m, L.length = m := ⟨_, rfl⟩
      rw [hm] at HP HNL hpos
      obtain ⟨β, hβ⟩ : ∃ β, vfile R = β := ⟨_, rfl⟩
      rw [hβ] at HCK HB
      clear hnn hm hlen hβ
      go_enter Try.func35, Try.ntmps35
      go_wp2_with fail
      refine (HP.out _ (((Grows.refl _).alloc _).alloc _)).mono ?_
      rintro e w1 ⟨A1, c1, rfl, hv1, g1, _⟩
      have HG01 : Hid (Grows ((w.alloc (fbox A n c)).alloc (fbox none 0 0)) w1) := g1
      have HG1 : Hid (Grows w w1) := (((Grows.refl _).alloc _).alloc _).trans g1
      have HV1 := Lib.hid hv1
      clear g1 hv1
      have hb1 : w1.cell? ⟨w.heap.size, 0, none⟩ = some (.slice A n c) := (HG01.out.cell (p := ⟨w.heap.size, 0, none⟩) (by simp; omega)).trans (by simp [fbox])
      go_wp2_with fail
      refine (HT.out _ HG1.out).mono ?_
      rintro e w2 ⟨A2, c2, rfl, _, g2, _⟩
      have HG02 : Hid (Grows ((w.alloc (fbox A n c)).alloc (fbox none 0 0)) w2) := HG01.out.trans g2
      have HG2 : Hid (Grows w w2) := HG1.out.trans g2
      have HV2 := Lib.hid (HV1.out.keep g2)
      clear g2 hb1
      have hz : ([] : List Nat).length = 0 := rfl
      rw [hz]
      have hb2 : w2.cell? ⟨w.heap.size, 0, none⟩ = some (.slice A n c) := (HG02.out.cell (p := ⟨w.heap.size, 0, none⟩) (by simp; omega)).trans (by simp [fbox])
      go_wp2_with fail
      refine (HNL.out _ _ _ HG2.out HV2.out).mono ?_
      rintro e w3 ⟨v, rfl, ho, g3⟩
      have HO3 := Lib.hid ho
      have HG03 : Hid (Grows ((w.alloc (fbox A n c)).alloc (fbox none 0 0)) w3) := HG02.out.trans g3
      have HG3 : Hid (Grows w w3) := HG2.out.trans g3
      have hs2 : w.heap.size + 1 < w2.heap.size := Nat.lt_of_lt_of_le (by simp) HG02.out.size
      clear g3 ho hb2
      go_wp2_with fail
      refine (HCK.out _ _ _ HO3.out).mono ?_
      rintro e w4 ⟨u, rfl, ho, g4⟩
      have HG04 : Hid (Grows ((w.alloc (fbox A n c)).alloc (fbox none 0 0)) w4) := HG03.out.trans g4
      have HG4 : Hid (Grows w w4) := HG3.out.trans g4
      have HO4 := Lib.hid ho
      obtain ⟨A5, n5, c5, hv5⟩ := ho.form3
      subst hv5
      clear g4 ho
      have h1 : w4.cell? ⟨w.heap.size + 1, 0, none⟩ = some (.slice none 0 0) := (HG04.out.cell (p := ⟨w.heap.size + 1, 0, none⟩) (by simp)).trans (by simp [fbox])
      have h2 : w4.frozen? ⟨w.heap.size + 1, 0, none⟩ = false := (HG04.out.frozen (p := ⟨w.heap.size + 1, 0, none⟩) (by simp)).trans (by simp [fbox])
      go_wp2
      refine bodyPost_ret (v := .tuple #[.agg #[.slice A5 n5 c5], .bool β]) (by simp [results, Try.results35, go_sem, h1]) rfl ?_
      rw [HV.out, HB.out]
      exact ⟨_, rfl, (HO4.out.setOther hs2 _).less HG2.out.size, HG4.out.setCell (by simp) _⟩
    · have HV : Hid (renSL ls s to = []) := renR_2 h0 h1
      have HB : Hid (renSB ls s to = false) := renRB_2 h0 h1
      have hpt : 0 < (headsOf' ls to).length := List.length_pos_iff.2 h1
      obtain ⟨m, hm⟩ : ∃ m, (headsOf' ls s).length = m := ⟨_, rfl⟩
      obtain ⟨q, hq⟩ : ∃ q, (headsOf' ls to).length = q := ⟨_, rfl⟩
      rw [hm] at HP hpos
      rw [hq] at HT hpt
      clear h0 h1 hv hL HE HLT hA hf hm hq hlen
      obtain ⟨n, hnn⟩ : ∃ n, ls.length = n := ⟨_, rfl⟩
      rw [hnn] at HP HT hn ⊢
      clear hnn
      go_enter Try.func35, Try.ntmps35
      go_wp2_with fail
      refine (HP.out _ (((Grows.refl _).alloc _).alloc _)).mono ?_
      rintro e w1 ⟨A1, c1, rfl, _, g1, _⟩
      have HG01 : Hid (Grows ((w.alloc (fbox A n c)).alloc (fbox none 0 0)) w1) := g1
      have HG1 : Hid (Grows w w1) := (((Grows.refl _).alloc _).alloc _).trans g1
      clear g1
      have hb1 : w1.cell? ⟨w.heap.size, 0, none⟩ = some (.slice A n c) := (HG01.out.cell (p := ⟨w.heap.size, 0, none⟩) (by simp; omega)).trans (by simp [fbox])
      go_wp2_with fail
      refine (HT.out _ HG1.out).mono ?_
      rintro e w2 ⟨A2, c2, rfl, _, g2, _⟩
      have HG02 : Hid (Grows ((w.alloc (fbox A n c)).alloc (fbox none 0 0)) w2) := HG01.out.trans g2
      have HG2 : Hid (Grows w w2) := HG1.out.trans g2
      clear g2 hb1
      have h1 : w2.cell? ⟨w.heap.size + 1, 0, none⟩ = some (.slice none 0 0) := (HG02.out.cell (p := ⟨w.heap.size + 1, 0, none⟩) (by simp)).trans (by simp [fbox])
      have h2 : w2.frozen? ⟨w.heap.size + 1, 0, none⟩ = false := (HG02.out.frozen (p := ⟨w.heap.size + 1, 0, none⟩) (by simp)).trans (by simp [fbox])
      go_wp2
      refine bodyPost_ret (v := .tuple #[.agg #[.slice none 0 0], .bool false]) (by simp [results, Try.results35, go_sem, h1]) rfl ?_
      rw [HV.out, HB.out]
      exact ⟨_, rfl, OwnL.nil _ _, HG2.out.setCell (by simp) _⟩

set_option maxRecDepth 100000 in
set_option maxHeartbeats 4000000 in
theorem specRenameSection_any (A : Addr) (c : Nat) (ls : List Ln) (s to : ByteArray) (w : World) (hf : AllFit ls) (hto : to.size ≤ 1048576) (hA : LnsAt w (some A) ls) :
    Calls Try.prog 36 #[.agg #[.slice (some A) ls.length c], .string s, .string to] w (ResLB (renSL ls s to) (renSB ls s to) w) := by
  have HCP := Lib.hid (fun w1 (g : Grows w w1) => specCopy_any A c ls w1 hf.1 (hA.keep g))
  obtain ⟨ad, hAe⟩ : ∃ ad, some A = ad := ⟨_, rfl⟩
  rw [hAe] at HCP hA ⊢
  clear hAe
  obtain ⟨A, rfl⟩ : ∃ A, A = ad := ⟨_, rfl⟩
  have HF := Lib.hid (fun w1 (g : Grows w w1) => specFile_any A c ls w1 hf (hA.keep g))
  have H1 := Lib.hid (fun w1 (g : Grows w w1) => headAt_any A c ls s w1 hf.1 (hA.keep g))
  have H2 := Lib.hid (fun w1 (g : Grows w w1) => headAt_any A c ls to w1 hf.1 (hA.keep g))
  have HSA := Lib.hid (fun (i : Nat) (h : i < ls.length) w1 (g : Grows w w1) => sectionAt_any A c ls i w1 hf.1 h (hA.keep g))
  have HFR := Lib.hid (renS_fits (S := headP ls s) hf hto)
  have HCK := Lib.hid (fun (v : Value) (b : Nat) w1 (h : OwnL w1 b v (renS ls (headP ls s) to)) => checkedFile_any v b (renS ls (headP ls s) to) w1 HFR.out h)
  unfold RetL at HCP
  unfold ChkRet at HCK
  have hn : ls.length ≤ 1048576 := hf.1
  by_cases hv : vfile ls = true
  · rw [hv] at HF
    have N1 : Hid (headIx ls s < 0 ↔ headsOf' ls s = []) := (headIx_heads hv)
    have N2 : Hid (headIx ls to < 0 ↔ headsOf' ls to = []) := (headIx_heads hv)
    clear hv hA hf
    by_cases h1 : headIx ls s < 0
    · have HV : Hid (renSL ls s to = []) := renR_1 (N1.out.1 h1)
      have HB : Hid (renSB ls s to = false) := renRB_1 (N1.out.1 h1)
      obtain ⟨q1, hq1⟩ : ∃ q, headIx ls s = q := ⟨_, rfl⟩
      rw [hq1] at H1 h1
      clear hq1 N1 N2
      obtain ⟨n, hnn⟩ : ∃ n, ls.length = n := ⟨_, rfl⟩
      rw [hnn] at HF H1 hn ⊢
      clear hnn
      go_enter Try.func36, Try.ntmps36
      go_wp2_with fail
      refine (HF.out _ (((Grows.refl _).alloc _).alloc _)).mono ?_
      rintro e w1 ⟨rfl, g1⟩
      have HG01 : Hid (Grows ((w.alloc (fbox A n c)).alloc (fbox none 0 0)) w1) := g1
      have HG1 : Hid (Grows w w1) := (((Grows.refl _).alloc _).alloc _).trans g1
      clear g1
      have hb1 : w1.cell? ⟨w.heap.size, 0, none⟩ = some (.slice A n c) := (HG01.out.cell (p := ⟨w.heap.size, 0, none⟩) (by simp; omega)).trans (by simp [fbox])
      go_wp2_with fail
      refine (H1.out _ HG1.out).mono ?_
      rintro e w2 ⟨rfl, g2⟩
      have HG02 : Hid (Grows ((w.alloc (fbox A n c)).alloc (fbox none 0 0)) w2) := HG01.out.trans g2
      have HG2 : Hid (Grows w w2) := HG1.out.trans g2
      clear g2 hb1
      have h1 : w2.cell? ⟨w.heap.size + 1, 0, none⟩ = some (.slice none 0 0) := (HG02.out.cell (p := ⟨w.heap.size + 1, 0, none⟩) (by simp)).trans (by simp [fbox])
      have h2 : w2.frozen? ⟨w.heap.size + 1, 0, none⟩ = false := (HG02.out.frozen (p := ⟨w.heap.size + 1, 0, none⟩) (by simp)).trans (by simp [fbox])
      go_wp2
      refine bodyPost_ret (v := .tuple #[.agg #[.slice none 0 0], .bool false]) (by simp [results, Try.results36, go_sem, h1]) rfl ?_
      rw [HV.out, HB.out]
      exact ⟨_, rfl, OwnL.nil _ _, HG2.out.setCell (by simp) _⟩
    · by_cases h2 : headIx ls to < 0
      · have HV : Hid (renSL ls s to = chkL (renS ls (headP ls s) to)) := renR_3 (fun h => h1 (N1.out.2 h)) (N2.out.1 h2)
        have HB : Hid (renSB ls s to = vfile (renS ls (headP ls s) to)) := renRB_3 (fun h => h1 (N1.out.2 h)) (N2.out.1 h2)
        have hn0 : 0 < ls.length := by
          rcases Nat.eq_zero_or_pos ls.length with h9 | h9
          · exfalso
            have h8 : ls = [] := List.eq_nil_of_length_eq_zero h9
            subst h8
            exact h1 (by first | exact (by decide : (-1 : Int) < 0) | (simp [lastP]) | (simp [headIx, headFrom]))
          · exact h9
        obtain ⟨q1, hq1⟩ : ∃ q, headIx ls s = q := ⟨_, rfl⟩
        obtain ⟨q2, hq2⟩ : ∃ q, headIx ls to = q := ⟨_, rfl⟩
        rw [hq1] at H1 h1
        rw [hq2] at H2 h2
        clear hq1 hq2 N1 N2
        obtain ⟨n, hnn⟩ : ∃ n, ls.length = n := ⟨_, rfl⟩
        rw [hnn] at HF H1 H2 HCP HSA hn hn0 ⊢
        have HN := Lib.hid hnn
        clear hnn
        go_enter Try.func36, Try.ntmps36
        go_wp2_with fail
        refine (HF.out _ (((Grows.refl _).alloc _).alloc _)).mono ?_
        rintro e w1 ⟨rfl, g1⟩
        have HG01 : Hid (Grows ((w.alloc (fbox A n c)).alloc (fbox none 0 0)) w1) := g1
        have HG1 : Hid (Grows w w1) := (((Grows.refl _).alloc _).alloc _).trans g1
        clear g1
        have hb1 : w1.cell? ⟨w.heap.size, 0, none⟩ = some (.slice A n c) := (HG01.out.cell (p := ⟨w.heap.size, 0, none⟩) (by simp; omega)).trans (by simp [fbox])
        go_wp2_with fail
        refine (H1.out _ HG1.out).mono ?_
        rintro e w2 ⟨rfl, g2⟩
        have HG02 : Hid (Grows ((w.alloc (fbox A n c)).alloc (fbox none 0 0)) w2) := HG01.out.trans g2
        have HG2 : Hid (Grows w w2) := HG1.out.trans g2
        clear g2 hb1
        have hb2 : w2.cell? ⟨w.heap.size, 0, none⟩ = some (.slice A n c) := (HG02.out.cell (p := ⟨w.heap.size, 0, none⟩) (by simp; omega)).trans (by simp [fbox])
        go_wp2_with fail
        refine (H2.out _ HG2.out).mono ?_
        rintro e w3 ⟨rfl, g3⟩
        have HG03 : Hid (Grows ((w.alloc (fbox A n c)).alloc (fbox none 0 0)) w3) := HG02.out.trans g3
        have HG3 : Hid (Grows w w3) := HG2.out.trans g3
        clear g3 hb2
        have hs3 : w.heap.size + 1 < w3.heap.size := Nat.lt_of_lt_of_le (by simp) HG03.out.size
        have hb3 : w3.cell? ⟨w.heap.size, 0, none⟩ = some (.slice A n c) := (HG03.out.cell (p := ⟨w.heap.size, 0, none⟩) (by simp; omega)).trans (by simp [fbox])
        go_wp2_with fail
        refine (HCP.out _ HG3.out).mono ?_
        rintro e w4 ⟨v, rfl, ho, g4⟩
        have HO4 := Lib.hid ho
        have HG34 := Lib.hid g4
        obtain ⟨Av, cv, hvv, hAv⟩ := OwnR.form ho
        subst hvv
        obtain ⟨g, hge, hgb, _, _, _⟩ := hAv (by rw [HN.out]; omega)
        subst hge
        have HGB := Lib.hid hgb
        clear g4 ho hAv hgb hb3
        rw [HN.out] at HO4 ⊢
        go_wp2_with fail
        go_loopw [9] (fun i wr => ∃ (j : Nat), j ≤ n ∧ i = .int .i64 j ∧ Hid (OwnL wr w3.heap.size (.slice (some ⟨g, 0, none⟩) n cv) (renS ls (fun i => decide (i < j) && headP ls s i) to)) ∧ Hid (Grows w3 wr)) (fun i _ => n - (intOf i).toNat)
        case atStart => exact ⟨0, Nat.zero_le _, rfl, by unfold Hid; rw [renS_none to (fun _ _ => by simp)]; exact HO4.out, HG34.out⟩
        case round =>
          obtain ⟨j, hj, rfl, HO, HG⟩ := hrel
          have hb5 : wr.cell? ⟨w.heap.size, 0, none⟩ = some (.slice A n c) := ((HG03.out.trans HG.out).cell (p := ⟨w.heap.size, 0, none⟩) (by simp; omega)).trans (by simp [fbox])
          by_cases hlt : j < n
          · have hk2 : j < ls.length := by rw [HN.out]; exact hlt
            have hsu := get_bang hk2
            obtain ⟨l, hl⟩ : ∃ l, ls[j] = l := ⟨_, rfl⟩
            have HRL : Hid ((renS ls (fun i => decide (i < j) && headP ls s i) to).length = n) := by unfold Hid; rw [renS_length, HN.out]
            have HJ : Hid (j < (renS ls (fun i => decide (i < j) && headP ls s i) to).length) := by unfold Hid; rw [HRL.out]; exact hlt
            have hgj : (renS ls (fun i => decide (i < j) && headP ls s i) to)[j]'HJ.out = l := by rw [renS_get ls _ to j hk2]; simp [hl]
            have HNA : Hid (((renS ls (fun i => decide (i < j) && headP ls s i) to)[j]'HJ.out).named to = ls[j].named to) := by unfold Hid; rw [hgj, hl]
            have hat := (OwnL.atg HO.out HRL.out) j HJ.out
            rw [hgj] at hat
            obtain ⟨c0, c1, c2, c3, c4, c5⟩ := hat
            have hgr := (OwnL.lt HO.out g rfl).2
            rw [hl] at hsu
            have HYES : Hid (headP ls s j = true → renS ls (fun i => decide (i < j + 1) && headP ls s i) to = (renS ls (fun i => decide (i < j) && headP ls s i) to).set j (ls[j].named to)) := fun h => renS_set hk2 (fun i => by
              by_cases e : i = j
              · subst e; simp [h]
              · have e2 : decide (i < j + 1) = decide (i < j) := by rw [Bool.eq_iff_iff]; simp; omega
                simp [e, e2])
            have HNO : Hid (headP ls s j = false → renS ls (fun i => decide (i < j + 1) && headP ls s i) to = renS ls (fun i => decide (i < j) && headP ls s i) to) := fun h => renS_congr to (fun i _ => by
              by_cases e : i = j
              · subst e; simp [h]
              · have e2 : decide (i < j + 1) = decide (i < j) := by rw [Bool.eq_iff_iff]; simp; omega
                simp [e2])
            have HIP : Hid (headP ls s j = ((l.k == 2) && (l.na.toList == s.toList))) := by unfold Hid headP isHd; rw [hsu]
            clear hl hsu hgj
            by_cases h3 : (l.k == 2) = true
            · by_cases hk : (l.na.toList == s.toList) = true
              · have HS := Lib.hid (HYES.out (by rw [HIP.out, h3, hk]; rfl))
                have HO5 := Lib.hid HO.out
                have hf2 := (HO5.out.free (j * 6 + 2))
                go_wp2_with fail
                go_roundw
                case rel => exact ⟨j + 1, by omega, by go_num, by have h9 := HO5.out.name HRL.out (k := j) HJ.out to; rw [HNA.out, ← HS.out] at h9; exact h9, HG.out.setCell HGB.out _⟩
                case measure => simp [intOf]; omega
              · have hk' : (l.na.toList == s.toList) = false := by simpa using hk
                have HS := Lib.hid (HNO.out (by rw [HIP.out, hk', Bool.and_false]))
                clear hk
                go_wp2
                go_roundw
                case rel => exact ⟨j + 1, by omega, by go_num, by have h9 := HO.out; rw [← HS.out] at h9; exact h9, HG.out⟩
                case measure => simp [intOf]; omega
            · have h3' : (l.k == 2) = false := by simpa using h3
              have HS := Lib.hid (HNO.out (by rw [HIP.out, h3']; rfl))
              clear h3
              go_wp2
              go_roundw
              case rel => exact ⟨j + 1, by omega, by go_num, by have h9 := HO.out; rw [← HS.out] at h9; exact h9, HG.out⟩
              case measure => simp [intOf]; omega
          · obtain rfl : j = n := by omega
            have HE : Hid (renS ls (fun i => decide (i < j) && headP ls s i) to = renS ls (headP ls s) to) := renS_congr to (fun i hi => by rw [HN.out] at hi; simp [hi])
            have HO9 := HO.out
            rw [HE.out] at HO9
            have HO8 := Lib.hid HO9
            clear HO9 hb5
            go_wp2_with fail
            refine (HCK.out _ _ _ HO8.out).mono ?_
            rintro e w6 ⟨u, rfl, ho, g6⟩
            have HG06 : Hid (Grows ((w.alloc (fbox A j c)).alloc (fbox none 0 0)) w6) := (HG03.out.trans HG.out).trans g6
            have HG6 : Hid (Grows w w6) := (HG3.out.trans HG.out).trans g6
            have HO6 := Lib.hid ho
            obtain ⟨A5, n5, c5, hv5⟩ := ho.form3
            subst hv5
            clear g6 ho
            have h1 : w6.cell? ⟨w.heap.size + 1, 0, none⟩ = some (.slice none 0 0) := (HG06.out.cell (p := ⟨w.heap.size + 1, 0, none⟩) (by simp)).trans (by simp [fbox])
            have h2 : w6.frozen? ⟨w.heap.size + 1, 0, none⟩ = false := (HG06.out.frozen (p := ⟨w.heap.size + 1, 0, none⟩) (by simp)).trans (by simp [fbox])
            go_wp2
            refine bodyPost_ret (v := .tuple #[.agg #[.slice A5 n5 c5], .bool (vfile (renS ls (headP ls s) to))]) (by simp [results, Try.results36, go_sem, h1]) rfl ?_
            rw [HV.out, HB.out]
            exact ⟨_, rfl, (HO6.out.setOther hs3 _).less HG3.out.size, HG6.out.setCell (by simp) _⟩
      · have HV : Hid (renSL ls s to = []) := renR_2 (fun h => h1 (N1.out.2 h)) (fun h => h2 (N2.out.2 h))
        have HB : Hid (renSB ls s to = false) := renRB_2 (fun h => h1 (N1.out.2 h)) (fun h => h2 (N2.out.2 h))
        obtain ⟨q1, hq1⟩ : ∃ q, headIx ls s = q := ⟨_, rfl⟩
        obtain ⟨q2, hq2⟩ : ∃ q, headIx ls to = q := ⟨_, rfl⟩
        rw [hq1] at H1 h1
        rw [hq2] at H2 h2
        clear hq1 hq2 N1 N2
        obtain ⟨n, hnn⟩ : ∃ n, ls.length = n := ⟨_, rfl⟩
        rw [hnn] at HF H1 H2 hn ⊢
        clear hnn
        go_enter Try.func36, Try.ntmps36
        go_wp2_with fail
        refine (HF.out _ (((Grows.refl _).alloc _).alloc _)).mono ?_
        rintro e w1 ⟨rfl, g1⟩
        have HG01 : Hid (Grows ((w.alloc (fbox A n c)).alloc (fbox none 0 0)) w1) := g1
        have HG1 : Hid (Grows w w1) := (((Grows.refl _).alloc _).alloc _).trans g1
        clear g1
        have hb1 : w1.cell? ⟨w.heap.size, 0, none⟩ = some (.slice A n c) := (HG01.out.cell (p := ⟨w.heap.size, 0, none⟩) (by simp; omega)).trans (by simp [fbox])
        go_wp2_with fail
        refine (H1.out _ HG1.out).mono ?_
        rintro e w2 ⟨rfl, g2⟩
        have HG02 : Hid (Grows ((w.alloc (fbox A n c)).alloc (fbox none 0 0)) w2) := HG01.out.trans g2
        have HG2 : Hid (Grows w w2) := HG1.out.trans g2
        clear g2 hb1
        have hb2 : w2.cell? ⟨w.heap.size, 0, none⟩ = some (.slice A n c) := (HG02.out.cell (p := ⟨w.heap.size, 0, none⟩) (by simp; omega)).trans (by simp [fbox])
        go_wp2_with fail
        refine (H2.out _ HG2.out).mono ?_
        rintro e w3 ⟨rfl, g3⟩
        have HG03 : Hid (Grows ((w.alloc (fbox A n c)).alloc (fbox none 0 0)) w3) := HG02.out.trans g3
        have HG3 : Hid (Grows w w3) := HG2.out.trans g3
        clear g3 hb2
        have h1 : w3.cell? ⟨w.heap.size + 1, 0, none⟩ = some (.slice none 0 0) := (HG03.out.cell (p := ⟨w.heap.size + 1, 0, none⟩) (by simp)).trans (by simp [fbox])
        have h2 : w3.frozen? ⟨w.heap.size + 1, 0, none⟩ = false := (HG03.out.frozen (p := ⟨w.heap.size + 1, 0, none⟩) (by simp)).trans (by simp [fbox])
        go_wp2
        refine bodyPost_ret (v := .tuple #[.agg #[.slice none 0 0], .bool false]) (by simp [results, Try.results36, go_sem, h1]) rfl ?_
        rw [HV.out, HB.out]
        exact ⟨_, rfl, OwnL.nil _ _, HG3.out.setCell (by simp) _⟩
  · have hv' : vfile ls = false := by simpa using hv
    rw [hv'] at HF
    have HV : Hid (renSL ls s to = []) := renR_1 (headsOf_no s hv')
    have HB : Hid (renSB ls s to = false) := renRB_1 (headsOf_no s hv')
    clear hv hv' hA hf
    obtain ⟨n, hnn⟩ : ∃ n, ls.length = n := ⟨_, rfl⟩
    rw [hnn] at HF hn ⊢
    clear hnn
    go_enter Try.func36, Try.ntmps36
    go_wp2_with fail
    refine (HF.out _ (((Grows.refl _).alloc _).alloc _)).mono ?_
    rintro e w1 ⟨rfl, g1⟩
    have HG01 : Hid (Grows ((w.alloc (fbox A n c)).alloc (fbox none 0 0)) w1) := g1
    have HG1 : Hid (Grows w w1) := (((Grows.refl _).alloc _).alloc _).trans g1
    clear g1
    have h1 : w1.cell? ⟨w.heap.size + 1, 0, none⟩ = some (.slice none 0 0) := (HG01.out.cell (p := ⟨w.heap.size + 1, 0, none⟩) (by simp)).trans (by simp [fbox])
    have h2 : w1.frozen? ⟨w.heap.size + 1, 0, none⟩ = false := (HG01.out.frozen (p := ⟨w.heap.size + 1, 0, none⟩) (by simp)).trans (by simp [fbox])
    go_wp2
    refine bodyPost_ret (v := .tuple #[.agg #[.slice none 0 0], .bool false]) (by simp [results, Try.results36, go_sem, h1]) rfl ?_
    rw [HV.out, HB.out]
    exact ⟨_, rfl, OwnL.nil _ _, HG1.out.setCell (by simp) _⟩
end Go.Proofs.Yteifcogfnpeahaa
