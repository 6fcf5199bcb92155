/-
  A file with one more value: SetValue of the specification. Conditions: at most 1048576 bytes in all.
-/
import Derived.Test.YtclopcbpelhiaaaSetP
import Derived.Test.YtclopcbpelhiaaaSetA
import Derived.Test.YtclopcbpelhiaaaTidyS
import Derived.Test.YtclopcbpelhiaaaRenS
namespace Go.Proofs.Ytclopcbpelhiaaa
open Go.RowKit

theorem OwnL.valued {w : World} {base g n c : Nat} {K : List Ln} (h : OwnL w base (.slice (some ⟨g, 0, none⟩) n c) K) (hn : K.length = n) {k : Nat} (hk : k < K.length) (v : ByteArray) : OwnL (w.setCell ⟨g, k * 6 + 4, none⟩ (.string v)) base (.slice (some ⟨g, 0, none⟩) n c) (K.set k (K[k].valued v)) := by
  unfold OwnL
  rw [← lcells_setv K k hk v, List.length_set]
  subst hn
  exact OwnR.set_ h _ _
theorem OwnL.tailed {w : World} {base g n c : Nat} {K : List Ln} (h : OwnL w base (.slice (some ⟨g, 0, none⟩) n c) K) (hn : K.length = n) {k : Nat} (hk : k < K.length) (v : ByteArray) : OwnL (w.setCell ⟨g, k * 6 + 5, none⟩ (.string v)) base (.slice (some ⟨g, 0, none⟩) n c) (K.set k (K[k].tailed v)) := by
  unfold OwnL
  rw [← lcells_sett K k hk v, List.length_set]
  subst hn
  exact OwnR.set_ h _ _

set_option maxRecDepth 100000 in
set_option maxHeartbeats 4000000 in
theorem specSet_bad (A : Option Addr) (c : Nat) (ls : List Ln) (s key v : ByteArray) (w : World) (hf : AllFit ls) (hs : s.size ≤ 1048576) (hk : key.size ≤ 1048576) (hv : v.size ≤ 1048576) (hA : LnsAt w A ls) (h : setOk ls s key v = false) :
    Calls Try.prog 9 #[.agg #[.slice A ls.length c], .string s, .string key, .string v] w (ResLB (setL ls s key v) (setB ls s key v) w) := by
  have HV := Lib.hid (set_no h).1
  have HB := Lib.hid (set_no h).2
  have HCP := Lib.hid (fun w1 (g : Grows w w1) => specCopyO_any A c ls w1 hf.1 (hA.keep g))
  obtain ⟨ad, hAe⟩ : ∃ ad, A = ad := ⟨_, rfl⟩
  rw [hAe] at HCP hA ⊢
  clear hAe
  obtain ⟨A, rfl⟩ : ∃ A, A = ad := ⟨_, rfl⟩
  have HF := Lib.hid (fun w1 (g : Grows w w1) => specFile_any A c ls w1 hf (hA.keep g))
  have HN1 := Lib.hid (fun w1 => specName_any s w1 hs)
  have HN2 := Lib.hid (fun w1 => specName_any key w1 hk)
  have HN3 := Lib.hid (fun w1 => specValue_any v w1 (by unfold maxLen; omega))
  by_cases he0 : s.toList.isEmpty = true
  · have he : s.toList.isEmpty = true := he0
    clear he0
    obtain ⟨a1, e1⟩ : ∃ a, vfile ls = a := ⟨_, rfl⟩
    obtain ⟨a2, e2⟩ : ∃ a, vname s = a := ⟨_, rfl⟩
    obtain ⟨a3, e3⟩ : ∃ a, vname key = a := ⟨_, rfl⟩
    obtain ⟨a4, e4⟩ : ∃ a, vvalue v = a := ⟨_, rfl⟩
    rw [e1] at HF
    rw [e2] at HN1
    rw [e3] at HN2
    rw [e4] at HN3
    unfold setOk at h
    rw [e1, e2, e3, e4, he] at h
    clear e1 e2 e3 e4 HCP hA hf hs hk hv
    obtain ⟨n, hnn⟩ : ∃ n, ls.length = n := ⟨_, rfl⟩
    rw [hnn] at HF
    rw [hnn]
    clear hnn
    have he1 : s.toList = [] := by simpa using he
    go_enter Try.func9, Try.ntmps9
    go_wp2_with fail
    refine (HF.out _ (((Grows.refl _).alloc _).alloc _)).mono ?_
    rintro e w1 ⟨rfl, g1⟩
    have HG01 : Hid (Grows ((w.alloc (fbox A n c)).alloc (fbox none 0 0)) w1) := g1
    have HG1 : Hid (Grows w w1) := (((Grows.refl _).alloc _).alloc _).trans g1
    clear g1
    cases a1
    · clear h
      have h1 : w1.cell? ⟨w.heap.size + 1, 0, none⟩ = some (.slice none 0 0) := (HG01.out.cell (p := ⟨w.heap.size + 1, 0, none⟩) (by simp)).trans (by simp [fbox])
      have h2 : w1.frozen? ⟨w.heap.size + 1, 0, none⟩ = false := (HG01.out.frozen (p := ⟨w.heap.size + 1, 0, none⟩) (by simp)).trans (by simp [fbox])
      go_wp2
      refine bodyPost_ret (v := .tuple #[.agg #[.slice none 0 0], .bool false]) (by simp [results, Try.results9, go_sem, h1]) rfl ?_
      rw [HV.out, HB.out]
      exact ⟨_, rfl, OwnL.nil _ _, HG1.out.setCell (by simp) _⟩
    go_wp2_with fail
    refine (HN2.out _).mono ?_
    rintro e w2 ⟨rfl, rfl⟩
    cases a3
    · clear h
      have h1 : w1.cell? ⟨w.heap.size + 1, 0, none⟩ = some (.slice none 0 0) := (HG01.out.cell (p := ⟨w.heap.size + 1, 0, none⟩) (by simp)).trans (by simp [fbox])
      have h2 : w1.frozen? ⟨w.heap.size + 1, 0, none⟩ = false := (HG01.out.frozen (p := ⟨w.heap.size + 1, 0, none⟩) (by simp)).trans (by simp [fbox])
      go_wp2
      refine bodyPost_ret (v := .tuple #[.agg #[.slice none 0 0], .bool false]) (by simp [results, Try.results9, go_sem, h1]) rfl ?_
      rw [HV.out, HB.out]
      exact ⟨_, rfl, OwnL.nil _ _, HG1.out.setCell (by simp) _⟩
    go_wp2_with fail
    refine (HN3.out _).mono ?_
    rintro e w2 ⟨rfl, rfl⟩
    cases a4
    · clear h
      have h1 : w1.cell? ⟨w.heap.size + 1, 0, none⟩ = some (.slice none 0 0) := (HG01.out.cell (p := ⟨w.heap.size + 1, 0, none⟩) (by simp)).trans (by simp [fbox])
      have h2 : w1.frozen? ⟨w.heap.size + 1, 0, none⟩ = false := (HG01.out.frozen (p := ⟨w.heap.size + 1, 0, none⟩) (by simp)).trans (by simp [fbox])
      go_wp2
      refine bodyPost_ret (v := .tuple #[.agg #[.slice none 0 0], .bool false]) (by simp [results, Try.results9, go_sem, h1]) rfl ?_
      rw [HV.out, HB.out]
      exact ⟨_, rfl, OwnL.nil _ _, HG1.out.setCell (by simp) _⟩
    exact absurd h (by simp)
  · have he : s.toList.isEmpty = false := by simpa using he0
    clear he0
    obtain ⟨a1, e1⟩ : ∃ a, vfile ls = a := ⟨_, rfl⟩
    obtain ⟨a2, e2⟩ : ∃ a, vname s = a := ⟨_, rfl⟩
    obtain ⟨a3, e3⟩ : ∃ a, vname key = a := ⟨_, rfl⟩
    obtain ⟨a4, e4⟩ : ∃ a, vvalue v = a := ⟨_, rfl⟩
    rw [e1] at HF
    rw [e2] at HN1
    rw [e3] at HN2
    rw [e4] at HN3
    unfold setOk at h
    rw [e1, e2, e3, e4, he] at h
    clear e1 e2 e3 e4 HCP hA hf hs hk hv
    obtain ⟨n, hnn⟩ : ∃ n, ls.length = n := ⟨_, rfl⟩
    rw [hnn] at HF
    rw [hnn]
    clear hnn
    have he1 : ¬ s.toList = [] := by intro h; rw [h] at he; simp at he
    go_enter Try.func9, Try.ntmps9
    go_wp2_with fail
    refine (HF.out _ (((Grows.refl _).alloc _).alloc _)).mono ?_
    rintro e w1 ⟨rfl, g1⟩
    have HG01 : Hid (Grows ((w.alloc (fbox A n c)).alloc (fbox none 0 0)) w1) := g1
    have HG1 : Hid (Grows w w1) := (((Grows.refl _).alloc _).alloc _).trans g1
    clear g1
    cases a1
    · clear h
      have h1 : w1.cell? ⟨w.heap.size + 1, 0, none⟩ = some (.slice none 0 0) := (HG01.out.cell (p := ⟨w.heap.size + 1, 0, none⟩) (by simp)).trans (by simp [fbox])
      have h2 : w1.frozen? ⟨w.heap.size + 1, 0, none⟩ = false := (HG01.out.frozen (p := ⟨w.heap.size + 1, 0, none⟩) (by simp)).trans (by simp [fbox])
      go_wp2
      refine bodyPost_ret (v := .tuple #[.agg #[.slice none 0 0], .bool false]) (by simp [results, Try.results9, go_sem, h1]) rfl ?_
      rw [HV.out, HB.out]
      exact ⟨_, rfl, OwnL.nil _ _, HG1.out.setCell (by simp) _⟩
    go_wp2_with fail
    refine (HN1.out _).mono ?_
    rintro e w2 ⟨rfl, rfl⟩
    cases a2
    · clear h
      have h1 : w1.cell? ⟨w.heap.size + 1, 0, none⟩ = some (.slice none 0 0) := (HG01.out.cell (p := ⟨w.heap.size + 1, 0, none⟩) (by simp)).trans (by simp [fbox])
      have h2 : w1.frozen? ⟨w.heap.size + 1, 0, none⟩ = false := (HG01.out.frozen (p := ⟨w.heap.size + 1, 0, none⟩) (by simp)).trans (by simp [fbox])
      go_wp2
      refine bodyPost_ret (v := .tuple #[.agg #[.slice none 0 0], .bool false]) (by simp [results, Try.results9, go_sem, h1]) rfl ?_
      rw [HV.out, HB.out]
      exact ⟨_, rfl, OwnL.nil _ _, HG1.out.setCell (by simp) _⟩
    go_wp2_with fail
    refine (HN2.out _).mono ?_
    rintro e w2 ⟨rfl, rfl⟩
    cases a3
    · clear h
      have h1 : w1.cell? ⟨w.heap.size + 1, 0, none⟩ = some (.slice none 0 0) := (HG01.out.cell (p := ⟨w.heap.size + 1, 0, none⟩) (by simp)).trans (by simp [fbox])
      have h2 : w1.frozen? ⟨w.heap.size + 1, 0, none⟩ = false := (HG01.out.frozen (p := ⟨w.heap.size + 1, 0, none⟩) (by simp)).trans (by simp [fbox])
      go_wp2
      refine bodyPost_ret (v := .tuple #[.agg #[.slice none 0 0], .bool false]) (by simp [results, Try.results9, go_sem, h1]) rfl ?_
      rw [HV.out, HB.out]
      exact ⟨_, rfl, OwnL.nil _ _, HG1.out.setCell (by simp) _⟩
    go_wp2_with fail
    refine (HN3.out _).mono ?_
    rintro e w2 ⟨rfl, rfl⟩
    cases a4
    · clear h
      have h1 : w1.cell? ⟨w.heap.size + 1, 0, none⟩ = some (.slice none 0 0) := (HG01.out.cell (p := ⟨w.heap.size + 1, 0, none⟩) (by simp)).trans (by simp [fbox])
      have h2 : w1.frozen? ⟨w.heap.size + 1, 0, none⟩ = false := (HG01.out.frozen (p := ⟨w.heap.size + 1, 0, none⟩) (by simp)).trans (by simp [fbox])
      go_wp2
      refine bodyPost_ret (v := .tuple #[.agg #[.slice none 0 0], .bool false]) (by simp [results, Try.results9, go_sem, h1]) rfl ?_
      rw [HV.out, HB.out]
      exact ⟨_, rfl, OwnL.nil _ _, HG1.out.setCell (by simp) _⟩
    exact absurd h (by simp)

set_option maxRecDepth 100000 in
set_option maxHeartbeats 4000000 in
theorem specSet_old (A : Option Addr) (c : Nat) (ls : List Ln) (s key v : ByteArray) (w : World) (hf : AllFit ls) (hs : s.size ≤ 1048576) (hk : key.size ≤ 1048576) (hv : v.size ≤ 1048576) (hA : LnsAt w A ls) (h : setOk ls s key v = true) (k : Nat) (hp : lastP ls s key ls.length = (k : Int)) :
    Calls Try.prog 9 #[.agg #[.slice A ls.length c], .string s, .string key, .string v] w (ResLB (setL ls s key v) (setB ls s key v) w) := by
  have hvf : vfile ls = true ∧ (s.toList.isEmpty = false → vname s = true) ∧ vname key = true ∧ vvalue v = true := by
    unfold setOk at h
    rw [Bool.and_eq_true, Bool.and_eq_true, Bool.and_eq_true, Bool.or_eq_true] at h
    exact ⟨h.1, fun e => by rcases h.2.1 with h1 | h1
                            · rw [h1] at e; cases e
                            · exact h1, h.2.2.1, h.2.2.2⟩
  clear h
  have e0 := set_old (v := v) hvf.1 hp
  have HV : Hid (setL ls s key v = chkL (valL ls k v)) := by unfold Hid setL; rw [e0]
  have HB : Hid (setB ls s key v = vfile (valL ls k v)) := by unfold Hid setB; rw [e0]
  have HFR := Lib.hid (valL_fits (k := k) hf hv)
  have hkl : k < ls.length := by have := (lastP_lt ls s key ls.length).1; omega
  have HLP := Lib.hid (fun w1 (g : Grows w w1) => lastPair_any A c ls s key w1 hf.1 (hA.keep g))
  rw [hp] at HLP
  have hn : ls.length ≤ 1048576 := hf.1
  have HCP := Lib.hid (fun w1 (g : Grows w w1) => specCopyO_any A c ls w1 hf.1 (hA.keep g))
  obtain ⟨ad, hAe⟩ : ∃ ad, A = ad := ⟨_, rfl⟩
  rw [hAe] at HCP HLP hA ⊢
  clear hAe
  obtain ⟨A, rfl⟩ : ∃ A, A = ad := ⟨_, rfl⟩
  have HF := Lib.hid (fun w1 (g : Grows w w1) => specFile_any A c ls w1 hf (hA.keep g))
  have HN1 := Lib.hid (fun w1 => specName_any s w1 hs)
  have HN2 := Lib.hid (fun w1 => specName_any key w1 hk)
  have HN3 := Lib.hid (fun w1 => specValue_any v w1 (by unfold maxLen; omega))
  have HRV : Hid ((if v.toList.isEmpty = true then (ls.set k ((ls[k]!).valued v)).set k (((ls[k]!).valued v).tailed ⟨#[]⟩) else ls.set k ((ls[k]!).valued v)) = valL ls k v) := rfl
  obtain ⟨R, hR⟩ : ∃ R, valL ls k v = R := ⟨_, rfl⟩
  rw [hR] at HFR HV HB HRV
  have HCK := Lib.hid (fun (v : Value) (b : Nat) w1 (h : OwnL w1 b v R) => checkedFile_any v b R w1 HFR.out h)
  rw [hvf.1] at HF
  rw [hvf.2.2.1] at HN2
  rw [hvf.2.2.2] at HN3
  unfold RetL at HCP
  unfold ChkRet at HCK
  obtain ⟨β, hβ⟩ : ∃ β, vfile R = β := ⟨_, rfl⟩
  rw [hβ] at HCK HB
  clear hR hβ e0 hp hA hf hs hk hv
  obtain ⟨n, hnn⟩ : ∃ n, ls.length = n := ⟨_, rfl⟩
  rw [hnn] at HF HCP HLP hn hkl
  rw [hnn]
  have HN := Lib.hid hnn
  clear hnn
  by_cases he0 : s.toList.isEmpty = true
  · have he1 : s.toList = [] := by simpa using he0
    clear hvf
    by_cases hve : v.toList.isEmpty = true
    · have hve1 : v.toList = [] := by simpa using hve
      go_enter Try.func9, Try.ntmps9
      go_wp2_with fail
      refine (HF.out _ (((Grows.refl _).alloc _).alloc _)).mono ?_
      rintro e w1 ⟨rfl, g1⟩
      have HG01 : Hid (Grows ((w.alloc (fbox A n c)).alloc (fbox none 0 0)) w1) := g1
      have HG1 : Hid (Grows w w1) := (((Grows.refl _).alloc _).alloc _).trans g1
      clear g1
      go_wp2_with fail
      refine (HN2.out _).mono ?_
      rintro e w2 ⟨rfl, rfl⟩
      go_wp2_with fail
      refine (HN3.out _).mono ?_
      rintro e w2 ⟨rfl, rfl⟩
      have hb1 : w1.cell? ⟨w.heap.size, 0, none⟩ = some (.slice A n c) := (HG01.out.cell (p := ⟨w.heap.size, 0, none⟩) (by simp; omega)).trans (by simp [fbox])
      go_wp2_with fail
      refine (HCP.out _ HG1.out).mono ?_
      rintro e w2 ⟨u, rfl, ho, g2⟩
      have HO2 := Lib.hid ho
      have HG2 : Hid (Grows w1 w2) := g2
      obtain ⟨Av, cv, hvv, hAv⟩ := OwnR.form ho
      subst hvv
      have HAV := Lib.hid hAv
      have hb2 : w2.cell? ⟨w.heap.size, 0, none⟩ = some (.slice A n c) := ((HG01.out.trans HG2.out).cell (p := ⟨w.heap.size, 0, none⟩) (by simp; omega)).trans (by simp [fbox])
      clear g2 ho hAv hb1
      rw [HN.out] at HO2 HAV ⊢
      go_wp2_with fail
      refine (HLP.out _ (HG1.out.trans HG2.out)).mono ?_
      rintro e w3 ⟨rfl, g3⟩
      have HO3 := Lib.hid (HO2.out.keep g3)
      have HG3 : Hid (Grows w1 w3) := HG2.out.trans g3
      clear g3 hb2
      obtain ⟨g, hge, hgb, hgl, _, _⟩ := HAV.out (by omega)
      subst hge
      have HGB := Lib.hid hgb
      have hgr : g < w3.heap.size := (OwnL.lt HO3.out g rfl).2
      clear hgb hgl
      have hkK : k < ls.length := by rw [HN.out]; exact hkl
      obtain ⟨u4, d4⟩ : ∃ u, w3.cell? ⟨g, k * 6 + 4, none⟩ = some u := ⟨_, ((OwnL.atg HO3.out HN.out) k hkK).2.2.2.2.1⟩
      have f4 := HO3.out.free (k * 6 + 4)
      have HO4 : Hid (OwnL (w3.setCell ⟨g, k * 6 + 4, none⟩ (.string v)) w1.heap.size (.slice (some ⟨g, 0, none⟩) n cv) (ls.set k (ls[k].valued v))) := HO3.out.valued HN.out hkK v
      have hkK2 : k < (ls.set k (ls[k].valued v)).length := by rw [List.length_set]; exact hkK
      obtain ⟨u5, d5⟩ : ∃ u, (w3.setCell ⟨g, k * 6 + 4, none⟩ (.string v)).cell? ⟨g, k * 6 + 5, none⟩ = some u := ⟨_, ((OwnL.atg HO4.out (by rw [List.length_set]; exact HN.out)) k hkK2).2.2.2.2.2⟩
      have f5 := HO4.out.free (k * 6 + 5)
      have HO5 : Hid (OwnL ((w3.setCell ⟨g, k * 6 + 4, none⟩ (.string v)).setCell ⟨g, k * 6 + 5, none⟩ (.string ⟨#[]⟩)) w1.heap.size (.slice (some ⟨g, 0, none⟩) n cv) R) := by
        have h := HO4.out.tailed (by rw [List.length_set]; exact HN.out) hkK2 ⟨#[]⟩
        rw [List.getElem_set_self] at h
        rw [← HRV.out, get_bang hkK, if_pos hve]
        exact h
      have HG5 : Hid (Grows w1 ((w3.setCell ⟨g, k * 6 + 4, none⟩ (.string v)).setCell ⟨g, k * 6 + 5, none⟩ (.string ⟨#[]⟩))) := (HG3.out.setCell HGB.out _).setCell HGB.out _
      clear HO4
      clear hkK hkK2
      go_wp2_with fail
      refine (HCK.out _ _ _ HO5.out).mono ?_
      rintro e w6 ⟨u, rfl, ho, g9⟩
      have HG6 : Hid (Grows w1 w6) := HG5.out.trans g9
      have HOE := Lib.hid ho
      obtain ⟨A5, n5, c5, hv5⟩ := ho.form3
      subst hv5
      clear g9 ho
      have HG0E : Hid (Grows ((w.alloc (fbox A n c)).alloc (fbox none 0 0)) w6) := HG01.out.trans HG6.out
      have h1 : w6.cell? ⟨w.heap.size + 1, 0, none⟩ = some (.slice none 0 0) := (HG0E.out.cell (p := ⟨w.heap.size + 1, 0, none⟩) (by simp)).trans (by simp [fbox])
      have h2 : w6.frozen? ⟨w.heap.size + 1, 0, none⟩ = false := (HG0E.out.frozen (p := ⟨w.heap.size + 1, 0, none⟩) (by simp)).trans (by simp [fbox])
      have hs1 : w.heap.size + 1 < w1.heap.size := Nat.lt_of_lt_of_le (by simp) HG01.out.size
      go_wp2
      refine bodyPost_ret (v := .tuple #[.agg #[.slice A5 n5 c5], .bool β]) (by simp [results, Try.results9, go_sem, h1]) rfl ?_
      rw [HV.out, HB.out]
      exact ⟨_, rfl, (HOE.out.setOther hs1 _).less HG1.out.size, (HG1.out.trans HG6.out).setCell (by simp) _⟩
    · have hvn := hve
      have hve1 : v.toList.isEmpty = false := by simpa using hve
      have hve2 : ¬ v.toList = [] := by intro h; rw [h] at hve; simp at hve
      go_enter Try.func9, Try.ntmps9
      go_wp2_with fail
      refine (HF.out _ (((Grows.refl _).alloc _).alloc _)).mono ?_
      rintro e w1 ⟨rfl, g1⟩
      have HG01 : Hid (Grows ((w.alloc (fbox A n c)).alloc (fbox none 0 0)) w1) := g1
      have HG1 : Hid (Grows w w1) := (((Grows.refl _).alloc _).alloc _).trans g1
      clear g1
      go_wp2_with fail
      refine (HN2.out _).mono ?_
      rintro e w2 ⟨rfl, rfl⟩
      go_wp2_with fail
      refine (HN3.out _).mono ?_
      rintro e w2 ⟨rfl, rfl⟩
      have hb1 : w1.cell? ⟨w.heap.size, 0, none⟩ = some (.slice A n c) := (HG01.out.cell (p := ⟨w.heap.size, 0, none⟩) (by simp; omega)).trans (by simp [fbox])
      go_wp2_with fail
      refine (HCP.out _ HG1.out).mono ?_
      rintro e w2 ⟨u, rfl, ho, g2⟩
      have HO2 := Lib.hid ho
      have HG2 : Hid (Grows w1 w2) := g2
      obtain ⟨Av, cv, hvv, hAv⟩ := OwnR.form ho
      subst hvv
      have HAV := Lib.hid hAv
      have hb2 : w2.cell? ⟨w.heap.size, 0, none⟩ = some (.slice A n c) := ((HG01.out.trans HG2.out).cell (p := ⟨w.heap.size, 0, none⟩) (by simp; omega)).trans (by simp [fbox])
      clear g2 ho hAv hb1
      rw [HN.out] at HO2 HAV ⊢
      go_wp2_with fail
      refine (HLP.out _ (HG1.out.trans HG2.out)).mono ?_
      rintro e w3 ⟨rfl, g3⟩
      have HO3 := Lib.hid (HO2.out.keep g3)
      have HG3 : Hid (Grows w1 w3) := HG2.out.trans g3
      clear g3 hb2
      obtain ⟨g, hge, hgb, hgl, _, _⟩ := HAV.out (by omega)
      subst hge
      have HGB := Lib.hid hgb
      have hgr : g < w3.heap.size := (OwnL.lt HO3.out g rfl).2
      clear hgb hgl
      have hkK : k < ls.length := by rw [HN.out]; exact hkl
      obtain ⟨u4, d4⟩ : ∃ u, w3.cell? ⟨g, k * 6 + 4, none⟩ = some u := ⟨_, ((OwnL.atg HO3.out HN.out) k hkK).2.2.2.2.1⟩
      have f4 := HO3.out.free (k * 6 + 4)
      have HO4 : Hid (OwnL (w3.setCell ⟨g, k * 6 + 4, none⟩ (.string v)) w1.heap.size (.slice (some ⟨g, 0, none⟩) n cv) (ls.set k (ls[k].valued v))) := HO3.out.valued HN.out hkK v
      have hkK2 : k < (ls.set k (ls[k].valued v)).length := by rw [List.length_set]; exact hkK
      obtain ⟨u5, d5⟩ : ∃ u, (w3.setCell ⟨g, k * 6 + 4, none⟩ (.string v)).cell? ⟨g, k * 6 + 5, none⟩ = some u := ⟨_, ((OwnL.atg HO4.out (by rw [List.length_set]; exact HN.out)) k hkK2).2.2.2.2.2⟩
      have f5 := HO4.out.free (k * 6 + 5)
      have HO5 : Hid (OwnL (w3.setCell ⟨g, k * 6 + 4, none⟩ (.string v)) w1.heap.size (.slice (some ⟨g, 0, none⟩) n cv) R) := by
        rw [← HRV.out, get_bang hkK, if_neg hvn]
        exact HO4.out
      have HG5 : Hid (Grows w1 (w3.setCell ⟨g, k * 6 + 4, none⟩ (.string v))) := HG3.out.setCell HGB.out _
      clear HO4
      clear hkK hkK2
      go_wp2_with fail
      refine (HCK.out _ _ _ HO5.out).mono ?_
      rintro e w6 ⟨u, rfl, ho, g9⟩
      have HG6 : Hid (Grows w1 w6) := HG5.out.trans g9
      have HOE := Lib.hid ho
      obtain ⟨A5, n5, c5, hv5⟩ := ho.form3
      subst hv5
      clear g9 ho
      have HG0E : Hid (Grows ((w.alloc (fbox A n c)).alloc (fbox none 0 0)) w6) := HG01.out.trans HG6.out
      have h1 : w6.cell? ⟨w.heap.size + 1, 0, none⟩ = some (.slice none 0 0) := (HG0E.out.cell (p := ⟨w.heap.size + 1, 0, none⟩) (by simp)).trans (by simp [fbox])
      have h2 : w6.frozen? ⟨w.heap.size + 1, 0, none⟩ = false := (HG0E.out.frozen (p := ⟨w.heap.size + 1, 0, none⟩) (by simp)).trans (by simp [fbox])
      have hs1 : w.heap.size + 1 < w1.heap.size := Nat.lt_of_lt_of_le (by simp) HG01.out.size
      go_wp2
      refine bodyPost_ret (v := .tuple #[.agg #[.slice A5 n5 c5], .bool β]) (by simp [results, Try.results9, go_sem, h1]) rfl ?_
      rw [HV.out, HB.out]
      exact ⟨_, rfl, (HOE.out.setOther hs1 _).less HG1.out.size, (HG1.out.trans HG6.out).setCell (by simp) _⟩
  · have he : s.toList.isEmpty = false := by simpa using he0
    have he1 : ¬ s.toList = [] := by intro h; rw [h] at he; simp at he
    rw [hvf.2.1 he] at HN1
    clear he0 hvf
    by_cases hve : v.toList.isEmpty = true
    · have hve1 : v.toList = [] := by simpa using hve
      go_enter Try.func9, Try.ntmps9
      go_wp2_with fail
      refine (HF.out _ (((Grows.refl _).alloc _).alloc _)).mono ?_
      rintro e w1 ⟨rfl, g1⟩
      have HG01 : Hid (Grows ((w.alloc (fbox A n c)).alloc (fbox none 0 0)) w1) := g1
      have HG1 : Hid (Grows w w1) := (((Grows.refl _).alloc _).alloc _).trans g1
      clear g1
      go_wp2_with fail
      refine (HN1.out _).mono ?_
      rintro e w2 ⟨rfl, rfl⟩
      go_wp2_with fail
      refine (HN2.out _).mono ?_
      rintro e w2 ⟨rfl, rfl⟩
      go_wp2_with fail
      refine (HN3.out _).mono ?_
      rintro e w2 ⟨rfl, rfl⟩
      have hb1 : w1.cell? ⟨w.heap.size, 0, none⟩ = some (.slice A n c) := (HG01.out.cell (p := ⟨w.heap.size, 0, none⟩) (by simp; omega)).trans (by simp [fbox])
      go_wp2_with fail
      refine (HCP.out _ HG1.out).mono ?_
      rintro e w2 ⟨u, rfl, ho, g2⟩
      have HO2 := Lib.hid ho
      have HG2 : Hid (Grows w1 w2) := g2
      obtain ⟨Av, cv, hvv, hAv⟩ := OwnR.form ho
      subst hvv
      have HAV := Lib.hid hAv
      have hb2 : w2.cell? ⟨w.heap.size, 0, none⟩ = some (.slice A n c) := ((HG01.out.trans HG2.out).cell (p := ⟨w.heap.size, 0, none⟩) (by simp; omega)).trans (by simp [fbox])
      clear g2 ho hAv hb1
      rw [HN.out] at HO2 HAV ⊢
      go_wp2_with fail
      refine (HLP.out _ (HG1.out.trans HG2.out)).mono ?_
      rintro e w3 ⟨rfl, g3⟩
      have HO3 := Lib.hid (HO2.out.keep g3)
      have HG3 : Hid (Grows w1 w3) := HG2.out.trans g3
      clear g3 hb2
      obtain ⟨g, hge, hgb, hgl, _, _⟩ := HAV.out (by omega)
      subst hge
      have HGB := Lib.hid hgb
      have hgr : g < w3.heap.size := (OwnL.lt HO3.out g rfl).2
      clear hgb hgl
      have hkK : k < ls.length := by rw [HN.out]; exact hkl
      obtain ⟨u4, d4⟩ : ∃ u, w3.cell? ⟨g, k * 6 + 4, none⟩ = some u := ⟨_, ((OwnL.atg HO3.out HN.out) k hkK).2.2.2.2.1⟩
      have f4 := HO3.out.free (k * 6 + 4)
      have HO4 : Hid (OwnL (w3.setCell ⟨g, k * 6 + 4, none⟩ (.string v)) w1.heap.size (.slice (some ⟨g, 0, none⟩) n cv) (ls.set k (ls[k].valued v))) := HO3.out.valued HN.out hkK v
      have hkK2 : k < (ls.set k (ls[k].valued v)).length := by rw [List.length_set]; exact hkK
      obtain ⟨u5, d5⟩ : ∃ u, (w3.setCell ⟨g, k * 6 + 4, none⟩ (.string v)).cell? ⟨g, k * 6 + 5, none⟩ = some u := ⟨_, ((OwnL.atg HO4.out (by rw [List.length_set]; exact HN.out)) k hkK2).2.2.2.2.2⟩
      have f5 := HO4.out.free (k * 6 + 5)
      have HO5 : Hid (OwnL ((w3.setCell ⟨g, k * 6 + 4, none⟩ (.string v)).setCell ⟨g, k * 6 + 5, none⟩ (.string ⟨#[]⟩)) w1.heap.size (.slice (some ⟨g, 0, none⟩) n cv) R) := by
        have h := HO4.out.tailed (by rw [List.length_set]; exact HN.out) hkK2 ⟨#[]⟩
        rw [List.getElem_set_self] at h
        rw [← HRV.out, get_bang hkK, if_pos hve]
        exact h
      have HG5 : Hid (Grows w1 ((w3.setCell ⟨g, k * 6 + 4, none⟩ (.string v)).setCell ⟨g, k * 6 + 5, none⟩ (.string ⟨#[]⟩))) := (HG3.out.setCell HGB.out _).setCell HGB.out _
      clear HO4
      clear hkK hkK2
      go_wp2_with fail
      refine (HCK.out _ _ _ HO5.out).mono ?_
      rintro e w6 ⟨u, rfl, ho, g9⟩
      have HG6 : Hid (Grows w1 w6) := HG5.out.trans g9
      have HOE := Lib.hid ho
      obtain ⟨A5, n5, c5, hv5⟩ := ho.form3
      subst hv5
      clear g9 ho
      have HG0E : Hid (Grows ((w.alloc (fbox A n c)).alloc (fbox none 0 0)) w6) := HG01.out.trans HG6.out
      have h1 : w6.cell? ⟨w.heap.size + 1, 0, none⟩ = some (.slice none 0 0) := (HG0E.out.cell (p := ⟨w.heap.size + 1, 0, none⟩) (by simp)).trans (by simp [fbox])
      have h2 : w6.frozen? ⟨w.heap.size + 1, 0, none⟩ = false := (HG0E.out.frozen (p := ⟨w.heap.size + 1, 0, none⟩) (by simp)).trans (by simp [fbox])
      have hs1 : w.heap.size + 1 < w1.heap.size := Nat.lt_of_lt_of_le (by simp) HG01.out.size
      go_wp2
      refine bodyPost_ret (v := .tuple #[.agg #[.slice A5 n5 c5], .bool β]) (by simp [results, Try.results9, go_sem, h1]) rfl ?_
      rw [HV.out, HB.out]
      exact ⟨_, rfl, (HOE.out.setOther hs1 _).less HG1.out.size, (HG1.out.trans HG6.out).setCell (by simp) _⟩
    · have hvn := hve
      have hve1 : v.toList.isEmpty = false := by simpa using hve
      have hve2 : ¬ v.toList = [] := by intro h; rw [h] at hve; simp at hve
      go_enter Try.func9, Try.ntmps9
      go_wp2_with fail
      refine (HF.out _ (((Grows.refl _).alloc _).alloc _)).mono ?_
      rintro e w1 ⟨rfl, g1⟩
      have HG01 : Hid (Grows ((w.alloc (fbox A n c)).alloc (fbox none 0 0)) w1) := g1
      have HG1 : Hid (Grows w w1) := (((Grows.refl _).alloc _).alloc _).trans g1
      clear g1
      go_wp2_with fail
      refine (HN1.out _).mono ?_
      rintro e w2 ⟨rfl, rfl⟩
      go_wp2_with fail
      refine (HN2.out _).mono ?_
      rintro e w2 ⟨rfl, rfl⟩
      go_wp2_with fail
      refine (HN3.out _).mono ?_
      rintro e w2 ⟨rfl, rfl⟩
      have hb1 : w1.cell? ⟨w.heap.size, 0, none⟩ = some (.slice A n c) := (HG01.out.cell (p := ⟨w.heap.size, 0, none⟩) (by simp; omega)).trans (by simp [fbox])
      go_wp2_with fail
      refine (HCP.out _ HG1.out).mono ?_
      rintro e w2 ⟨u, rfl, ho, g2⟩
      have HO2 := Lib.hid ho
      have HG2 : Hid (Grows w1 w2) := g2
      obtain ⟨Av, cv, hvv, hAv⟩ := OwnR.form ho
      subst hvv
      have HAV := Lib.hid hAv
      have hb2 : w2.cell? ⟨w.heap.size, 0, none⟩ = some (.slice A n c) := ((HG01.out.trans HG2.out).cell (p := ⟨w.heap.size, 0, none⟩) (by simp; omega)).trans (by simp [fbox])
      clear g2 ho hAv hb1
      rw [HN.out] at HO2 HAV ⊢
      go_wp2_with fail
      refine (HLP.out _ (HG1.out.trans HG2.out)).mono ?_
      rintro e w3 ⟨rfl, g3⟩
      have HO3 := Lib.hid (HO2.out.keep g3)
      have HG3 : Hid (Grows w1 w3) := HG2.out.trans g3
      clear g3 hb2
      obtain ⟨g, hge, hgb, hgl, _, _⟩ := HAV.out (by omega)
      subst hge
      have HGB := Lib.hid hgb
      have hgr : g < w3.heap.size := (OwnL.lt HO3.out g rfl).2
      clear hgb hgl
      have hkK : k < ls.length := by rw [HN.out]; exact hkl
      obtain ⟨u4, d4⟩ : ∃ u, w3.cell? ⟨g, k * 6 + 4, none⟩ = some u := ⟨_, ((OwnL.atg HO3.out HN.out) k hkK).2.2.2.2.1⟩
      have f4 := HO3.out.free (k * 6 + 4)
      have HO4 : Hid (OwnL (w3.setCell ⟨g, k * 6 + 4, none⟩ (.string v)) w1.heap.size (.slice (some ⟨g, 0, none⟩) n cv) (ls.set k (ls[k].valued v))) := HO3.out.valued HN.out hkK v
      have hkK2 : k < (ls.set k (ls[k].valued v)).length := by rw [List.length_set]; exact hkK
      obtain ⟨u5, d5⟩ : ∃ u, (w3.setCell ⟨g, k * 6 + 4, none⟩ (.string v)).cell? ⟨g, k * 6 + 5, none⟩ = some u := ⟨_, ((OwnL.atg HO4.out (by rw [List.length_set]; exact HN.out)) k hkK2).2.2.2.2.2⟩
      have f5 := HO4.out.free (k * 6 + 5)
      have HO5 : Hid (OwnL (w3.setCell ⟨g, k * 6 + 4, none⟩ (.string v)) w1.heap.size (.slice (some ⟨g, 0, none⟩) n cv) R) := by
        rw [← HRV.out, get_bang hkK, if_neg hvn]
        exact HO4.out
      have HG5 : Hid (Grows w1 (w3.setCell ⟨g, k * 6 + 4, none⟩ (.string v))) := HG3.out.setCell HGB.out _
      clear HO4
      clear hkK hkK2
      go_wp2_with fail
      refine (HCK.out _ _ _ HO5.out).mono ?_
      rintro e w6 ⟨u, rfl, ho, g9⟩
      have HG6 : Hid (Grows w1 w6) := HG5.out.trans g9
      have HOE := Lib.hid ho
      obtain ⟨A5, n5, c5, hv5⟩ := ho.form3
      subst hv5
      clear g9 ho
      have HG0E : Hid (Grows ((w.alloc (fbox A n c)).alloc (fbox none 0 0)) w6) := HG01.out.trans HG6.out
      have h1 : w6.cell? ⟨w.heap.size + 1, 0, none⟩ = some (.slice none 0 0) := (HG0E.out.cell (p := ⟨w.heap.size + 1, 0, none⟩) (by simp)).trans (by simp [fbox])
      have h2 : w6.frozen? ⟨w.heap.size + 1, 0, none⟩ = false := (HG0E.out.frozen (p := ⟨w.heap.size + 1, 0, none⟩) (by simp)).trans (by simp [fbox])
      have hs1 : w.heap.size + 1 < w1.heap.size := Nat.lt_of_lt_of_le (by simp) HG01.out.size
      go_wp2
      refine bodyPost_ret (v := .tuple #[.agg #[.slice A5 n5 c5], .bool β]) (by simp [results, Try.results9, go_sem, h1]) rfl ?_
      rw [HV.out, HB.out]
      exact ⟨_, rfl, (HOE.out.setOther hs1 _).less HG1.out.size, (HG1.out.trans HG6.out).setCell (by simp) _⟩
end Go.Proofs.Ytclopcbpelhiaaa
