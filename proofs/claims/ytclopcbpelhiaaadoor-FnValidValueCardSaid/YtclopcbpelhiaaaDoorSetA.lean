/-
  A file with one more value: SetValue of the program. Conditions: at most 1048576 bytes in all.
-/
import Derived.Test.YtclopcbpelhiaaaDoorSetP
import Derived.Test.YtclopcbpelhiaaaDoorTidy
namespace Go.Proofs.YtclopcbpelhiaaaDoor
open Go.RowKit

theorem valL_fits {ls : List Ln} {k : Nat} {v : ByteArray} (hf : AllFit ls) (hv : v.size ≤ 1048576) : AllFit (valL ls k v) := by
  have h0 : ∀ l : Ln, l.fits → (l.valued v).fits := fun l h => ⟨h.1, h.2.1, h.2.2.1, Nat.le_trans hv (by unfold maxLen; omega), h.2.2.2.2⟩
  have h1 : ∀ l : Ln, l.fits → (l.tailed ⟨#[]⟩).fits := fun l h => ⟨h.1, h.2.1, h.2.2.1, h.2.2.2.1, Nat.zero_le _⟩
  refine ⟨by rw [valL_length]; exact hf.1, fun i hi => ?_⟩
  have hi2 : i < ls.length := by rw [valL_length] at hi; exact hi
  by_cases hk : k < ls.length
  · have hK := hf.2 k hk
    have hI := hf.2 i hi2
    unfold valL
    simp only [get_bang hk]
    split
    · rw [List.getElem_set]; split
      · exact h1 _ (h0 _ hK)
      · rw [List.getElem_set]; split
        · exact h0 _ hK
        · exact hI
    · rw [List.getElem_set]; split
      · exact h0 _ hK
      · exact hI
  · have e : valL ls k v = ls := by
      unfold valL
      split
      · rw [List.set_eq_of_length_le (by rw [List.length_set]; omega), List.set_eq_of_length_le (by omega)]
      · rw [List.set_eq_of_length_le (by omega)]
    simp only [e]
    exact hf.2 i hi2
theorem two_at (w : World) (l m : Ln) (t : TypeId) : LnsAt (w.alloc (.cells #[.int .i64 l.k, .string l.le, .string l.na, .string l.se, .string l.va, .string l.ta, .int .i64 m.k, .string m.le, .string m.na, .string m.se, .string m.va, .string m.ta] t)) (some ⟨w.heap.size, 0, none⟩) [l, m] := fun _ => by
  refine ⟨w.heap.size, 0, rfl, by simp, fun i hi => ?_⟩
  have hx := fun d => cell_of_row (w.alloc (.cells #[.int .i64 l.k, .string l.le, .string l.na, .string l.se, .string l.va, .string l.ta, .int .i64 m.k, .string m.le, .string m.na, .string m.se, .string m.va, .string m.ta] t)) w.heap.size d _ _ _ (heap_alloc_new w _)
  have h0 : i = 0 ∨ i = 1 := by simp at hi; omega
  rcases h0 with rfl | rfl
  all_goals
    refine ⟨?_, ?_, ?_, ?_, ?_, ?_⟩
    all_goals
      rw [hx]
      rfl
theorem AllFit.small {ls ms : List Ln} {k : Nat} (hf : AllFit ls) (hm : ∀ i (h : i < ms.length), ms[i].fits) : (putL ls k ms).length ≤ 20 → AllFit (putL ls k ms) := fun h => by
  refine putL_fits hf ?_ hm
  unfold putL at h
  rw [List.length_append, List.length_append, List.length_take, List.length_drop] at h
  have := hf.1
  omega

set_option maxRecDepth 100000 in
set_option maxHeartbeats 8000000 in
theorem implSetC_any (A : Option Addr) (c : Nat) (ls : List Ln) (s key v : ByteArray) (w : World) (hf : AllFit ls) (hs : s.size ≤ 1048576) (hk : key.size ≤ 1048576) (hv : v.size ≤ 1048576) (hcap : ls.length ≤ c) (hA0 : ls.length < c → ∃ b, A = some ⟨b, 0, none⟩) (hA : LnsAt w A ls) :
    Calls Tryd.prog 23 #[.agg #[.slice A ls.length c], .string s, .string key, .string v] w (ResLB (setL ls s key v) (setB ls s key v) w) := by
  have HW := Lib.hid (fun w1 (g : Grows w w1) => implWhere_any A c ls s key w1 hf (hA.keep g))
  have hn : ls.length ≤ 1048576 := hf.1
  have hwl := where_lt ls s key
  by_cases h0 : 0 ≤ whereOf ls s key
  · obtain ⟨k, hkk⟩ : ∃ k : Nat, whereOf ls s key = k := ⟨(whereOf ls s key).toNat, by omega⟩
    have hkl : k < ls.length := by omega
    have e0 : setR ls s key v = valL ls k v := by unfold setR; rw [if_pos h0, hkk, Int.toNat_natCast]
    have HV : Hid (setL ls s key v = chkL (valL ls k v)) := by unfold Hid setL; rw [e0]
    have HB : Hid (setB ls s key v = vfile (valL ls k v)) := by unfold Hid setB; rw [e0]
    have HFR := Lib.hid (valL_fits (k := k) hf hv)
    have HPU := Lib.hid (fun w1 (g : Grows w w1) => valueLines_any A c ls k v w1 hn hkl (hA.keep g))
    rw [hkk] at HW
    clear hkk h0 hwl hA hf e0
    obtain ⟨R, hR⟩ : ∃ R, valL ls k v = R := ⟨_, rfl⟩
    rw [hR] at HFR HPU HV HB
    clear hR
    have HCK := Lib.hid (fun (v : Value) (b : Nat) w1 (h : OwnL w1 b v R) => validLines_any v b R w1 HFR.out h)
    unfold RetL at HPU
    unfold ChkRet at HCK
    obtain ⟨n, hnn⟩ : ∃ n, ls.length = n := ⟨_, rfl⟩
    rw [hnn] at HW HPU hn hkl ⊢
    obtain ⟨β, hβ⟩ : ∃ β, vfile R = β := ⟨_, rfl⟩
    rw [hβ] at HCK HB
    clear hnn hβ
    go_enter Tryd.func23, Tryd.ntmps23
    go_wp2_with fail
    refine (HW.out _ (((Grows.refl _).alloc _).alloc _)).mono ?_
    rintro e w1 ⟨rfl, g1⟩
    have HG01 : Hid (Grows ((w.alloc (fbox A n c)).alloc (fbox none 0 0)) w1) := g1
    have HG1 : Hid (Grows w w1) := (((Grows.refl _).alloc _).alloc _).trans g1
    have hb1 : w1.cell? ⟨w.heap.size, 0, none⟩ = some (.slice A n c) := (HG01.out.cell (p := ⟨w.heap.size, 0, none⟩) (by simp; omega)).trans (by simp [fbox])
    clear g1
    go_wp2_with fail
    refine (HPU.out _ HG1.out).mono ?_
    rintro e w2 ⟨u, rfl, ho, g2⟩
    have G2 : Hid (Grows w1 w2) := g2
    have HO2 := Lib.hid ho
    clear g2 ho hb1
    go_wp2_with fail
    refine (HCK.out _ _ _ HO2.out).mono ?_
    rintro e w3 ⟨u, rfl, ho, g3⟩
    have G3 : Hid (Grows w1 w3) := G2.out.trans g3
    have HO3 := Lib.hid ho
    obtain ⟨A5, n5, c5, hv5⟩ := ho.form3
    subst hv5
    clear g3 ho
    have HG03 : Hid (Grows ((w.alloc (fbox A n c)).alloc (fbox none 0 0)) w3) := HG01.out.trans G3.out
    have h1 : w3.cell? ⟨w.heap.size + 1, 0, none⟩ = some (.slice none 0 0) := (HG03.out.cell (p := ⟨w.heap.size + 1, 0, none⟩) (by simp)).trans (by simp [fbox])
    have h2 : w3.frozen? ⟨w.heap.size + 1, 0, none⟩ = false := (HG03.out.frozen (p := ⟨w.heap.size + 1, 0, none⟩) (by simp)).trans (by simp [fbox])
    have hs1 : w.heap.size + 1 < w1.heap.size := Nat.lt_of_lt_of_le (by simp) HG01.out.size
    go_wp2
    refine bodyPost_ret (v := .tuple #[.agg #[.slice A5 n5 c5], .bool β]) (by simp [results, Tryd.results23, go_sem, h1]) rfl ?_
    rw [HV.out, HB.out]
    exact ⟨_, rfl, (HO3.out.setOther hs1 _).less HG1.out.size, (HG1.out.trans G3.out).setCell (by simp) _⟩
  · have HH := Lib.hid (fun w1 (g : Grows w w1) => headsOf_any A c ls s w1 hf (hA.keep g))
    have HEN := Lib.hid (fun w1 (g : Grows w w1) => endOf_any A c ls s w1 hf (hA.keep g))
    have hm2 : ∀ i (h : i < [headL s, pairL key v].length), [headL s, pairL key v][i].fits := fun i h => by
      have h9 : i = 0 ∨ i = 1 := by simp at h; omega
      rcases h9 with rfl | rfl
      · exact ⟨Nat.zero_le _, hs, Nat.zero_le _, Nat.zero_le _, Nat.zero_le _⟩
      · exact ⟨Nat.zero_le _, hk, by show newSep.size ≤ maxLen; decide, Nat.le_trans hv (by unfold maxLen; omega), Nat.zero_le _⟩
    have hm1 : ∀ i (h : i < [pairL key v].length), [pairL key v][i].fits := fun i h => by
      have h9 : i = 0 := by simp at h; omega
      subst h9
      exact hm2 1 (by simp)
    have h00 : ¬ whereOf ls s key ≥ 0 := by omega
    have hq := hwl.2
    obtain ⟨z, hz⟩ : ∃ z, whereOf ls s key = z := ⟨_, rfl⟩
    have hz0 : z < 0 := by omega
    rw [hz] at HW
    by_cases hc : s.toList.isEmpty = false ∧ headsOf' ls s = []
    · have e0 : setR ls s key v = putL ls ls.length [headL s, pairL key v] := by unfold setR; rw [if_neg h0, if_pos hc]
      have HV : Hid (setL ls s key v = chkL (putL ls ls.length [headL s, pairL key v])) := by unfold Hid setL; rw [e0]
      have HB : Hid (setB ls s key v = vfile (putL ls ls.length [headL s, pairL key v])) := by unfold Hid setB; rw [e0]
      have HFR := Lib.hid (AllFit.small (k := ls.length) hf hm2)
      have HPU := Lib.hid (fun (M : Option Addr) (mc : Nat) w1 (g : Grows w w1) (h : LnsAt w1 M [headL s, pairL key v]) => putLinesC_any A M c mc ls.length ls [headL s, pairL key v] w1 hn (by simp) (by simp) (by omega) hcap hA0 (hA.keep g) h)
      have hRl : (putL ls ls.length [headL s, pairL key v]).length ≤ maxLen := by rw [putL_length _ _ _ (Nat.le_refl _)]; unfold maxLen; simp; omega
      obtain ⟨he, hh⟩ := hc
      rw [hh] at HH
      clear hz h0 h00 hq hwl hA hf e0 hm1 hm2 HEN hh
      obtain ⟨R, hR⟩ : ∃ R, putL ls ls.length [headL s, pairL key v] = R := ⟨_, rfl⟩
      rw [hR] at HFR HPU HV HB hRl
      clear hR
      have HCK := Lib.hid (fun (v : Value) (b : Nat) w1 (h : OwnL w1 b v R) => validLines_all v b R w1 HFR.out h hRl)
      unfold RetL at HPU
      unfold ChkRet at HCK
      unfold ValsRet at HH
      obtain ⟨n, hnn⟩ : ∃ n, ls.length = n := ⟨_, rfl⟩
      rw [hnn] at HW HPU HH hn ⊢
      obtain ⟨β, hβ⟩ : ∃ β, vfile R = β := ⟨_, rfl⟩
      rw [hβ] at HCK HB
      clear hnn hβ hRl
      have he2 : ¬ s.toList = [] := by intro h; rw [h] at he; simp at he
      go_enter Tryd.func23, Tryd.ntmps23
      go_wp2_with fail
      refine (HW.out _ (((Grows.refl _).alloc _).alloc _)).mono ?_
      rintro e w1 ⟨rfl, g1⟩
      have HG01 : Hid (Grows ((w.alloc (fbox A n c)).alloc (fbox none 0 0)) w1) := g1
      have HG1 : Hid (Grows w w1) := (((Grows.refl _).alloc _).alloc _).trans g1
      have hb1 : w1.cell? ⟨w.heap.size, 0, none⟩ = some (.slice A n c) := (HG01.out.cell (p := ⟨w.heap.size, 0, none⟩) (by simp; omega)).trans (by simp [fbox])
      clear g1
      go_wp2_with fail
      refine (line3_g key v _).mono ?_
      rintro e w2 ⟨rfl, g2⟩
      have HG02 : Hid (Grows ((w.alloc (fbox A n c)).alloc (fbox none 0 0)) w2) := HG01.out.trans g2
      have HG2 : Hid (Grows w w2) := HG1.out.trans g2
      clear g2 hb1
      have HG20 : Hid (Grows w (w2.alloc (.cells #[.int .i64 3, .string ⟨#[]⟩, .string key, .string newSep, .string v, .string ⟨#[]⟩] 60))) := HG2.out.alloc _
      have HG020 : Hid (Grows ((w.alloc (fbox A n c)).alloc (fbox none 0 0)) (w2.alloc (.cells #[.int .i64 3, .string ⟨#[]⟩, .string key, .string newSep, .string v, .string ⟨#[]⟩] 60))) := HG02.out.alloc _
      have hs20 : w.heap.size + 1 < w2.heap.size := Nat.lt_of_lt_of_le (by simp) HG02.out.size
      have hs21 : w.heap.size < w2.heap.size := by omega
      have hb2 : w2.cell? ⟨w.heap.size, 0, none⟩ = some (.slice A n c) := (HG02.out.cell (p := ⟨w.heap.size, 0, none⟩) (by simp; omega)).trans (by simp [fbox])
      go_wp2_with fail
      refine (HH.out _ HG20.out).mono ?_
      rintro e w3 ⟨A1, c1, rfl, hv1, g3, _⟩
      have HG3 : Hid (Grows w w3) := HG20.out.trans g3
      have HG03 : Hid (Grows ((w.alloc (fbox A n c)).alloc (fbox none 0 0)) w3) := HG020.out.trans g3
      have HPC : Hid (∀ (d : Nat) (u : Value), (#[.int .i64 3, .string ⟨#[]⟩, .string key, .string newSep, .string v, .string ⟨#[]⟩] : Array Value)[d]? = some u → w3.cell? ⟨w2.heap.size, d, none⟩ = some u) := fun d u h => (g3.cell (p := ⟨w2.heap.size, d, none⟩) (by simp)).trans ((cell_of_row (w2.alloc (.cells #[.int .i64 3, .string ⟨#[]⟩, .string key, .string newSep, .string v, .string ⟨#[]⟩] 60)) w2.heap.size d _ _ _ (heap_alloc_new w2 _)).trans h)
      have hb3 : w3.cell? ⟨w.heap.size, 0, none⟩ = some (.slice A n c) := (HG03.out.cell (p := ⟨w.heap.size, 0, none⟩) (by simp; omega)).trans (by simp [fbox])
      obtain ⟨g, hg⟩ : ∃ g, w2.heap.size = g := ⟨_, rfl⟩
      rw [hg] at HPC
      have p0 := HPC.out 0 _ rfl
      have p1 := HPC.out 1 _ rfl
      have p2 := HPC.out 2 _ rfl
      have p3 := HPC.out 3 _ rfl
      have p4 := HPC.out 4 _ rfl
      have p5 := HPC.out 5 _ rfl
      clear g3 hb2 hv1
      go_wp2_with fail
      refine wp_region_M 14 (CellsAre [(⟨w.heap.size, 0, none⟩, .slice A n c), (⟨g, 0, none⟩, .int .i64 3), (⟨g, 1, none⟩, .string ⟨#[]⟩), (⟨g, 2, none⟩, .string key), (⟨g, 3, none⟩, .string newSep), (⟨g, 4, none⟩, .string v), (⟨g, 5, none⟩, .string ⟨#[]⟩)]) (by kernel_rfl) (by kernel_rfl) ⟨hb3, p0, p1, p2, p3, p4, p5, trivial⟩ (fun hB hS => ?_)
      refine wpAnyM_take (i := 0) (v := ?vba0) hB rfl (by kernel_rfl) (fun _ _ _ h => h) (by rfl) ?yba0 hS ?nba0
      case yba0 => (intro w9 hSw; obtain ⟨s1, s2, s3, s4, s5, s6, s7, _⟩ := hSw; go_simp; try with_reducible rfl)
      refine wpAnyM_take (i := 1) (v := ?vba1) hB rfl (by kernel_rfl) (fun _ _ _ h => h) (by rfl) ?yba1 hS ?nba1
      case yba1 => (intro w9 hSw; obtain ⟨s1, s2, s3, s4, s5, s6, s7, _⟩ := hSw; go_simp; try with_reducible rfl)
      refine wpAnyM_take (i := 2) (v := ?vba2) hB rfl (by kernel_rfl) (fun _ _ _ h => h) (by rfl) ?yba2 hS ?nba2
      case yba2 => (intro w9 hSw; obtain ⟨s1, s2, s3, s4, s5, s6, s7, _⟩ := hSw; go_simp; try with_reducible rfl)
      refine wpAnyM_take (i := 3) (v := ?vba3) hB rfl (by kernel_rfl) (fun _ _ _ h => h) (by rfl) ?yba3 hS ?nba3
      case yba3 => (intro w9 hSw; obtain ⟨s1, s2, s3, s4, s5, s6, s7, _⟩ := hSw; go_simp; try with_reducible rfl)
      refine wpAnyM_take (i := 4) (v := ?vba4) hB rfl (by kernel_rfl) (fun _ _ _ h => h) (by rfl) ?yba4 hS ?nba4
      case yba4 => (intro w9 hSw; obtain ⟨s1, s2, s3, s4, s5, s6, s7, _⟩ := hSw; go_simp; try with_reducible rfl)
      refine wpAnyM_take (i := 5) (v := ?vba5) hB rfl (by kernel_rfl) (fun _ _ _ h => h) (by rfl) ?yba5 hS ?nba5
      case yba5 => (intro w9 hSw; obtain ⟨s1, s2, s3, s4, s5, s6, s7, _⟩ := hSw; go_simp; try with_reducible rfl)
      refine wpAnyM_take (i := 6) (v := ?vba6) hB rfl (by kernel_rfl) (fun _ _ _ h => h) (by rfl) ?yba6 hS ?nba6
      case yba6 => (intro w9 hSw; obtain ⟨s1, s2, s3, s4, s5, s6, s7, _⟩ := hSw; go_simp; try with_reducible rfl)
      refine wpAnyM_take (i := 8) (v := ?vba8) hB rfl (by kernel_rfl) (fun _ _ _ h => h) (by rfl) ?yba8 hS ?nba8
      case yba8 => (intro w9 hSw; obtain ⟨s1, s2, s3, s4, s5, s6, s7, _⟩ := hSw; go_simp; try with_reducible rfl)
      have HS3 : Hid (CellsAre [(⟨w.heap.size, 0, none⟩, .slice A n c), (⟨g, 0, none⟩, .int .i64 3), (⟨g, 1, none⟩, .string ⟨#[]⟩), (⟨g, 2, none⟩, .string key), (⟨g, 3, none⟩, .string newSep), (⟨g, 4, none⟩, .string v), (⟨g, 5, none⟩, .string ⟨#[]⟩)] w3) := hS
      clear hS hb3 p0 p1 p2 p3 p4 p5
      refine wpAnyM_one (i := 7) rfl (by kernel_rfl) rfl ?_
      go_wp2_with fail
      refine (line2_g s _).mono ?_
      rintro e w5 ⟨rfl, g5⟩
      have G5 : Hid (Grows w3 w5) := (Grows.refl _).drew.trans g5
      clear g5
      go_wp2_with fail
      refine ⟨CellsAre.keep HS3.out G5.out, ?_⟩
      refine wpAnyM_one (i := 9) rfl (by kernel_rfl) rfl ?_
      go_wp2_with fail
      have G6 : Hid (Grows w3 (w5.alloc (.cells #[.int .i64 2, .string ⟨#[]⟩, .string s, .string ⟨#[]⟩, .string ⟨#[]⟩, .string ⟨#[]⟩, .int .i64 3, .string ⟨#[]⟩, .string key, .string newSep, .string v, .string ⟨#[]⟩] 60))) := G5.out.alloc _
      have HM6 : Hid (LnsAt (w5.alloc (.cells #[.int .i64 2, .string ⟨#[]⟩, .string s, .string ⟨#[]⟩, .string ⟨#[]⟩, .string ⟨#[]⟩, .int .i64 3, .string ⟨#[]⟩, .string key, .string newSep, .string v, .string ⟨#[]⟩] 60)) (some ⟨w5.heap.size, 0, none⟩) [headL s, pairL key v]) := two_at w5 (headL s) (pairL key v) _
      refine ⟨CellsAre.keep HS3.out G6.out, ?_⟩
      refine wpAnyM_one (i := 10) rfl (by kernel_rfl) rfl ?_
      go_wp2_with fail
      refine (HPU.out _ _ _ (HG3.out.trans G6.out) HM6.out).mono ?_
      rintro e w7 ⟨u, rfl, ho, g7⟩
      have G7 : Hid (Grows w3 w7) := G6.out.trans g7
      have HO7 : Hid (OwnL w7 w3.heap.size u R) := OwnL.less ho G6.out.size
      clear g7 ho
      go_wp2_with fail
      refine ⟨CellsAre.keep HS3.out G7.out, ?_⟩
      refine wpAnyM_one (i := 11) rfl (by kernel_rfl) rfl ?_
      go_wp2_with fail
      refine (HCK.out _ _ _ HO7.out).mono ?_
      rintro e w8 ⟨u, rfl, ho, g8⟩
      have G8 : Hid (Grows w3 w8) := G7.out.trans g8
      have HO8 := Lib.hid ho
      obtain ⟨A5, n5, c5, hv5⟩ := ho.form3
      subst hv5
      clear g8 ho
      go_wp2_with fail
      refine ⟨CellsAre.keep HS3.out G8.out, ?_⟩
      have hS := CellsAre.keep HS3.out G8.out
      refine wpAnyM_take (i := 12) (v := ?vbc12) hB rfl (by kernel_rfl) (fun _ _ _ h => h) (by rfl) ?ybc12 hS ?nbc12
      case ybc12 => (intro w9 hSw; obtain ⟨s1, s2, s3, s4, s5, s6, s7, _⟩ := hSw; go_simp; try with_reducible rfl)
      refine wpAnyM_take (i := 13) (v := ?vbc13) hB rfl (by kernel_rfl) (fun _ _ _ h => h) (by rfl) ?ybc13 hS ?nbc13
      case ybc13 => (intro w9 hSw; obtain ⟨s1, s2, s3, s4, s5, s6, s7, _⟩ := hSw; go_simp; try with_reducible rfl)
      refine wpAnyM_tail (by kernel_rfl) ?_
      clear hS hB HS3
      have HG08 : Hid (Grows ((w.alloc (fbox A n c)).alloc (fbox none 0 0)) w8) := HG03.out.trans G8.out
      have h1 : w8.cell? ⟨w.heap.size + 1, 0, none⟩ = some (.slice none 0 0) := (HG08.out.cell (p := ⟨w.heap.size + 1, 0, none⟩) (by simp)).trans (by simp [fbox])
      have h2 : w8.frozen? ⟨w.heap.size + 1, 0, none⟩ = false := (HG08.out.frozen (p := ⟨w.heap.size + 1, 0, none⟩) (by simp)).trans (by simp [fbox])
      have hs1 : w.heap.size + 1 < w3.heap.size := Nat.lt_of_lt_of_le (by simp) HG03.out.size
      go_wp2
      refine bodyPost_ret (v := .tuple #[.agg #[.slice A5 n5 c5], .bool β]) (by simp [results, Tryd.results23, go_sem, h1]) rfl ?_
      rw [HV.out, HB.out]
      exact ⟨_, rfl, (HO8.out.setOther hs1 _).less HG3.out.size, (HG3.out.trans G8.out).setCell (by simp) _⟩
    · have e0 : setR ls s key v = putL ls (endOf' ls s) [pairL key v] := by unfold setR; rw [if_neg h0, if_neg hc]
      have HV : Hid (setL ls s key v = chkL (putL ls (endOf' ls s) [pairL key v])) := by unfold Hid setL; rw [e0]
      have HB : Hid (setB ls s key v = vfile (putL ls (endOf' ls s) [pairL key v])) := by unfold Hid setB; rw [e0]
      have hel := endOf_le ls s
      obtain ⟨E, hE⟩ : ∃ E, endOf' ls s = E := ⟨_, rfl⟩
      rw [hE] at HV HB HEN hel
      have HFR := Lib.hid (AllFit.small (k := E) hf hm1)
      have HPU := Lib.hid (fun (M : Option Addr) (mc : Nat) w1 (g : Grows w w1) (h : LnsAt w1 M [pairL key v]) => putLinesC_any A M c mc E ls [pairL key v] w1 hn (by simp) (by simp) hel hcap hA0 (hA.keep g) h)
      have hRl : (putL ls E [pairL key v]).length ≤ maxLen := by rw [putL_length _ _ _ hel]; unfold maxLen; simp; omega
      by_cases he : s.toList.isEmpty = true
      · clear hz h0 h00 hq hwl hA hf e0 hm1 hm2 hE hc
        obtain ⟨R, hR⟩ : ∃ R, putL ls E [pairL key v] = R := ⟨_, rfl⟩
        rw [hR] at HFR HPU HV HB hRl
        clear hR
        have HCK := Lib.hid (fun (v : Value) (b : Nat) w1 (h : OwnL w1 b v R) => validLines_all v b R w1 HFR.out h hRl)
        unfold RetL at HPU
        unfold ChkRet at HCK
        unfold ValsRet at HH
        obtain ⟨n, hnn⟩ : ∃ n, ls.length = n := ⟨_, rfl⟩
        rw [hnn] at HW HPU HH HEN hn hel ⊢
        obtain ⟨β, hβ⟩ : ∃ β, vfile R = β := ⟨_, rfl⟩
        rw [hβ] at HCK HB
        clear hnn hβ hRl
        have he2 : s.toList = [] := by simpa using he
        go_enter Tryd.func23, Tryd.ntmps23
        go_wp2_with fail
        refine (HW.out _ (((Grows.refl _).alloc _).alloc _)).mono ?_
        rintro e w1 ⟨rfl, g1⟩
        have HG01 : Hid (Grows ((w.alloc (fbox A n c)).alloc (fbox none 0 0)) w1) := g1
        have HG1 : Hid (Grows w w1) := (((Grows.refl _).alloc _).alloc _).trans g1
        have hb1 : w1.cell? ⟨w.heap.size, 0, none⟩ = some (.slice A n c) := (HG01.out.cell (p := ⟨w.heap.size, 0, none⟩) (by simp; omega)).trans (by simp [fbox])
        clear g1
        go_wp2_with fail
        refine (line3_g key v _).mono ?_
        rintro e w2 ⟨rfl, g2⟩
        have HG02 : Hid (Grows ((w.alloc (fbox A n c)).alloc (fbox none 0 0)) w2) := HG01.out.trans g2
        have HG2 : Hid (Grows w w2) := HG1.out.trans g2
        clear g2 hb1
        have HG03 : Hid (Grows ((w.alloc (fbox A n c)).alloc (fbox none 0 0)) (w2.alloc (.cells #[.int .i64 3, .string ⟨#[]⟩, .string key, .string newSep, .string v, .string ⟨#[]⟩] 60))) := HG02.out.alloc _
        have HG3 : Hid (Grows w (w2.alloc (.cells #[.int .i64 3, .string ⟨#[]⟩, .string key, .string newSep, .string v, .string ⟨#[]⟩] 60))) := HG2.out.alloc _
        have HPC : Hid (∀ (d : Nat) (u : Value), (#[.int .i64 3, .string ⟨#[]⟩, .string key, .string newSep, .string v, .string ⟨#[]⟩] : Array Value)[d]? = some u → (w2.alloc (.cells #[.int .i64 3, .string ⟨#[]⟩, .string key, .string newSep, .string v, .string ⟨#[]⟩] 60)).cell? ⟨w2.heap.size, d, none⟩ = some u) := fun d u h => (cell_of_row (w2.alloc (.cells #[.int .i64 3, .string ⟨#[]⟩, .string key, .string newSep, .string v, .string ⟨#[]⟩] 60)) w2.heap.size d _ _ _ (heap_alloc_new w2 _)).trans h
        have hb3 : (w2.alloc (.cells #[.int .i64 3, .string ⟨#[]⟩, .string key, .string newSep, .string v, .string ⟨#[]⟩] 60)).cell? ⟨w.heap.size, 0, none⟩ = some (.slice A n c) := (HG03.out.cell (p := ⟨w.heap.size, 0, none⟩) (by simp; omega)).trans (by simp [fbox])
        go_wp2_with fail
        obtain ⟨g, hg⟩ : ∃ g, w2.heap.size = g := ⟨_, rfl⟩
        obtain ⟨w3, hw3⟩ : ∃ w3, w2.alloc (.cells #[.int .i64 3, .string ⟨#[]⟩, .string key, .string newSep, .string v, .string ⟨#[]⟩] 60) = w3 := ⟨_, rfl⟩
        rw [hw3] at HG03 HG3 HPC hb3 ⊢
        rw [hg] at HPC
        clear hw3
        have p0 := HPC.out 0 _ rfl
        have p1 := HPC.out 1 _ rfl
        have p2 := HPC.out 2 _ rfl
        have p3 := HPC.out 3 _ rfl
        have p4 := HPC.out 4 _ rfl
        have p5 := HPC.out 5 _ rfl
        refine wp_region_M 11 (CellsAre [(⟨w.heap.size, 0, none⟩, .slice A n c), (⟨g, 0, none⟩, .int .i64 3), (⟨g, 1, none⟩, .string ⟨#[]⟩), (⟨g, 2, none⟩, .string key), (⟨g, 3, none⟩, .string newSep), (⟨g, 4, none⟩, .string v), (⟨g, 5, none⟩, .string ⟨#[]⟩)]) (by kernel_rfl) (by kernel_rfl) ⟨hb3, p0, p1, p2, p3, p4, p5, trivial⟩ (fun hB hS => ?_)
        refine wpAnyM_take (i := 0) (v := ?vca0) hB rfl (by kernel_rfl) (fun _ _ _ h => h) (by rfl) ?yca0 hS ?nca0
        case yca0 => (intro w9 hSw; obtain ⟨s1, s2, s3, s4, s5, s6, s7, _⟩ := hSw; go_simp; try with_reducible rfl)
        refine wpAnyM_take (i := 1) (v := ?vca1) hB rfl (by kernel_rfl) (fun _ _ _ h => h) (by rfl) ?yca1 hS ?nca1
        case yca1 => (intro w9 hSw; obtain ⟨s1, s2, s3, s4, s5, s6, s7, _⟩ := hSw; go_simp; try with_reducible rfl)
        refine wpAnyM_take (i := 2) (v := ?vca2) hB rfl (by kernel_rfl) (fun _ _ _ h => h) (by rfl) ?yca2 hS ?nca2
        case yca2 => (intro w9 hSw; obtain ⟨s1, s2, s3, s4, s5, s6, s7, _⟩ := hSw; go_simp; try with_reducible rfl)
        refine wpAnyM_take (i := 3) (v := ?vca3) hB rfl (by kernel_rfl) (fun _ _ _ h => h) (by rfl) ?yca3 hS ?nca3
        case yca3 => (intro w9 hSw; obtain ⟨s1, s2, s3, s4, s5, s6, s7, _⟩ := hSw; go_simp; try with_reducible rfl)
        refine wpAnyM_take (i := 5) (v := ?vca5) hB rfl (by kernel_rfl) (fun _ _ _ h => h) (by rfl) ?yca5 hS ?nca5
        case yca5 => (intro w9 hSw; obtain ⟨s1, s2, s3, s4, s5, s6, s7, _⟩ := hSw; go_simp; try with_reducible rfl)
        have HS3 : Hid (CellsAre [(⟨w.heap.size, 0, none⟩, .slice A n c), (⟨g, 0, none⟩, .int .i64 3), (⟨g, 1, none⟩, .string ⟨#[]⟩), (⟨g, 2, none⟩, .string key), (⟨g, 3, none⟩, .string newSep), (⟨g, 4, none⟩, .string v), (⟨g, 5, none⟩, .string ⟨#[]⟩)] w3) := hS
        clear hS hb3 p0 p1 p2 p3 p4 p5
        refine wpAnyM_two (i := 4) (j := 6) rfl rfl (by kernel_rfl) rfl rfl ?waycA ?waycB
        case waycA =>
          go_wp2_with fail
          refine (HEN.out _ HG3.out.drew).mono ?_
          rintro e w5 ⟨rfl, g5⟩
          have G5 : Hid (Grows w3 w5) := (Grows.refl _).drew.trans g5
          clear g5
          go_wp2_with fail
          refine ⟨CellsAre.keep HS3.out G5.out, ?_⟩
          refine wpAnyM_one (i := 6) rfl (by kernel_rfl) rfl ?_
          go_wp2_with fail
          have G6 : Hid (Grows w3 (w5.alloc (.cells #[.int .i64 3, .string ⟨#[]⟩, .string key, .string newSep, .string v, .string ⟨#[]⟩] 60))) := G5.out.alloc _
          have HM6 : Hid (LnsAt (w5.alloc (.cells #[.int .i64 3, .string ⟨#[]⟩, .string key, .string newSep, .string v, .string ⟨#[]⟩] 60)) (some ⟨w5.heap.size, 0, none⟩) [pairL key v]) := one_at w5 (pairL key v) _
          refine ⟨CellsAre.keep HS3.out G6.out, ?_⟩
          refine wpAnyM_one (i := 7) rfl (by kernel_rfl) rfl ?_
          go_wp2_with fail
          refine (HPU.out _ _ _ (HG3.out.trans G6.out) HM6.out).mono ?_
          rintro e w7 ⟨u, rfl, ho, g7⟩
          have G7 : Hid (Grows w3 w7) := G6.out.trans g7
          have HO7 : Hid (OwnL w7 w3.heap.size u R) := OwnL.less ho G6.out.size
          clear g7 ho
          go_wp2_with fail
          refine ⟨CellsAre.keep HS3.out G7.out, ?_⟩
          refine wpAnyM_one (i := 8) rfl (by kernel_rfl) rfl ?_
          go_wp2_with fail
          refine (HCK.out _ _ _ HO7.out).mono ?_
          rintro e w8 ⟨u, rfl, ho, g8⟩
          have G8 : Hid (Grows w3 w8) := G7.out.trans g8
          have HO8 := Lib.hid ho
          obtain ⟨A5, n5, c5, hv5⟩ := ho.form3
          subst hv5
          clear g8 ho
          go_wp2_with fail
          refine ⟨CellsAre.keep HS3.out G8.out, ?_⟩
          have hS := CellsAre.keep HS3.out G8.out
          refine wpAnyM_take (i := 9) (v := ?vcAc9) hB rfl (by kernel_rfl) (fun _ _ _ h => h) (by rfl) ?ycAc9 hS ?ncAc9
          case ycAc9 => (intro w9 hSw; obtain ⟨s1, s2, s3, s4, s5, s6, s7, _⟩ := hSw; go_simp; try with_reducible rfl)
          refine wpAnyM_take (i := 10) (v := ?vcAc10) hB rfl (by kernel_rfl) (fun _ _ _ h => h) (by rfl) ?ycAc10 hS ?ncAc10
          case ycAc10 => (intro w9 hSw; obtain ⟨s1, s2, s3, s4, s5, s6, s7, _⟩ := hSw; go_simp; try with_reducible rfl)
          refine wpAnyM_tail (by kernel_rfl) ?_
          clear hS hB HS3
          have HG08 : Hid (Grows ((w.alloc (fbox A n c)).alloc (fbox none 0 0)) w8) := HG03.out.trans G8.out
          have h1 : w8.cell? ⟨w.heap.size + 1, 0, none⟩ = some (.slice none 0 0) := (HG08.out.cell (p := ⟨w.heap.size + 1, 0, none⟩) (by simp)).trans (by simp [fbox])
          have h2 : w8.frozen? ⟨w.heap.size + 1, 0, none⟩ = false := (HG08.out.frozen (p := ⟨w.heap.size + 1, 0, none⟩) (by simp)).trans (by simp [fbox])
          have hs1 : w.heap.size + 1 < w3.heap.size := Nat.lt_of_lt_of_le (by simp) HG03.out.size
          go_wp2
          refine bodyPost_ret (v := .tuple #[.agg #[.slice A5 n5 c5], .bool β]) (by simp [results, Tryd.results23, go_sem, h1]) rfl ?_
          rw [HV.out, HB.out]
          exact ⟨_, rfl, (HO8.out.setOther hs1 _).less HG3.out.size, (HG3.out.trans G8.out).setCell (by simp) _⟩
        case waycB =>
          go_wp2_with fail
          have G4 : Hid (Grows w3 (w3.drew.alloc (.cells #[.int .i64 3, .string ⟨#[]⟩, .string key, .string newSep, .string v, .string ⟨#[]⟩] 60))) := (by repeat (first | exact Grows.refl _ | refine Grows.alloc ?_ _ | refine Grows.drew ?_))
          have HM4 : Hid (LnsAt (w3.drew.alloc (.cells #[.int .i64 3, .string ⟨#[]⟩, .string key, .string newSep, .string v, .string ⟨#[]⟩] 60)) (some ⟨w3.heap.size, 0, none⟩) [pairL key v]) := one_at w3.drew (pairL key v) _
          refine ⟨CellsAre.keep HS3.out G4.out, ?_⟩
          refine wpAnyM_one (i := 4) rfl (by kernel_rfl) rfl ?_
          go_wp2_with fail
          refine (HEN.out _ (HG3.out.trans G4.out)).mono ?_
          rintro e w6 ⟨rfl, g6⟩
          have G6 : Hid (Grows w3 w6) := G4.out.trans g6
          have HM6 := Lib.hid (HM4.out.keep g6)
          clear g6 HM4
          go_wp2_with fail
          refine ⟨CellsAre.keep HS3.out G6.out, ?_⟩
          refine wpAnyM_one (i := 7) rfl (by kernel_rfl) rfl ?_
          go_wp2_with fail
          refine (HPU.out _ _ _ (HG3.out.trans G6.out) HM6.out).mono ?_
          rintro e w7 ⟨u, rfl, ho, g7⟩
          have G7 : Hid (Grows w3 w7) := G6.out.trans g7
          have HO7 : Hid (OwnL w7 w3.heap.size u R) := OwnL.less ho G6.out.size
          clear g7 ho
          go_wp2_with fail
          refine ⟨CellsAre.keep HS3.out G7.out, ?_⟩
          refine wpAnyM_one (i := 8) rfl (by kernel_rfl) rfl ?_
          go_wp2_with fail
          refine (HCK.out _ _ _ HO7.out).mono ?_
          rintro e w8 ⟨u, rfl, ho, g8⟩
          have G8 : Hid (Grows w3 w8) := G7.out.trans g8
          have HO8 := Lib.hid ho
          obtain ⟨A5, n5, c5, hv5⟩ := ho.form3
          subst hv5
          clear g8 ho
          go_wp2_with fail
          refine ⟨CellsAre.keep HS3.out G8.out, ?_⟩
          have hS := CellsAre.keep HS3.out G8.out
          refine wpAnyM_take (i := 9) (v := ?vcBc9) hB rfl (by kernel_rfl) (fun _ _ _ h => h) (by rfl) ?ycBc9 hS ?ncBc9
          case ycBc9 => (intro w9 hSw; obtain ⟨s1, s2, s3, s4, s5, s6, s7, _⟩ := hSw; go_simp; try with_reducible rfl)
          refine wpAnyM_take (i := 10) (v := ?vcBc10) hB rfl (by kernel_rfl) (fun _ _ _ h => h) (by rfl) ?ycBc10 hS ?ncBc10
          case ycBc10 => (intro w9 hSw; obtain ⟨s1, s2, s3, s4, s5, s6, s7, _⟩ := hSw; go_simp; try with_reducible rfl)
          refine wpAnyM_tail (by kernel_rfl) ?_
          clear hS hB HS3
          have HG08 : Hid (Grows ((w.alloc (fbox A n c)).alloc (fbox none 0 0)) w8) := HG03.out.trans G8.out
          have h1 : w8.cell? ⟨w.heap.size + 1, 0, none⟩ = some (.slice none 0 0) := (HG08.out.cell (p := ⟨w.heap.size + 1, 0, none⟩) (by simp)).trans (by simp [fbox])
          have h2 : w8.frozen? ⟨w.heap.size + 1, 0, none⟩ = false := (HG08.out.frozen (p := ⟨w.heap.size + 1, 0, none⟩) (by simp)).trans (by simp [fbox])
          have hs1 : w.heap.size + 1 < w3.heap.size := Nat.lt_of_lt_of_le (by simp) HG03.out.size
          go_wp2
          refine bodyPost_ret (v := .tuple #[.agg #[.slice A5 n5 c5], .bool β]) (by simp [results, Tryd.results23, go_sem, h1]) rfl ?_
          rw [HV.out, HB.out]
          exact ⟨_, rfl, (HO8.out.setOther hs1 _).less HG3.out.size, (HG3.out.trans G8.out).setCell (by simp) _⟩
      · obtain ⟨H, hH⟩ : ∃ H, headsOf' ls s = H := ⟨_, rfl⟩
        rw [hH] at HH
        have hhl : H.length ≠ 0 := by
          intro h
          have h9 : H = [] := List.eq_nil_of_length_eq_zero h
          exact hc ⟨by simpa using he, hH.trans h9⟩
        have he3 : s.toList.isEmpty = false := by simpa using he
        have he2 : ¬ s.toList = [] := by intro h; rw [h] at he; simp at he
        clear hH he
        clear hz h0 h00 hq hwl hA hf e0 hm1 hm2 hE hc
        obtain ⟨R, hR⟩ : ∃ R, putL ls E [pairL key v] = R := ⟨_, rfl⟩
        rw [hR] at HFR HPU HV HB hRl
        clear hR
        have HCK := Lib.hid (fun (v : Value) (b : Nat) w1 (h : OwnL w1 b v R) => validLines_all v b R w1 HFR.out h hRl)
        unfold RetL at HPU
        unfold ChkRet at HCK
        unfold ValsRet at HH
        obtain ⟨n, hnn⟩ : ∃ n, ls.length = n := ⟨_, rfl⟩
        rw [hnn] at HW HPU HH HEN hn hel ⊢
        obtain ⟨β, hβ⟩ : ∃ β, vfile R = β := ⟨_, rfl⟩
        rw [hβ] at HCK HB
        clear hnn hβ hRl
        obtain ⟨hl, hhl2⟩ : ∃ hl, H.length = hl := ⟨_, rfl⟩
        have hx0 : ¬ hl = 0 := fun h => hhl (hhl2.trans h)
        go_enter Tryd.func23, Tryd.ntmps23
        go_wp2_with fail
        refine (HW.out _ (((Grows.refl _).alloc _).alloc _)).mono ?_
        rintro e w1 ⟨rfl, g1⟩
        have HG01 : Hid (Grows ((w.alloc (fbox A n c)).alloc (fbox none 0 0)) w1) := g1
        have HG1 : Hid (Grows w w1) := (((Grows.refl _).alloc _).alloc _).trans g1
        have hb1 : w1.cell? ⟨w.heap.size, 0, none⟩ = some (.slice A n c) := (HG01.out.cell (p := ⟨w.heap.size, 0, none⟩) (by simp; omega)).trans (by simp [fbox])
        clear g1
        go_wp2_with fail
        refine (line3_g key v _).mono ?_
        rintro e w2 ⟨rfl, g2⟩
        have HG02 : Hid (Grows ((w.alloc (fbox A n c)).alloc (fbox none 0 0)) w2) := HG01.out.trans g2
        have HG2 : Hid (Grows w w2) := HG1.out.trans g2
        clear g2 hb1
        have HG20 : Hid (Grows w (w2.alloc (.cells #[.int .i64 3, .string ⟨#[]⟩, .string key, .string newSep, .string v, .string ⟨#[]⟩] 60))) := HG2.out.alloc _
        have HG020 : Hid (Grows ((w.alloc (fbox A n c)).alloc (fbox none 0 0)) (w2.alloc (.cells #[.int .i64 3, .string ⟨#[]⟩, .string key, .string newSep, .string v, .string ⟨#[]⟩] 60))) := HG02.out.alloc _
        have hs20 : w.heap.size + 1 < w2.heap.size := Nat.lt_of_lt_of_le (by simp) HG02.out.size
        have hs21 : w.heap.size < w2.heap.size := by omega
        have hb2 : w2.cell? ⟨w.heap.size, 0, none⟩ = some (.slice A n c) := (HG02.out.cell (p := ⟨w.heap.size, 0, none⟩) (by simp; omega)).trans (by simp [fbox])
        go_wp2_with fail
        refine (HH.out _ HG20.out).mono ?_
        rintro e w3 ⟨A1, c1, rfl, hv1, g3, hcp⟩
        have HG3 : Hid (Grows w w3) := HG20.out.trans g3
        have HG03 : Hid (Grows ((w.alloc (fbox A n c)).alloc (fbox none 0 0)) w3) := HG020.out.trans g3
        have HPC : Hid (∀ (d : Nat) (u : Value), (#[.int .i64 3, .string ⟨#[]⟩, .string key, .string newSep, .string v, .string ⟨#[]⟩] : Array Value)[d]? = some u → w3.cell? ⟨w2.heap.size, d, none⟩ = some u) := fun d u h => (g3.cell (p := ⟨w2.heap.size, d, none⟩) (by simp)).trans ((cell_of_row (w2.alloc (.cells #[.int .i64 3, .string ⟨#[]⟩, .string key, .string newSep, .string v, .string ⟨#[]⟩] 60)) w2.heap.size d _ _ _ (heap_alloc_new w2 _)).trans h)
        have hb3 : w3.cell? ⟨w.heap.size, 0, none⟩ = some (.slice A n c) := (HG03.out.cell (p := ⟨w.heap.size, 0, none⟩) (by simp; omega)).trans (by simp [fbox])
        obtain ⟨g, hg⟩ : ∃ g, w2.heap.size = g := ⟨_, rfl⟩
        rw [hg] at HPC
        have p0 := HPC.out 0 _ rfl
        have p1 := HPC.out 1 _ rfl
        have p2 := HPC.out 2 _ rfl
        have p3 := HPC.out 3 _ rfl
        have p4 := HPC.out 4 _ rfl
        have p5 := HPC.out 5 _ rfl
        clear g3 hb2 hv1
        rw [ints_length, hhl2]
        go_wp2_with fail
        refine wp_region_M 11 (CellsAre [(⟨w.heap.size, 0, none⟩, .slice A n c), (⟨g, 0, none⟩, .int .i64 3), (⟨g, 1, none⟩, .string ⟨#[]⟩), (⟨g, 2, none⟩, .string key), (⟨g, 3, none⟩, .string newSep), (⟨g, 4, none⟩, .string v), (⟨g, 5, none⟩, .string ⟨#[]⟩)]) (by kernel_rfl) (by kernel_rfl) ⟨hb3, p0, p1, p2, p3, p4, p5, trivial⟩ (fun hB hS => ?_)
        refine wpAnyM_take (i := 0) (v := ?vda0) hB rfl (by kernel_rfl) (fun _ _ _ h => h) (by rfl) ?yda0 hS ?nda0
        case yda0 => (intro w9 hSw; obtain ⟨s1, s2, s3, s4, s5, s6, s7, _⟩ := hSw; go_simp; try with_reducible rfl)
        refine wpAnyM_take (i := 1) (v := ?vda1) hB rfl (by kernel_rfl) (fun _ _ _ h => h) (by rfl) ?yda1 hS ?nda1
        case yda1 => (intro w9 hSw; obtain ⟨s1, s2, s3, s4, s5, s6, s7, _⟩ := hSw; go_simp; try with_reducible rfl)
        refine wpAnyM_take (i := 2) (v := ?vda2) hB rfl (by kernel_rfl) (fun _ _ _ h => h) (by rfl) ?yda2 hS ?nda2
        case yda2 => (intro w9 hSw; obtain ⟨s1, s2, s3, s4, s5, s6, s7, _⟩ := hSw; go_simp; try with_reducible rfl)
        refine wpAnyM_take (i := 3) (v := ?vda3) hB rfl (by kernel_rfl) (fun _ _ _ h => h) (by rfl) ?yda3 hS ?nda3
        case yda3 => (intro w9 hSw; obtain ⟨s1, s2, s3, s4, s5, s6, s7, _⟩ := hSw; go_simp; try with_reducible rfl)
        refine wpAnyM_take (i := 5) (v := ?vda5) hB rfl (by kernel_rfl) (fun _ _ _ h => h) (by rfl) ?yda5 hS ?nda5
        case yda5 => (intro w9 hSw; obtain ⟨s1, s2, s3, s4, s5, s6, s7, _⟩ := hSw; go_simp; try with_reducible rfl)
        have HS3 : Hid (CellsAre [(⟨w.heap.size, 0, none⟩, .slice A n c), (⟨g, 0, none⟩, .int .i64 3), (⟨g, 1, none⟩, .string ⟨#[]⟩), (⟨g, 2, none⟩, .string key), (⟨g, 3, none⟩, .string newSep), (⟨g, 4, none⟩, .string v), (⟨g, 5, none⟩, .string ⟨#[]⟩)] w3) := hS
        clear hS hb3 p0 p1 p2 p3 p4 p5
        refine wpAnyM_two (i := 4) (j := 6) rfl rfl (by kernel_rfl) rfl rfl ?waydA ?waydB
        case waydA =>
          go_wp2_with fail
          refine (HEN.out _ HG3.out.drew).mono ?_
          rintro e w5 ⟨rfl, g5⟩
          have G5 : Hid (Grows w3 w5) := (Grows.refl _).drew.trans g5
          clear g5
          go_wp2_with fail
          refine ⟨CellsAre.keep HS3.out G5.out, ?_⟩
          refine wpAnyM_one (i := 6) rfl (by kernel_rfl) rfl ?_
          go_wp2_with fail
          have G6 : Hid (Grows w3 (w5.alloc (.cells #[.int .i64 3, .string ⟨#[]⟩, .string key, .string newSep, .string v, .string ⟨#[]⟩] 60))) := G5.out.alloc _
          have HM6 : Hid (LnsAt (w5.alloc (.cells #[.int .i64 3, .string ⟨#[]⟩, .string key, .string newSep, .string v, .string ⟨#[]⟩] 60)) (some ⟨w5.heap.size, 0, none⟩) [pairL key v]) := one_at w5 (pairL key v) _
          refine ⟨CellsAre.keep HS3.out G6.out, ?_⟩
          refine wpAnyM_one (i := 7) rfl (by kernel_rfl) rfl ?_
          go_wp2_with fail
          refine (HPU.out _ _ _ (HG3.out.trans G6.out) HM6.out).mono ?_
          rintro e w7 ⟨u, rfl, ho, g7⟩
          have G7 : Hid (Grows w3 w7) := G6.out.trans g7
          have HO7 : Hid (OwnL w7 w3.heap.size u R) := OwnL.less ho G6.out.size
          clear g7 ho
          go_wp2_with fail
          refine ⟨CellsAre.keep HS3.out G7.out, ?_⟩
          refine wpAnyM_one (i := 8) rfl (by kernel_rfl) rfl ?_
          go_wp2_with fail
          refine (HCK.out _ _ _ HO7.out).mono ?_
          rintro e w8 ⟨u, rfl, ho, g8⟩
          have G8 : Hid (Grows w3 w8) := G7.out.trans g8
          have HO8 := Lib.hid ho
          obtain ⟨A5, n5, c5, hv5⟩ := ho.form3
          subst hv5
          clear g8 ho
          go_wp2_with fail
          refine ⟨CellsAre.keep HS3.out G8.out, ?_⟩
          have hS := CellsAre.keep HS3.out G8.out
          refine wpAnyM_take (i := 9) (v := ?vdAc9) hB rfl (by kernel_rfl) (fun _ _ _ h => h) (by rfl) ?ydAc9 hS ?ndAc9
          case ydAc9 => (intro w9 hSw; obtain ⟨s1, s2, s3, s4, s5, s6, s7, _⟩ := hSw; go_simp; try with_reducible rfl)
          refine wpAnyM_take (i := 10) (v := ?vdAc10) hB rfl (by kernel_rfl) (fun _ _ _ h => h) (by rfl) ?ydAc10 hS ?ndAc10
          case ydAc10 => (intro w9 hSw; obtain ⟨s1, s2, s3, s4, s5, s6, s7, _⟩ := hSw; go_simp; try with_reducible rfl)
          refine wpAnyM_tail (by kernel_rfl) ?_
          clear hS hB HS3
          have HG08 : Hid (Grows ((w.alloc (fbox A n c)).alloc (fbox none 0 0)) w8) := HG03.out.trans G8.out
          have h1 : w8.cell? ⟨w.heap.size + 1, 0, none⟩ = some (.slice none 0 0) := (HG08.out.cell (p := ⟨w.heap.size + 1, 0, none⟩) (by simp)).trans (by simp [fbox])
          have h2 : w8.frozen? ⟨w.heap.size + 1, 0, none⟩ = false := (HG08.out.frozen (p := ⟨w.heap.size + 1, 0, none⟩) (by simp)).trans (by simp [fbox])
          have hs1 : w.heap.size + 1 < w3.heap.size := Nat.lt_of_lt_of_le (by simp) HG03.out.size
          go_wp2
          refine bodyPost_ret (v := .tuple #[.agg #[.slice A5 n5 c5], .bool β]) (by simp [results, Tryd.results23, go_sem, h1]) rfl ?_
          rw [HV.out, HB.out]
          exact ⟨_, rfl, (HO8.out.setOther hs1 _).less HG3.out.size, (HG3.out.trans G8.out).setCell (by simp) _⟩
        case waydB =>
          go_wp2_with fail
          have G4 : Hid (Grows w3 (w3.drew.alloc (.cells #[.int .i64 3, .string ⟨#[]⟩, .string key, .string newSep, .string v, .string ⟨#[]⟩] 60))) := (by repeat (first | exact Grows.refl _ | refine Grows.alloc ?_ _ | refine Grows.drew ?_))
          have HM4 : Hid (LnsAt (w3.drew.alloc (.cells #[.int .i64 3, .string ⟨#[]⟩, .string key, .string newSep, .string v, .string ⟨#[]⟩] 60)) (some ⟨w3.heap.size, 0, none⟩) [pairL key v]) := one_at w3.drew (pairL key v) _
          refine ⟨CellsAre.keep HS3.out G4.out, ?_⟩
          refine wpAnyM_one (i := 4) rfl (by kernel_rfl) rfl ?_
          go_wp2_with fail
          refine (HEN.out _ (HG3.out.trans G4.out)).mono ?_
          rintro e w6 ⟨rfl, g6⟩
          have G6 : Hid (Grows w3 w6) := G4.out.trans g6
          have HM6 := Lib.hid (HM4.out.keep g6)
          clear g6 HM4
          go_wp2_with fail
          refine ⟨CellsAre.keep HS3.out G6.out, ?_⟩
          refine wpAnyM_one (i := 7) rfl (by kernel_rfl) rfl ?_
          go_wp2_with fail
          refine (HPU.out _ _ _ (HG3.out.trans G6.out) HM6.out).mono ?_
          rintro e w7 ⟨u, rfl, ho, g7⟩
          have G7 : Hid (Grows w3 w7) := G6.out.trans g7
          have HO7 : Hid (OwnL w7 w3.heap.size u R) := OwnL.less ho G6.out.size
          clear g7 ho
          go_wp2_with fail
          refine ⟨CellsAre.keep HS3.out G7.out, ?_⟩
          refine wpAnyM_one (i := 8) rfl (by kernel_rfl) rfl ?_
          go_wp2_with fail
          refine (HCK.out _ _ _ HO7.out).mono ?_
          rintro e w8 ⟨u, rfl, ho, g8⟩
          have G8 : Hid (Grows w3 w8) := G7.out.trans g8
          have HO8 := Lib.hid ho
          obtain ⟨A5, n5, c5, hv5⟩ := ho.form3
          subst hv5
          clear g8 ho
          go_wp2_with fail
          refine ⟨CellsAre.keep HS3.out G8.out, ?_⟩
          have hS := CellsAre.keep HS3.out G8.out
          refine wpAnyM_take (i := 9) (v := ?vdBc9) hB rfl (by kernel_rfl) (fun _ _ _ h => h) (by rfl) ?ydBc9 hS ?ndBc9
          case ydBc9 => (intro w9 hSw; obtain ⟨s1, s2, s3, s4, s5, s6, s7, _⟩ := hSw; go_simp; try with_reducible rfl)
          refine wpAnyM_take (i := 10) (v := ?vdBc10) hB rfl (by kernel_rfl) (fun _ _ _ h => h) (by rfl) ?ydBc10 hS ?ndBc10
          case ydBc10 => (intro w9 hSw; obtain ⟨s1, s2, s3, s4, s5, s6, s7, _⟩ := hSw; go_simp; try with_reducible rfl)
          refine wpAnyM_tail (by kernel_rfl) ?_
          clear hS hB HS3
          have HG08 : Hid (Grows ((w.alloc (fbox A n c)).alloc (fbox none 0 0)) w8) := HG03.out.trans G8.out
          have h1 : w8.cell? ⟨w.heap.size + 1, 0, none⟩ = some (.slice none 0 0) := (HG08.out.cell (p := ⟨w.heap.size + 1, 0, none⟩) (by simp)).trans (by simp [fbox])
          have h2 : w8.frozen? ⟨w.heap.size + 1, 0, none⟩ = false := (HG08.out.frozen (p := ⟨w.heap.size + 1, 0, none⟩) (by simp)).trans (by simp [fbox])
          have hs1 : w.heap.size + 1 < w3.heap.size := Nat.lt_of_lt_of_le (by simp) HG03.out.size
          go_wp2
          refine bodyPost_ret (v := .tuple #[.agg #[.slice A5 n5 c5], .bool β]) (by simp [results, Tryd.results23, go_sem, h1]) rfl ?_
          rw [HV.out, HB.out]
          exact ⟨_, rfl, (HO8.out.setOther hs1 _).less HG3.out.size, (HG3.out.trans G8.out).setCell (by simp) _⟩

theorem implSet_any (A : Option Addr) (ls : List Ln) (s key v : ByteArray) (w : World) (hf : AllFit ls) (hs : s.size ≤ 1048576) (hk : key.size ≤ 1048576) (hv : v.size ≤ 1048576) (hA : LnsAt w A ls) :
    Calls Tryd.prog 23 #[.agg #[.slice A ls.length ls.length], .string s, .string key, .string v] w (ResLB (setL ls s key v) (setB ls s key v) w) :=
  implSetC_any A ls.length ls s key v w hf hs hk hv (Nat.le_refl _) (fun h => absurd h (Nat.lt_irrefl _)) hA
end Go.Proofs.YtclopcbpelhiaaaDoor
