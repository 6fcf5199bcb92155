/-
  When two files tell the same: tellsAll and SameMeaning of the program. Conditions: at most 1048576 bytes in all, of either file.
-/
import Derived.Test.YtclopcbpelhiaaaMeanP
import Derived.Test.YtclopcbpelhiaaaLay
namespace Go.Proofs.Ytclopcbpelhiaaa
open Go.RowKit

theorem tellsK_take {f g : List Ln} {s : ByteArray} {ks : List ByteArray} {k : Nat} (hk : k < ks.length) : tellsK f g s (ks.take (k + 1)) = (tellsK f g s (ks.take k) && tells1 f g s ks[k]) := by
  unfold tellsK
  rw [List.take_succ_eq_append_getElem hk, List.all_append]
  simp
theorem tellsK_not {f g : List Ln} {s : ByteArray} {ks : List ByteArray} {k : Nat} (hk : k < ks.length) (h : tells1 f g s ks[k] = false) : tellsK f g s ks = false := by
  unfold tellsK
  rw [List.all_eq_false]
  exact ⟨_, List.getElem_mem hk, by rw [h]; simp⟩
theorem tellsS_take {f g : List Ln} {ss : List ByteArray} {k : Nat} (hk : k < ss.length) : tellsS f g (ss.take (k + 1)) = (tellsS f g (ss.take k) && tellsK f g ss[k] (keysOf' g ss[k])) := by
  unfold tellsS
  rw [List.take_succ_eq_append_getElem hk, List.all_append]
  simp
theorem tellsS_not {f g : List Ln} {ss : List ByteArray} {k : Nat} (hk : k < ss.length) (h : tellsK f g ss[k] (keysOf' g ss[k]) = false) : tellsS f g ss = false := by
  unfold tellsS
  rw [List.all_eq_false]
  exact ⟨_, List.getElem_mem hk, by rw [h]; simp⟩

set_option maxRecDepth 100000 in
set_option maxHeartbeats 4000000 in
theorem tellsAll_any (A : Option Addr) (c : Nat) (ls : List Ln) (B : Option Addr) (d : Nat) (gs : List Ln) (w : World) (hf : AllFit ls) (hg : AllFit gs) (hA : LnsAt w A ls) (hB : LnsAt w B gs) :
    Calls Try.prog 47 #[.agg #[.slice A ls.length c], .agg #[.slice B gs.length d]] w fun e w' => e = .returned (.bool (tellsB ls gs)) ∧ Grows w w' := by
  have HSE := Lib.hid (fun w1 (g : Grows w w1) => implSecs_any B d gs w1 hg (hB.keep g))
  have HKE := Lib.hid (fun s w1 (g : Grows w w1) => implKeys_any B d gs s w1 hg (hB.keep g))
  have HGE := Lib.hid (fun s key w1 (g : Grows w w1) => implGet_any B d gs s key w1 hg (hB.keep g))
  have HFE := Lib.hid (fun s key w1 (g : Grows w w1) => implGet_any A c ls s key w1 hf (hA.keep g))
  have hss := secs_20 gs
  have HT : Hid (tellsB ls gs = tellsS ls gs (secsOf' gs)) := rfl
  clear hA hB hf hg
  unfold StrsRet at HSE HKE
  obtain ⟨ss, hsx⟩ : ∃ ss, secsOf' gs = ss := ⟨_, rfl⟩
  rw [hsx] at HSE HT hss
  clear hsx
  obtain ⟨n, hnn⟩ : ∃ n, ls.length = n := ⟨_, rfl⟩
  rw [hnn] at HFE
  rw [hnn]
  clear hnn
  obtain ⟨m, hmm⟩ : ∃ m, gs.length = m := ⟨_, rfl⟩
  rw [hmm] at HSE HKE HGE
  rw [hmm]
  clear hmm
  go_enter Try.func47, Try.ntmps47
  go_wp2_with fail
  refine (HSE.out _ (((Grows.refl _).alloc _).alloc _)).mono ?_
  rintro e w1 ⟨sv, rfl, hsv, g1⟩
  have HG0 : Hid (Grows ((w.alloc (fbox A n c)).alloc (fbox B m d)) w1) := g1
  have HG1 : Hid (Grows w w1) := (((Grows.refl _).alloc _).alloc _).trans g1
  obtain ⟨C, cC, rfl, hC⟩ := hsv.form
  have HC := Lib.hid hC
  obtain ⟨p, hp⟩ : ∃ p, ss.length = p := ⟨_, rfl⟩
  rw [hp] at hss ⊢
  have HP := Lib.hid hp
  clear g1 hsv hC hp
  go_wp2_with fail
  go_loopw [16] (fun i wr => ∃ (j : Nat), j ≤ p ∧ i = .int .i64 j ∧ Hid (tellsS ls gs (ss.take j) = true) ∧ Hid (Grows w1 wr)) (fun i _ => p - (intOf i).toNat)
  case atStart => exact ⟨0, Nat.zero_le _, rfl, rfl, Grows.refl _⟩
  case round =>
    obtain ⟨j, hj, rfl, HK, HG⟩ := hrel
    have hb1 : wr.cell? ⟨w.heap.size + 1, 0, none⟩ = some (.slice B m d) := ((HG0.out.trans HG.out).cell (p := ⟨w.heap.size + 1, 0, none⟩) (by simp)).trans (by simp [fbox])
    by_cases hlt : j < p
    · have hjs : j < ss.length := by rw [HP.out]; exact hlt
      obtain ⟨gb, rfl, _, hgb, hcs, _⟩ := HC.out (by rw [HP.out]; omega)
      have c0 := hcs j hjs
      have HTS := Lib.hid (tellsS_take (f := ls) (g := gs) hjs)
      have HTN := Lib.hid (fun h => tellsS_not (f := ls) (g := gs) hjs h)
      obtain ⟨s, hs⟩ : ∃ s, ss[j] = s := ⟨_, rfl⟩
      rw [hs] at c0 HTS HTN
      have c1 : wr.cell? ⟨gb, j, none⟩ = some (.string s) := (HG.out.cell (p := ⟨gb, j, none⟩) hgb).trans c0
      have HKS := Lib.hid (HKE.out s)
      have HGS := Lib.hid (HGE.out s)
      have HFS := Lib.hid (HFE.out s)
      have hk20 := keys_20 gs s
      obtain ⟨ks, hks⟩ : ∃ ks, keysOf' gs s = ks := ⟨_, rfl⟩
      rw [hks] at HTS HTN HKS hk20
      clear hcs c0 hs hks
      go_wp2_with fail
      refine (HKS.out _ (HG1.out.trans HG.out)).mono ?_
      rintro e w3 ⟨kv, rfl, hkv, g3⟩
      obtain ⟨D, cD, rfl, hD⟩ := hkv.form
      have HD := Lib.hid hD
      have HG3 : Hid (Grows w1 w3) := HG.out.trans g3
      obtain ⟨q, hq⟩ : ∃ q, ks.length = q := ⟨_, rfl⟩
      rw [hq] at hk20 ⊢
      have HQ := Lib.hid hq
      clear g3 hkv hq hD hb1 c1
      go_wp2_with fail
      go_loopw [24] (fun i wx => ∃ (k : Nat), k ≤ q ∧ i = .int .i64 k ∧ Hid (tellsK ls gs s (ks.take k) = true) ∧ Hid (Grows w3 wx)) (fun i _ => q - (intOf i).toNat)
      case atStart => exact ⟨0, Nat.zero_le _, rfl, rfl, Grows.refl _⟩
      case round =>
        obtain ⟨k, hk, rfl, HM, HGx⟩ := hrel
        have hb0 : wr.cell? ⟨w.heap.size, 0, none⟩ = some (.slice A n c) := ((HG0.out.trans (HG3.out.trans HGx.out)).cell (p := ⟨w.heap.size, 0, none⟩) (by simp; omega)).trans (by simp [fbox])
        have hb1 : wr.cell? ⟨w.heap.size + 1, 0, none⟩ = some (.slice B m d) := ((HG0.out.trans (HG3.out.trans HGx.out)).cell (p := ⟨w.heap.size + 1, 0, none⟩) (by simp)).trans (by simp [fbox])
        by_cases hlk : k < q
        · have hks : k < ks.length := by rw [HQ.out]; exact hlk
          obtain ⟨gc, rfl, _, hgc, hcc, _⟩ := HD.out (by rw [HQ.out]; omega)
          have d0 := hcc k hks
          have HKT := Lib.hid (tellsK_take (f := ls) (g := gs) (s := s) hks)
          have HKN := Lib.hid (fun h => tellsK_not (f := ls) (g := gs) (s := s) hks h)
          obtain ⟨x, hx⟩ : ∃ x, ks[k] = x := ⟨_, rfl⟩
          rw [hx] at d0 HKT HKN
          have d1 : wr.cell? ⟨gc, k, none⟩ = some (.string x) := (HGx.out.cell (p := ⟨gc, k, none⟩) hgc).trans d0
          have HVX := Lib.hid (HGS.out x)
          have HWX := Lib.hid (HFS.out x)
          have HT1 : Hid (tells1 ls gs s x = (getB ls s x && ((getV ls s x).toList == (getV gs s x).toList))) := rfl
          obtain ⟨y, hy⟩ : ∃ y, getV gs s x = y := ⟨_, rfl⟩
          obtain ⟨z, hz⟩ : ∃ z, getV ls s x = z := ⟨_, rfl⟩
          rw [hy] at HVX HT1
          rw [hz] at HWX HT1
          by_cases hb : getB ls s x = true
          · rw [hb] at HWX HT1
            by_cases he : (z.toList == y.toList) = true
            · have HY : Hid (tellsK ls gs s (ks.take (k + 1)) = true) := by
                unfold Hid; rw [HKT.out, HM.out, HT1.out, he]; rfl
              clear hb hz hy hx hcc d0
              go_wp2_with fail
              refine (HVX.out _ (HG1.out.trans (HG3.out.trans HGx.out))).mono ?_
              rintro e w4 ⟨rfl, g4⟩
              have HG4 : Hid (Grows w3 w4) := HGx.out.trans g4
              have hb4 : w4.cell? ⟨w.heap.size, 0, none⟩ = some (.slice A n c) := ((HG0.out.trans (HG3.out.trans HG4.out)).cell (p := ⟨w.heap.size, 0, none⟩) (by simp; omega)).trans (by simp [fbox])
              clear g4 hb0 hb1 d1
              go_wp2_with fail
              refine (HWX.out _ (HG1.out.trans (HG3.out.trans HG4.out))).mono ?_
              rintro e w5 ⟨rfl, g5⟩
              have HG5 : Hid (Grows w3 w5) := HG4.out.trans g5
              clear g5 hb4
              go_wp2
              go_roundw
              case rel => exact ⟨k + 1, by omega, by go_num, HY.out, HG5.out⟩
              case measure => simp [intOf]; omega
            · have he' : (z.toList == y.toList) = false := by simpa using he
              have HV : Hid (tellsB ls gs = false) := by
                unfold Hid; rw [HT.out]
                exact HTN.out (HKN.out (by rw [HT1.out, he']; rfl))
              clear hb hz hy hx hcc d0 he
              go_wp2_with fail
              refine (HVX.out _ (HG1.out.trans (HG3.out.trans HGx.out))).mono ?_
              rintro e w4 ⟨rfl, g4⟩
              have HG4 : Hid (Grows w3 w4) := HGx.out.trans g4
              have hb4 : w4.cell? ⟨w.heap.size, 0, none⟩ = some (.slice A n c) := ((HG0.out.trans (HG3.out.trans HG4.out)).cell (p := ⟨w.heap.size, 0, none⟩) (by simp; omega)).trans (by simp [fbox])
              clear g4 hb0 hb1 d1
              go_wp2_with fail
              refine (HWX.out _ (HG1.out.trans (HG3.out.trans HG4.out))).mono ?_
              rintro e w5 ⟨rfl, g5⟩
              have HG5 : Hid (Grows w w5) := HG1.out.trans (HG3.out.trans (HG4.out.trans g5))
              clear g5 hb4
              go_wp2
              go_ret
              exact ⟨ret_bool HV.out.symm, HG5.out⟩
          · have hb' : getB ls s x = false := by simpa using hb
            rw [hb'] at HWX HT1
            have HV : Hid (tellsB ls gs = false) := by
              unfold Hid; rw [HT.out]
              exact HTN.out (HKN.out (by rw [HT1.out]; rfl))
            clear hb hb' hz hy hx hcc d0
            go_wp2_with fail
            refine (HVX.out _ (HG1.out.trans (HG3.out.trans HGx.out))).mono ?_
            rintro e w4 ⟨rfl, g4⟩
            have HG4 : Hid (Grows w3 w4) := HGx.out.trans g4
            have hb4 : w4.cell? ⟨w.heap.size, 0, none⟩ = some (.slice A n c) := ((HG0.out.trans (HG3.out.trans HG4.out)).cell (p := ⟨w.heap.size, 0, none⟩) (by simp; omega)).trans (by simp [fbox])
            clear g4 hb0 hb1 d1
            go_wp2_with fail
            refine (HWX.out _ (HG1.out.trans (HG3.out.trans HG4.out))).mono ?_
            rintro e w5 ⟨rfl, g5⟩
            have HG5 : Hid (Grows w w5) := HG1.out.trans (HG3.out.trans (HG4.out.trans g5))
            clear g5 hb4
            go_wp2
            go_ret
            exact ⟨ret_bool HV.out.symm, HG5.out⟩
        · obtain rfl : k = q := by omega
          have HM3 : Hid (tellsS ls gs (ss.take (j + 1)) = true) := by
            unfold Hid
            rw [HTS.out, HK.out, Bool.true_and, ← HM.out, ← HQ.out, List.take_length]
          have HG9 : Hid (Grows w1 wr) := HG3.out.trans HGx.out
          go_wp2
          go_roundw
          case rel => exact ⟨j + 1, by omega, by go_num, HM3.out, HG9.out⟩
          case measure => simp [intOf]; omega
    · obtain rfl : j = p := by omega
      have HV : Hid (tellsB ls gs = true) := by
        unfold Hid; rw [HT.out, ← HK.out, ← HP.out, List.take_length]
      go_wp2
      go_ret
      exact ⟨ret_bool HV.out.symm, HG1.out.trans HG.out⟩

set_option maxRecDepth 100000 in
set_option maxHeartbeats 4000000 in
theorem implMean_any (A : Option Addr) (c : Nat) (ls : List Ln) (B : Option Addr) (d : Nat) (gs : List Ln) (w : World) (hf : AllFit ls) (hg : AllFit gs) (hA : LnsAt w A ls) (hB : LnsAt w B gs) :
    Calls Try.prog 15 #[.agg #[.slice A ls.length c], .agg #[.slice B gs.length d]] w fun e w' => e = .returned (.bool (vfile ls && (vfile gs && (tellsB ls gs && tellsB gs ls)))) ∧ Grows w w' := by
  have HF := Lib.hid (fun w1 (g : Grows w w1) => implFile_any A c ls w1 hf (hA.keep g))
  have HG := Lib.hid (fun w1 (g : Grows w w1) => implFile_any B d gs w1 hg (hB.keep g))
  have HT := Lib.hid (fun w1 (g : Grows w w1) => tellsAll_any A c ls B d gs w1 hf hg (hA.keep g) (hB.keep g))
  have HU := Lib.hid (fun w1 (g : Grows w w1) => tellsAll_any B d gs A c ls w1 hg hf (hB.keep g) (hA.keep g))
  have HR : Hid ((vfile ls && (vfile gs && (tellsB ls gs && tellsB gs ls))) = (vfile ls && (vfile gs && (tellsB ls gs && tellsB gs ls)))) := rfl
  clear hA hB hf hg
  obtain ⟨r, hr⟩ : ∃ r, (vfile ls && (vfile gs && (tellsB ls gs && tellsB gs ls))) = r := ⟨_, rfl⟩
  rw [hr]
  obtain ⟨a1, h1⟩ : ∃ a, vfile ls = a := ⟨_, rfl⟩
  obtain ⟨a2, h2⟩ : ∃ a, vfile gs = a := ⟨_, rfl⟩
  obtain ⟨a3, h3⟩ : ∃ a, tellsB ls gs = a := ⟨_, rfl⟩
  obtain ⟨a4, h4⟩ : ∃ a, tellsB gs ls = a := ⟨_, rfl⟩
  rw [h1, h2, h3, h4] at hr
  rw [h1] at HF
  rw [h2] at HG
  rw [h3] at HT
  rw [h4] at HU
  clear HR h1 h2 h3 h4
  obtain ⟨n, hnn⟩ : ∃ n, ls.length = n := ⟨_, rfl⟩
  obtain ⟨m, hmm⟩ : ∃ m, gs.length = m := ⟨_, rfl⟩
  rw [hnn] at HF HT HU
  rw [hmm] at HG HT HU
  rw [hnn, hmm]
  clear hnn hmm
  have HG0 : Hid (Grows ((w.alloc (fbox A n c)).alloc (fbox B m d)) ((w.alloc (fbox A n c)).alloc (fbox B m d))) := Grows.refl _
  have HZ : Hid (Grows w ((w.alloc (fbox A n c)).alloc (fbox B m d))) := ((Grows.refl _).alloc _).alloc _
  go_enter Try.func15, Try.ntmps15
  go_wp2_with fail
  refine (HF.out _ HZ.out).mono ?_
  rintro e w1 ⟨rfl, g1⟩
  have HG1 := Lib.hid g1
  have b0 : w1.cell? ⟨w.heap.size, 0, none⟩ = some (.slice A n c) := (HG1.out.cell (p := ⟨w.heap.size, 0, none⟩) (by simp; omega)).trans (by simp [fbox])
  have b1 : w1.cell? ⟨w.heap.size + 1, 0, none⟩ = some (.slice B m d) := (HG1.out.cell (p := ⟨w.heap.size + 1, 0, none⟩) (by simp)).trans (by simp [fbox])
  clear g1
  cases a1
  · have hr' : r = false := by rw [← hr]; rfl
    subst hr'
    clear hr
    go_wp2
    go_ret
    exact ⟨rfl, HZ.out.trans HG1.out⟩
  go_wp2_with fail
  refine (HG.out _ (HZ.out.trans HG1.out)).mono ?_
  rintro e w2 ⟨rfl, g2⟩
  have HG2 : Hid (Grows _ w2) := HG1.out.trans g2
  have b2 : w2.cell? ⟨w.heap.size, 0, none⟩ = some (.slice A n c) := (HG2.out.cell (p := ⟨w.heap.size, 0, none⟩) (by simp; omega)).trans (by simp [fbox])
  have b3 : w2.cell? ⟨w.heap.size + 1, 0, none⟩ = some (.slice B m d) := (HG2.out.cell (p := ⟨w.heap.size + 1, 0, none⟩) (by simp)).trans (by simp [fbox])
  clear g2 b0 b1
  cases a2
  · have hr' : r = false := by rw [← hr]; rfl
    subst hr'
    clear hr
    go_wp2
    go_ret
    exact ⟨rfl, HZ.out.trans HG2.out⟩
  go_wp2_with fail
  refine (HT.out _ (HZ.out.trans HG2.out)).mono ?_
  rintro e w3 ⟨rfl, g3⟩
  have HG3 : Hid (Grows _ w3) := HG2.out.trans g3
  have b4 : w3.cell? ⟨w.heap.size, 0, none⟩ = some (.slice A n c) := (HG3.out.cell (p := ⟨w.heap.size, 0, none⟩) (by simp; omega)).trans (by simp [fbox])
  have b5 : w3.cell? ⟨w.heap.size + 1, 0, none⟩ = some (.slice B m d) := (HG3.out.cell (p := ⟨w.heap.size + 1, 0, none⟩) (by simp)).trans (by simp [fbox])
  clear g3 b2 b3
  cases a3
  · have hr' : r = false := by rw [← hr]; rfl
    subst hr'
    clear hr
    go_wp2
    go_ret
    exact ⟨rfl, HZ.out.trans HG3.out⟩
  go_wp2_with fail
  refine (HU.out _ (HZ.out.trans HG3.out)).mono ?_
  rintro e w4 ⟨rfl, g4⟩
  have hr' : r = a4 := by rw [← hr]; rfl
  subst hr'
  clear hr
  have HG4 : Hid (Grows w w4) := HZ.out.trans (HG3.out.trans g4)
  clear g4 b4 b5
  go_wp2
  go_ret
  exact ⟨rfl, HG4.out⟩
end Go.Proofs.Ytclopcbpelhiaaa
