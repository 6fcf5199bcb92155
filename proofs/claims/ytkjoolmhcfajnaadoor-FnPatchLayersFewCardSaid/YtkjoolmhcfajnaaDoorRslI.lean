/-
  Stacks of the program: whether they are valid, the map of the values that they tell, and what they tell of a key. Conditions: parts of at most 1048576 bytes.
-/
import Derived.Test.YtkjoolmhcfajnaaDoorRslS
namespace Go.Proofs.YtkjoolmhcfajnaaDoor
open Go.RowKit

set_option maxRecDepth 100000 in
set_option maxHeartbeats 4000000 in
theorem implStack_any (A : Option Addr) (c : Nat) (sl : List (List Ent)) (w : World) (hn : sl.length ≤ 1048576) (hf : ∀ l ∈ sl, EFit l) (hA : StackAt w A sl) :
    Calls Tryd.prog 24 #[.slice A sl.length c] w fun e w' => e = .returned (.bool (vstack sl)) ∧ Grows w w' := by
  have HA := Lib.hid hA
  have HL := Lib.hid (fun (l : List Ent) (hl : l ∈ sl) A' c' w1 (h : EntsAt w1 A' l) => implLayer_any A' c' l w1 (hf l hl) h)
  clear hA hf
  obtain ⟨n, hnn⟩ : ∃ n, sl.length = n := ⟨_, rfl⟩
  rw [hnn] at hn ⊢
  have HN := Lib.hid hnn
  clear hnn
  by_cases h5 : n ≤ 5
  · go_enter Tryd.func24, Tryd.ntmps24
    go_wp2
    go_loopw [10] (fun i wr => ∃ k : Nat, k ≤ n ∧ i = .int .i64 k ∧ Hid ((sl.take k).all vlayer = true) ∧ Hid (Grows w wr)) (fun i _ => n - (intOf i).toNat)
    case atStart => exact ⟨0, Nat.zero_le _, rfl, by unfold Hid; rfl, Grows.refl _⟩
    case round =>
      obtain ⟨k, hk, rfl, HK, HG⟩ := hrel
      by_cases hlt : k < n
      · obtain ⟨b, o, rfl, hb, hc⟩ := HA.out (by rw [HN.out]; omega)
        have hk2 : k < sl.length := by rw [HN.out]; exact hlt
        obtain ⟨A', c', h1, h2, h3⟩ := hc k hk2
        have c0 := (HG.out.cell (p := ⟨b, o + k, none⟩) hb).trans h1
        have HX := Lib.hid (all_vl hk2)
        have HV := Lib.hid (fun w1 (g : Grows wr w1) => HL.out sl[k] (List.getElem_mem hk2) A' c' w1 ((h3.keep HG.out).keep g))
        obtain ⟨x, hx⟩ : ∃ x, sl[k] = x := ⟨_, rfl⟩
        rw [hx] at HX HV c0
        clear hc h1 h2 h3 hx
        by_cases hv : vlayer x = true
        · have HS : Hid ((sl.take (k + 1)).all vlayer = true) := by unfold Hid; rw [HX.out, HK.out, hv]; rfl
          rw [hv] at HV
          clear hv
          go_wp2_with fail
          refine (HV.out _ ((Grows.refl _).alloc _)).mono ?_
          rintro e w1 ⟨rfl, g1⟩
          have HG1 := Lib.hid ((HG.out.alloc _).trans g1)
          clear g1 c0
          go_wp2
          go_roundw
          case rel => exact ⟨k + 1, by omega, by go_num, HS, HG1⟩
          case measure => (simp [intOf]; try omega)
        · have hv' : vlayer x = false := by simpa using hv
          have HZ : Hid (vstack sl = false) := vstack_no (k := k + 1) (by rw [HX.out, hv']; simp)
          rw [hv'] at HV
          clear hv hv'
          go_wp2_with fail
          refine (HV.out _ ((Grows.refl _).alloc _)).mono ?_
          rintro e w1 ⟨rfl, g1⟩
          have HG1 := Lib.hid ((HG.out.alloc _).trans g1)
          clear g1 c0
          go_wp2
          go_ret
          exact ⟨ret_bool HZ.out.symm, HG1.out⟩
      · obtain rfl : k = n := by omega
        have HZ : Hid (vstack sl = true) := by
          have h := HK.out
          rw [List.take_of_length_le (by rw [HN.out]; exact Nat.le_refl _)] at h
          unfold Hid vstack
          rw [h, HN.out, decide_eq_true h5]
          rfl
        go_wp2
        go_ret
        exact ⟨ret_bool HZ.out.symm, HG.out⟩
  · have HZ : Hid (vstack sl = false) := by
      unfold Hid vstack
      rw [HN.out, decide_eq_false h5, Bool.and_false]
    go_enter Tryd.func24, Tryd.ntmps24
    go_wp2
    go_ret
    exact ⟨ret_bool HZ.out.symm, Grows.refl _⟩

theorem joinV_any (a b : ByteArray) (w : World) (ha : a.size ≤ 1048576) (hb : b.size ≤ 1048576) : Calls Tryd.prog 50 #[.string a, .string b] w fun r w' => r = .returned (.string (a ++ ⟨#[44]⟩ ++ b)) ∧ w = w' := by
  go_enter Tryd.func50, Tryd.ntmps50
  go_wp2
  go_ret
  exact ⟨rfl, rfl⟩

set_option maxRecDepth 100000 in
set_option maxHeartbeats 4000000 in
theorem lay_any (b n : Nat) (V : PV) (e : Ent) (w : World) (hf : e.fit) (hev : e.v.size ≤ 1048576) (hops : e.op = 0 ∨ e.op = 1 ∨ e.op = 2) (hn : n ≤ 1000000) (hlow : ∀ v, V e.s e.k = some v → v.size ≤ 100000) (h : MapV w b n V) :
    Calls Tryd.prog 37 #[.map (some b), e.agg] w fun r w' => r = .returned (.tuple #[]) ∧ (∃ m, m ≤ n + 1 ∧ MapV w' b m (layV V e)) ∧ w.grownBy w' (some b) := by
  have HP := Lib.hid (fun w => placeOf_any e w)
  obtain ⟨s, k, op, v⟩ := e
  simp only at hev hops hlow
  have hs : s.size ≤ 1048576 := hf.1
  have hk : k.size ≤ 1048576 := hf.2
  unfold Ent.agg at HP ⊢
  simp only at HP
  have H0 := Lib.hid h
  have hbw := h.lt
  clear h
  have B1 : Hid (BoxE (w.alloc (.cells #[.string s, .string k, .int .i64 op, .string v] 33)) w.heap.size ⟨s, k, op, v⟩ 33) := BoxE.new w ⟨s, k, op, v⟩ 33
  go_enter Tryd.func37, Tryd.ntmps37
  go_wp2_with fail
  refine (HP.out _).mono ?_
  rintro r w2 ⟨rfl, g2⟩
  have B2 := Lib.hid (B1.out.keep g2)
  have G2 : Hid (Grows w w2) := ((Grows.refl w).alloc _).trans g2
  have M2 := Lib.hid (H0.out.keep G2.out)
  clear g2 B1 H0 HP
  have hs2 : w.heap.size < w2.heap.size := B2.out.lt
  go_upto_region 2 with (fail)
  have B3 := Lib.hid (B2.out.keep ((Grows.refl w2).alloc (.cells #[.string s, .string k] 47)))
  have M3 := Lib.hid (M2.out.keep ((Grows.refl w2).alloc (.cells #[.string s, .string k] 47)))
  have G3 : Hid (Grows w (w2.alloc (.cells #[.string s, .string k] 47))) := G2.out.alloc _
  have p0 : (w2.alloc (.cells #[.string s, .string k] 47)).cell? ⟨w2.heap.size, 0, none⟩ = some (.string s) := by simp
  have p1 : (w2.alloc (.cells #[.string s, .string k] 47)).cell? ⟨w2.heap.size, 1, none⟩ = some (.string k) := by simp
  obtain ⟨w3, hw3⟩ : ∃ w3, w2.alloc (.cells #[.string s, .string k] 47) = w3 := ⟨_, rfl⟩
  rw [hw3] at B3 M3 G3 p0 p1 ⊢
  clear hw3 B2 M2 G2
  have x2 := B3.out.at2
  have x3 := B3.out.at3
  simp only at x2 x3
  rcases hops with rfl | rfl | rfl
  · have HE : Hid (layV V ⟨s, k, 0, v⟩ = setV V s k v) := layV_set (e := ⟨s, k, 0, v⟩) rfl
    go_wp2_with (at_mapUpdate; refine putV_any rfl _ _ _ rfl b n V M3.out rfl s k v rfl rfl hs hk (by omega) ?_; intro w4 HM4 HG4)
    first | go_end0 | refine bodyPost_ret (results_none rfl _ _ _) rfl ?_
    exact ⟨rfl, ⟨_, Nat.le_refl _, by rw [HE.out]; exact HM4.out⟩, (gb_of G3.out).trans HG4.out⟩
  · have HE : Hid (layV V ⟨s, k, 1, v⟩ = delV V s k) := layV_del (e := ⟨s, k, 1, v⟩) rfl
    go_wp2_with (at_delete; refine delV_any rfl _ _ rfl b n V M3.out rfl s k rfl hs hk ?_; intro w4 HM4 HG4)
    first | go_end0 | refine bodyPost_ret (results_none rfl _ _ _) rfl ?_
    exact ⟨rfl, ⟨_, Nat.le_succ _, by rw [HE.out]; exact HM4.out⟩, (gb_of G3.out).trans HG4.out⟩
  · rcases hV : V s k with _ | low
    · have HE : Hid (layV V ⟨s, k, 2, v⟩ = setV V s k v) := layV_set (e := ⟨s, k, 2, v⟩) (by show stepV (V s k) _ = _; rw [hV]; rfl)
      have HV := Lib.hid hV
      clear hV hlow
      go_wp2_with (first | (at_lookup; refine lookV_ok rfl _ _ rfl b n V M3.out rfl s k rfl hs hk ?_; rw [HV.out]; simp only [Option.getD_none, Option.isSome_none]) | (at_mapUpdate; refine putV_any rfl _ _ _ rfl b n V M3.out rfl s k v rfl rfl hs hk (by omega) ?_; intro w4 HM4 HG4))
      first | go_end0 | refine bodyPost_ret (results_none rfl _ _ _) rfl ?_
      exact ⟨rfl, ⟨_, Nat.le_refl _, by rw [HE.out]; exact HM4.out⟩, (gb_of G3.out).trans HG4.out⟩
    · have hl := hlow low hV
      have HE : Hid (layV V ⟨s, k, 2, v⟩ = setV V s k (low ++ ⟨#[44]⟩ ++ v)) := layV_set (e := ⟨s, k, 2, v⟩) (by show stepV (V s k) _ = _; rw [hV]; rfl)
      have HV := Lib.hid hV
      have HJ := Lib.hid (fun w1 => joinV_any low v w1 (by omega) hev)
      clear hV hlow
      go_upto_region 10 with (at_lookup; refine lookV_ok rfl _ _ rfl b n V M3.out rfl s k rfl hs hk ?_; rw [HV.out]; simp only [Option.getD_some, Option.isSome_some])
      refine wp_region_M 6 (CellsAre [(⟨w2.heap.size, 0, none⟩, .string s), (⟨w2.heap.size, 1, none⟩, .string k), (⟨w.heap.size, 3, none⟩, .string v)]) (by kernel_rfl) (by kernel_rfl) ⟨p0, p1, x3, trivial⟩ (fun hB hS => ?_)
      clear p0 p1 x2 x3
      refine wpAnyM_take (i := 0) (v := ?va0) hB rfl (by kernel_rfl) (fun _ _ _ h => h) (by rfl) ?ya0 hS ?na0
      case ya0 => (intro w9 hSw; obtain ⟨s1, s2, s3, _⟩ := hSw; go_simp; try with_reducible rfl)
      refine wpAnyM_take (i := 1) (v := ?va1) hB rfl (by kernel_rfl) (fun _ _ _ h => h) (by rfl) ?ya1 hS ?na1
      case ya1 => (intro w9 hSw; obtain ⟨s1, s2, s3, _⟩ := hSw; go_simp; try with_reducible rfl)
      refine wpAnyM_take (i := 2) (v := ?va2) hB rfl (by kernel_rfl) (fun _ _ _ h => h) (by rfl) ?ya2 hS ?na2
      case ya2 => (intro w9 hSw; obtain ⟨s1, s2, s3, _⟩ := hSw; go_simp; try with_reducible rfl)
      refine wpAnyM_take (i := 3) (v := ?va3) hB rfl (by kernel_rfl) (fun _ _ _ h => h) (by rfl) ?ya3 hS ?na3
      case ya3 => (intro w9 hSw; obtain ⟨s1, s2, s3, _⟩ := hSw; go_simp; try with_reducible rfl)
      refine wpAnyM_take (i := 4) (v := ?va4) hB rfl (by kernel_rfl) (fun _ _ _ h => h) (by rfl) ?ya4 hS ?na4
      case ya4 => (intro w9 hSw; obtain ⟨s1, s2, s3, _⟩ := hSw; go_simp; try with_reducible rfl)
      refine wpAnyM_one (i := 5) rfl (by kernel_rfl) rfl ?_
      have HS := Lib.hid hS
      clear hS
      have G4 : Hid (Grows w w3.drew) := G3.out.drew
      have M4 := Lib.hid (M3.out.keep ((Grows.refl w3).drew))
      go_wp2_with fail
      refine (HJ.out _).mono ?_
      rintro e w5 ⟨rfl, rfl⟩
      go_wp2_with fail
      refine ⟨HS.out, ?_⟩
      refine wpAnyM_tail (by kernel_rfl) ?_
      clear hB
      go_wp2_with (at_mapUpdate; refine putV_any rfl _ _ _ rfl b n V M4.out rfl s k (low ++ ⟨#[44]⟩ ++ v) rfl rfl hs hk (by omega) ?_; intro w6 HM4 HG4)
      first | go_end0 | refine bodyPost_ret (results_none rfl _ _ _) rfl ?_
      exact ⟨rfl, ⟨_, Nat.le_refl _, by rw [HE.out]; exact HM4.out⟩, (gb_of G4.out).trans HG4.out⟩

theorem take_allE {sl : List (List Ent)} {k : Nat} (hk : k < sl.length) : allE (sl.drop k) = allE (sl.drop (k + 1)) ++ sl[k] := allE_drop hk
theorem lay_low {sl : List (List Ent)} (h : vstack sl = true) {j k : Nat} (hj : j < sl.length) {s key v : ByteArray} (hv : foldV (allE (sl.drop (j + 1)) ++ sl[j].take k) noV s key = some v) : v.size ≤ 100000 := by
  have h1 := vstack_all h
  have h0 : ∀ l ∈ sl.drop (j + 1), vlayer l = true := fun l hl => h1 l (List.mem_of_mem_drop hl)
  have h9 := h1 sl[j] (List.getElem_mem hj)
  have h2 := foldV_size _ (fun e he => by
    rcases List.mem_append.1 he with h | h
    · exact ent_v40 (allE_vent h0 e h)
    · exact ent_v40 (vlayer_vent h9 e (List.mem_of_mem_take h))) s key v hv
  have h3 := allE_len h0
  have h4 := vstack_5 h
  have h5 := vlayer_20 h9
  rw [List.length_drop] at h3
  rw [List.length_append, List.length_take] at h2
  omega

set_option maxRecDepth 100000 in
set_option maxHeartbeats 4000000 in
theorem valuesOf_any (A : Option Addr) (c : Nat) (sl : List (List Ent)) (w : World) (hv : vstack sl = true) (hA : StackAt w A sl) :
    Calls Tryd.prog 25 #[.slice A sl.length c] w fun r w' => ∃ b m, r = .returned (.map (some b)) ∧ m ≤ 1000 ∧ w.heap.size ≤ b ∧ MapV w' b m (toldV sl) ∧ Grows w w' := by
  have h5 := vstack_5 hv
  have HVS := Lib.hid hv
  have HA := Lib.hid hA
  have HL := Lib.hid (vstack_all hv)
  clear hA hv
  obtain ⟨n, hnn⟩ : ∃ n, sl.length = n := ⟨_, rfl⟩
  rw [hnn] at h5 ⊢
  have HN := Lib.hid hnn
  clear hnn
  have hmm := @run_makeMap Tryd.prog
  have HM0 : Hid (MapV (w.alloc (.map #[] 0)) w.heap.size 0 noV) := MapV.new w
  go_enter Tryd.func25, Tryd.ntmps25
  go_wp2
  go_loopw [4] (fun i wr => ∃ (j m : Nat), j ≤ n ∧ i = .int .i64 ((j : Int) - 1) ∧ m ≤ (n - j) * 20 ∧ Hid (MapV wr w.heap.size m (foldV (allE (sl.drop j)) noV)) ∧ Hid (Grows w wr)) (fun i _ => (intOf i + 1).toNat)
  case atStart => exact ⟨n, 0, Nat.le_refl _, rfl, by omega, by unfold Hid; rw [← HN.out, List.drop_length]; exact HM0.out, (Grows.refl _).alloc _⟩
  case round =>
    obtain ⟨j, m, hj, rfl, hm, HM, HG⟩ := hrel
    by_cases hpos : 0 < j
    · obtain ⟨k, rfl⟩ : ∃ k, j = k + 1 := ⟨j - 1, by omega⟩
      have hz : (((k + 1 : Nat) : Int) - 1) = (k : Int) := by omega
      rw [hz]
      clear hz
      obtain ⟨b, o, rfl, hb, hc⟩ := HA.out (by rw [HN.out]; omega)
      have hk2 : k < sl.length := by rw [HN.out]; omega
      obtain ⟨A', c', h1, h2, h3⟩ := hc k hk2
      have c0 := (HG.out.cell (p := ⟨b, o + k, none⟩) hb).trans h1
      have hvl := HL.out sl[k] (List.getElem_mem hk2)
      have HLO := Lib.hid (fun (i : Nat) (s key v : ByteArray) h => lay_low (k := i) (s := s) (key := key) (v := v) HVS.out hk2 h)
      have HTA := Lib.hid (take_allE hk2)
      obtain ⟨x, hx⟩ : ∃ x, sl[k] = x := ⟨_, rfl⟩
      rw [hx] at c0 h3 hvl HLO HTA
      have h20 := vlayer_20 hvl
      have HVX := Lib.hid (vlayer_vent hvl)
      have HAT := Lib.hid h3
      obtain ⟨p, hp⟩ : ∃ p, x.length = p := ⟨_, rfl⟩
      have HPN := Lib.hid hp
      rw [hp] at c0 h20
      clear hc h1 h2 h3 hx hvl hp
      obtain ⟨P, hP⟩ : ∃ P, allE (sl.drop (k + 1)) = P := ⟨_, rfl⟩
      rw [hP] at HM HLO HTA
      clear hP
      go_wp2
      go_loopw [21] (fun i wx => ∃ (q m2 : Nat), q ≤ p ∧ i = .int .i64 q ∧ m2 ≤ (n - (k + 1)) * 20 + q ∧ Hid (MapV wx w.heap.size m2 (foldV (P ++ x.take q) noV)) ∧ Hid (Grows w wx)) (fun i _ => p - (intOf i).toNat)
      case atStart => exact ⟨0, m, Nat.zero_le _, rfl, by omega, by unfold Hid; rw [List.take_zero, List.append_nil]; exact HM.out, HG.out⟩
      case round =>
        clear HM hm c0
        obtain ⟨q, m2, hq, rfl, hm2, HM, HGx⟩ := hrel
        by_cases hlt : q < p
        · obtain ⟨b2, o2, rfl, hb2, hc2⟩ := HAT.out (by rw [HPN.out]; omega)
          have hq2 : q < x.length := by rw [HPN.out]; exact hlt
          have hat := (hc2 q hq2).keep hb2 HGx.out
          have hve := HVX.out x[q] (List.getElem_mem hq2)
          have htk : foldV (P ++ x.take (q + 1)) noV = layV (foldV (P ++ x.take q) noV) x[q] := by rw [List.take_succ_eq_append_getElem hq2, ← List.append_assoc, foldV_snoc]
          have hlo := fun v (h : foldV (P ++ x.take q) noV x[q].s x[q].k = some v) => HLO.out q x[q].s x[q].k v h
          obtain ⟨e, he⟩ : ∃ e, x[q] = e := ⟨_, rfl⟩
          rw [he] at hat hve htk hlo
          obtain ⟨d0, d1, d2, d3⟩ := hat
          have hfit := ent_fits' hve
          have HTK := Lib.hid htk
          have HLY := Lib.hid (fun w1 (h : MapV w1 w.heap.size m2 (foldV (P ++ x.take q) noV)) => lay_any w.heap.size m2 _ e w1 ⟨by omega, by omega⟩ (by omega) (vent_ops3 hve) (by omega) hlo h)
          unfold Ent.agg at HLY
          clear hc2 hve htk hlo he hfit
          go_wp2_with fail
          refine (HLY.out _ (HM.out.keep ((Grows.refl _).alloc _))).mono ?_
          rintro r w3 ⟨rfl, ⟨m3, hm3, hM3⟩, g3⟩
          have HM3 : Hid (MapV w3 w.heap.size m3 (foldV (P ++ x.take (q + 1)) noV)) := by unfold Hid; rw [HTK.out]; exact hM3
          have HG3 : Hid (Grows w w3) := (HGx.out.alloc _).mark g3 (fun i hi => by injection hi with hi; omega)
          clear g3 hM3 d0 d1 d2 d3
          go_wp2
          go_roundw
          case rel => exact ⟨q + 1, m3, by omega, by go_num, by omega, HM3, HG3⟩
          case measure => (simp [intOf]; try omega)
        · obtain rfl : q = p := by omega
          have HM3 : Hid (MapV wr w.heap.size m2 (foldV (allE (sl.drop k)) noV)) := by
            have h := HM.out
            rw [List.take_of_length_le (by rw [HPN.out]; exact Nat.le_refl _)] at h
            unfold Hid
            rw [HTA.out]
            exact h
          go_wp2
          go_roundw
          case rel => exact ⟨k, m2, by omega, by go_num, by omega, HM3, HGx⟩
          case measure => (simp [intOf]; try omega)
    · obtain rfl : j = 0 := by omega
      have HR : Hid (MapV wr w.heap.size m (toldV sl)) := by unfold Hid toldV; have := HM.out; rwa [List.drop_zero] at this
      go_wp2
      go_ret
      exact ⟨_, m, rfl, by omega, Nat.le_refl _, HR.out, HG.out⟩

end Go.Proofs.YtkjoolmhcfajnaaDoor
