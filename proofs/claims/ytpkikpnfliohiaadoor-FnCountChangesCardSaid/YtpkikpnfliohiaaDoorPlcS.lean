/-
  Rows of references: the places of layers as the specification tells them, each once, and what a flat layer has at a place. Conditions: parts of at most 1048576 bytes.
-/
import Derived.Test.YtpkikpnfliohiaaDoorRfs
import Derived.Test.YtpkikpnfliohiaaDoorRegG
namespace Go.Proofs.YtpkikpnfliohiaaDoor
open Go.RowKit


theorem flat_succ {sl : List (List Ent)} {j : Nat} (h : j < sl.length) : (sl.take (j + 1)).flatten = (sl.take j).flatten ++ sl[j] := by
  rw [List.take_succ_eq_append_getElem h, List.flatten_append]
  simp
set_option maxRecDepth 100000 in
set_option maxHeartbeats 4000000 in
theorem specPlaces_any (A : Option Addr) (c : Nat) (sl : List (List Ent)) (w : World) (hn : sl.length ≤ 5) (h20 : ∀ l ∈ sl, l.length ≤ 20) (hA : StackAt w A sl) :
    Calls Tryd.prog 14 #[.slice A sl.length c] w fun r w' => ∃ v, r = .returned v ∧ OwnF w' w.heap.size v (firstsE sl.flatten) ∧ Grows w w' := by
  have HA := Lib.hid hA
  have HL := Lib.hid h20
  clear hA h20
  obtain ⟨n, hnn⟩ : ∃ n, sl.length = n := ⟨_, rfl⟩
  rw [hnn] at hn ⊢
  have HN := Lib.hid hnn
  clear hnn
  have O0 : Hid (OwnF (w.alloc (.cells #[] 49)) w.heap.size (.slice (some ⟨w.heap.size, 0, none⟩) 0 0) []) := OwnF.empty w _ (Nat.le_refl _)
  have G0 : Hid (Grows w (w.alloc (.cells #[] 49))) := (Grows.refl w).alloc _
  go_enter Tryd.func14, Tryd.ntmps14
  go_wp2
  go_loopw [3, 4] (fun v i wr => ∃ (j : Nat) (K : List Ent), j ≤ n ∧ i = .int .i64 j ∧ K.length ≤ j * 20 ∧ Hid (K = firstsE (sl.take j).flatten) ∧ Hid (OwnF wr w.heap.size v K) ∧ Hid (Grows w wr)) (fun _ i _ => n - (intOf i).toNat)
  case atStart => exact ⟨0, [], Nat.zero_le _, rfl, by simp, by unfold Hid; rw [List.take_zero]; rfl, O0, G0⟩
  case round =>
    obtain ⟨j, K, hj, rfl, hKl, HK, HO, HG⟩ := hrel
    by_cases hlt : j < n
    · obtain ⟨b, o, rfl, hb, hc⟩ := HA.out (by rw [HN.out]; omega)
      have hj2 : j < sl.length := by rw [HN.out]; exact hlt
      obtain ⟨A', c', h1, h2, h3⟩ := hc j hj2
      have C0 := Lib.hid h1
      have h20x := HL.out sl[j] (List.getElem_mem hj2)
      have HTA := Lib.hid (flat_succ hj2)
      obtain ⟨x, hx⟩ : ∃ x, sl[j] = x := ⟨_, rfl⟩
      rw [hx] at C0 h3 h20x HTA h2
      have HAT := Lib.hid h3
      obtain ⟨p, hp⟩ : ∃ p, x.length = p := ⟨_, rfl⟩
      have HPN := Lib.hid hp
      rw [hp] at C0 h20x h2
      have HB := Lib.hid hb
      clear hc h1 h3 hx hp hb
      obtain ⟨P, hP⟩ : ∃ P, (sl.take j).flatten = P := ⟨_, rfl⟩
      rw [hP] at HK HTA
      clear hP
      go_wp2
      go_loopw [3, 5] (fun v i wx => ∃ (q : Nat) (K : List Ent), q ≤ p ∧ i = .int .i64 q ∧ K.length ≤ j * 20 + q ∧ Hid (K = firstsE (P ++ x.take q)) ∧ Hid (OwnF wx w.heap.size v K) ∧ Hid (Grows w wx)) (fun _ i _ => p - (intOf i).toNat)
      case atStart => exact ⟨0, K, Nat.zero_le _, rfl, by omega, by unfold Hid; rw [List.take_zero, List.append_nil]; exact HK.out, HO, HG⟩
      case round =>
        clear HK HO HG hKl
        obtain ⟨q, K, hq, rfl, hKl, HK, HO, HG⟩ := hrel
        have c0 := (HG.out.cell (p := ⟨b, o + j, none⟩) HB.out).trans C0.out
        by_cases hlq : q < p
        · obtain ⟨b2, o2, rfl, hb2, hc2⟩ := HAT.out (by rw [HPN.out]; omega)
          have hq2 : q < x.length := by rw [HPN.out]; exact hlq
          have hat := (hc2 q hq2).keep hb2 HG.out
          have htk : firstsE (P ++ x.take (q + 1)) = if (K.any fun y => y.of x[q].s x[q].k) = true then K else K ++ [x[q]] := by rw [List.take_succ_eq_append_getElem hq2, ← List.append_assoc, firstsE_snoc, ← HK.out]
          obtain ⟨⟨es, ek, eo, ev⟩, he⟩ : ∃ e, x[q] = e := ⟨_, rfl⟩
          rw [he] at hat htk
          simp only at htk
          obtain ⟨d0, d1, d2, d3⟩ := hat
          simp only at d0 d1
          have HTK := Lib.hid htk
          clear hc2 he htk d2 d3 hb2
          go_wp2_with fail
          refine wp_region_M 20 (CellsAre [(⟨b, o + j, none⟩, .slice (some ⟨b2, o2, none⟩) p c'), (⟨b2, o2 + q * 4, none⟩, .string es), (⟨b2, o2 + q * 4 + 1, none⟩, .string ek)]) (by kernel_rfl) (by kernel_rfl) ⟨c0, d0, d1, trivial⟩ (fun hB hS => ?_)
          refine wpAnyM_take (i := 0) (v := ?vpa0) hB rfl (by kernel_rfl) (fun _ _ _ h => h) (by first | kernel_rfl | simp [Region.wanted, yielded, Act.put]) ?ypa0 hS ?npa0
          case ypa0 => (intro w9 hSw; obtain ⟨s1, s2, s3, _⟩ := hSw; go_simp; first | done | with_reducible rfl | rfl)
          refine wpAnyM_take (i := 1) (v := ?vpa1) hB rfl (by kernel_rfl) (fun _ _ _ h => h) (by first | kernel_rfl | simp [Region.wanted, yielded, Act.put]) ?ypa1 hS ?npa1
          case ypa1 => (intro w9 hSw; obtain ⟨s1, s2, s3, _⟩ := hSw; go_simp; first | done | with_reducible rfl | rfl)
          refine wpAnyM_take (i := 2) (v := ?vpa2) hB rfl (by kernel_rfl) (fun _ _ _ h => h) (by first | kernel_rfl | simp [Region.wanted, yielded, Act.put]) ?ypa2 hS ?npa2
          case ypa2 => (intro w9 hSw; obtain ⟨s1, s2, s3, _⟩ := hSw; go_simp; first | done | with_reducible rfl | rfl)
          refine wpAnyM_take (i := 3) (v := ?vpa3) hB rfl (by kernel_rfl) (fun _ _ _ h => h) (by first | kernel_rfl | simp [Region.wanted, yielded, Act.put]) ?ypa3 hS ?npa3
          case ypa3 => (intro w9 hSw; obtain ⟨s1, s2, s3, _⟩ := hSw; go_simp; first | done | with_reducible rfl | rfl)
          refine wpAnyM_take (i := 4) (v := ?vpa4) hB rfl (by kernel_rfl) (fun _ _ _ h => h) (by first | kernel_rfl | simp [Region.wanted, yielded, Act.put]) ?ypa4 hS ?npa4
          case ypa4 => (intro w9 hSw; obtain ⟨s1, s2, s3, _⟩ := hSw; go_simp; first | done | with_reducible rfl | rfl)
          refine wpAnyM_take (i := 5) (v := ?vpa5) hB rfl (by kernel_rfl) (fun _ _ _ h => h) (by first | kernel_rfl | simp [Region.wanted, yielded, Act.put]) ?ypa5 hS ?npa5
          case ypa5 => (intro w9 hSw; obtain ⟨s1, s2, s3, _⟩ := hSw; go_simp; first | done | with_reducible rfl | rfl)
          refine wpAnyM_take (i := 6) (v := ?vpa6) hB rfl (by kernel_rfl) (fun _ _ _ h => h) (by first | kernel_rfl | simp [Region.wanted, yielded, Act.put]) ?ypa6 hS ?npa6
          case ypa6 => (intro w9 hSw; obtain ⟨s1, s2, s3, _⟩ := hSw; go_simp; first | done | with_reducible rfl | rfl)
          refine wpAnyM_take (i := 7) (v := ?vpa7) hB rfl (by kernel_rfl) (fun _ _ _ h => h) (by first | kernel_rfl | simp [Region.wanted, yielded, Act.put]) ?ypa7 hS ?npa7
          case ypa7 => (intro w9 hSw; obtain ⟨s1, s2, s3, _⟩ := hSw; go_simp; first | done | with_reducible rfl | rfl)
          refine wpAnyM_take (i := 8) (v := ?vpa8) hB rfl (by kernel_rfl) (fun _ _ _ h => h) (by first | kernel_rfl | simp [Region.wanted, yielded, Act.put]) ?ypa8 hS ?npa8
          case ypa8 => (intro w9 hSw; obtain ⟨s1, s2, s3, _⟩ := hSw; go_simp; first | done | with_reducible rfl | rfl)
          refine wpAnyM_take (i := 9) (v := ?vpa9) hB rfl (by kernel_rfl) (fun _ _ _ h => h) (by first | kernel_rfl | simp [Region.wanted, yielded, Act.put]) ?ypa9 hS ?npa9
          case ypa9 => (intro w9 hSw; obtain ⟨s1, s2, s3, _⟩ := hSw; go_simp; first | done | with_reducible rfl | rfl)
          refine wpAnyM_take (i := 10) (v := ?vpa10) hB rfl (by kernel_rfl) (fun _ _ _ h => h) (by first | kernel_rfl | simp [Region.wanted, yielded, Act.put]) ?ypa10 hS ?npa10
          case ypa10 => (intro w9 hSw; obtain ⟨s1, s2, s3, _⟩ := hSw; go_simp; first | done | with_reducible rfl | rfl)
          refine wpAnyM_take (i := 11) (v := ?vpa11) hB rfl (by kernel_rfl) (fun _ _ _ h => h) (by first | kernel_rfl | simp [Region.wanted, yielded, Act.put]) ?ypa11 hS ?npa11
          case ypa11 => (intro w9 hSw; obtain ⟨s1, s2, s3, _⟩ := hSw; go_simp; first | done | with_reducible rfl | rfl)
          refine wpAnyM_take (i := 12) (v := ?vpa12) hB rfl (by kernel_rfl) (fun _ _ _ h => h) (by first | kernel_rfl | simp [Region.wanted, yielded, Act.put]) ?ypa12 hS ?npa12
          case ypa12 => (intro w9 hSw; obtain ⟨s1, s2, s3, _⟩ := hSw; go_simp; first | done | with_reducible rfl | rfl)
          refine wpAnyM_take (i := 13) (v := ?vpa13) hB rfl (by kernel_rfl) (fun _ _ _ h => h) (by first | kernel_rfl | simp [Region.wanted, yielded, Act.put]) ?ypa13 hS ?npa13
          case ypa13 => (intro w9 hSw; obtain ⟨s1, s2, s3, _⟩ := hSw; go_simp; first | done | with_reducible rfl | rfl)
          refine wpAnyM_take (i := 14) (v := ?vpa14) hB rfl (by kernel_rfl) (fun _ _ _ h => h) (by first | kernel_rfl | simp [Region.wanted, yielded, Act.put]) ?ypa14 hS ?npa14
          case ypa14 => (intro w9 hSw; obtain ⟨s1, s2, s3, _⟩ := hSw; go_simp; first | done | with_reducible rfl | rfl)
          refine wpAnyM_take (i := 15) (v := ?vpa15) hB rfl (by kernel_rfl) (fun _ _ _ h => h) (by first | kernel_rfl | simp [Region.wanted, yielded, Act.put]) ?ypa15 hS ?npa15
          case ypa15 => (intro w9 hSw; obtain ⟨s1, s2, s3, _⟩ := hSw; go_simp; first | done | with_reducible rfl | rfl)
          refine wpAnyM_take (i := 16) (v := ?vpa16) hB rfl (by kernel_rfl) (fun _ _ _ h => h) (by first | kernel_rfl | simp [Region.wanted, yielded, Act.put]) ?ypa16 hS ?npa16
          case ypa16 => (intro w9 hSw; obtain ⟨s1, s2, s3, _⟩ := hSw; go_simp; first | done | with_reducible rfl | rfl)
          refine wpAnyM_take (i := 17) (v := ?vpa17) hB rfl (by kernel_rfl) (fun _ _ _ h => h) (by first | kernel_rfl | simp [Region.wanted, yielded, Act.put]) ?ypa17 hS ?npa17
          case ypa17 => (intro w9 hSw; obtain ⟨s1, s2, s3, _⟩ := hSw; go_simp; first | done | with_reducible rfl | rfl)
          refine wpAnyM_take (i := 18) (v := ?vpa18) hB rfl (by kernel_rfl) (fun _ _ _ h => h) (by first | kernel_rfl | simp [Region.wanted, yielded, Act.put]) ?ypa18 hS ?npa18
          case ypa18 => (intro w9 hSw; obtain ⟨s1, s2, s3, _⟩ := hSw; go_simp; first | done | with_reducible rfl | rfl)
          have HSx := Lib.hid hS
          clear hS c0 d0 d1
          refine wpAnyM_one (i := 19) rfl (by kernel_rfl) rfl ?_
          go_wp2_with fail
          refine ⟨CellsAre.keep HSx.out ((Grows.refl _).alloc _), ?_⟩
          refine wpAnyM_tail (by kernel_rfl) ?_
          clear hB
          go_upto_region 9 with (fail)
          have G1 : Hid (Grows wr (wr.alloc (.cells #[.string es, .string ek] 49)).drew) := ((Grows.refl wr).alloc _).drew
          have p0 : (wr.alloc (.cells #[.string es, .string ek] 49)).drew.cell? ⟨wr.heap.size, 0, none⟩ = some (.string es) := by simp
          have p1 : (wr.alloc (.cells #[.string es, .string ek] 49)).drew.cell? ⟨wr.heap.size, 1, none⟩ = some (.string ek) := by simp
          have hbx : wr.heap.size < (wr.alloc (.cells #[.string es, .string ek] 49)).drew.heap.size := by simp
          obtain ⟨w1, hw1⟩ : ∃ w', (wr.alloc (.cells #[.string es, .string ek] 49)).drew = w' := ⟨_, rfl⟩
          rw [hw1] at G1 p0 p1 hbx ⊢
          clear hw1
          have HO1 := Lib.hid (HO.out.keep G1.out)
          have HG1 : Hid (Grows w w1) := HG.out.trans G1.out
          generalize wr.heap.size = bx at p0 p1 hbx ⊢
          have HH := Lib.hid (fun w2 (g : Grows w1 w2) => hasRef_any _ w.heap.size K es ek w2 (by omega) (HO1.out.keep g))
          by_cases hy : (K.any fun y => y.of es ek) = true
          · have HK2 : Hid (K = firstsE (P ++ x.take (q + 1))) := by unfold Hid; rw [HTK.out, if_pos hy]
            rw [hy] at HH
            clear hy
            go_wp2_with fail
            refine (HH.out _ (Grows.refl _)).mono ?_
            rintro e w2 ⟨rfl, g2⟩
            have HO2 := Lib.hid (HO1.out.keep g2)
            have HG2 : Hid (Grows w w2) := HG1.out.trans g2
            clear g2
            go_wp2
            go_roundw
            case rel => exact ⟨q + 1, K, by omega, by go_num, by omega, HK2, HO2, HG2⟩
            case measure => (simp [intOf]; try omega)
          · have hy' : (K.any fun y => y.of es ek) = false := by simpa using hy
            have HK2 : Hid (K ++ [⟨es, ek, eo, ev⟩] = firstsE (P ++ x.take (q + 1))) := by unfold Hid; rw [HTK.out, if_neg hy]
            rw [hy'] at HH
            clear hy hy'
            go_wp2_with fail
            refine (HH.out _ (Grows.refl _)).mono ?_
            rintro e w2 ⟨rfl, g2⟩
            have q0 := (g2.cell (p := ⟨bx, 0, none⟩) hbx).trans p0
            have q1 := (g2.cell (p := ⟨bx, 1, none⟩) hbx).trans p1
            have HO2 := Lib.hid (HO1.out.keep g2)
            have HG2 : Hid (Grows w w2) := HG1.out.trans g2
            clear g2 p0 p1
            go_wp2_with (at_builtin; refine appF rfl _ _ rfl w.heap.size _ K rfl (HO2.out.keep ((Grows.refl w2).alloc _)) ⟨w2.heap.size, 0, none⟩ 1 1 [⟨es, ek, eo, ev⟩] rfl rfl (by omega) (one_newsF _ ⟨es, ek, eo, ev⟩ _ rfl) (by omega) (by omega) (Nat.le_trans HG2.out.size (by simp)) ?_)
            intro v' w6 HO6 HGB HNE
            have HG6 : Hid (Grows w w6) := (HG2.out.alloc _).mark HGB.out (fun k hk => (HO2.out.lt k hk).1)
            go_wp2
            go_roundw
            case rel => exact ⟨q + 1, K ++ [⟨es, ek, eo, ev⟩], by omega, by go_num, by simp; omega, HK2, HO6, HG6⟩
            case measure => (simp [intOf]; try omega)
        · obtain rfl : q = p := by omega
          have HK2 : Hid (K = firstsE (sl.take (j + 1)).flatten) := by
            have h := HK.out
            rw [List.take_of_length_le (by rw [HPN.out]; exact Nat.le_refl _)] at h
            unfold Hid
            rw [HTA.out]
            exact h
          go_wp2
          go_roundw
          case rel => exact ⟨j + 1, K, by omega, by go_num, by omega, HK2, HO, HG⟩
          case measure => (simp [intOf]; try omega)
    · obtain rfl : j = n := by omega
      have HK2 : Hid (K = firstsE sl.flatten) := by
        have h := HK.out
        rw [List.take_of_length_le (by rw [HN.out]; exact Nat.le_refl _)] at h
        exact h
      go_wp2
      go_ret
      rw [← HK2.out]
      exact ⟨_, rfl, HO.out, HG.out⟩
end Go.Proofs.YtpkikpnfliohiaaDoor
