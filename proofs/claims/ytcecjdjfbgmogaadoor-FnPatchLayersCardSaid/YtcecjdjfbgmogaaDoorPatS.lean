/-
  A patch, as the specification puts it together. Conditions: parts of at most 1048576 bytes.
-/
import Derived.Test.YtcecjdjfbgmogaaDoorPatP
namespace Go.Proofs.YtcecjdjfbgmogaaDoor
open Go.RowKit

set_option maxRecDepth 100000 in
set_option maxHeartbeats 40000000 in
theorem specPatch_any (A : Option Addr) (c : Nat) (xs : List Ent) (B : Option Addr) (d : Nat) (bs : List Ent) (w : World) (g1 : vflat xs = true) (g2 : vflat bs = true) (hA : EntsAt w A xs) (hB : EntsAt w B bs) :
    Calls Tryd.prog 43 #[.agg #[.slice A xs.length c], .agg #[.slice B bs.length d]] w (ResE (patchR xs bs) w) := by
  have h1 := vflat_vlayer g1
  have h2 := vflat_vlayer g2
  have hm := vlayer_20 h1
  have hn := vlayer_20 h2
  have HFX := Lib.hid (fun s k w1 (g : Grows w w1) => entryAt_any A c xs s k w1 (by omega) (hA.keep g))
  have HFB := Lib.hid (fun s k w1 (g : Grows w w1) => entryAt_any B d bs s k w1 (by omega) (hB.keep g))
  have HA := Lib.hid hA
  have HBB := Lib.hid hB
  have HVX := Lib.hid (fun x hx => vlayer_vent h1 x hx)
  have HVB := Lib.hid (fun x hx => vlayer_vent h2 x hx)
  have HD := Lib.hid (vlayer_dist h1)
  clear hA hB h1 h2 g1 g2
  obtain ⟨m, hmm⟩ : ∃ m, xs.length = m := ⟨_, rfl⟩
  obtain ⟨n, hnn⟩ : ∃ n, bs.length = n := ⟨_, rfl⟩
  rw [hmm] at hm HFX ⊢
  rw [hnn] at hn HFB ⊢
  have HM := Lib.hid hmm
  have HN := Lib.hid hnn
  clear hmm hnn
  go_enter Tryd.func43, Tryd.ntmps43
  go_upto_region 1 with (fail)
  have XA : Hid (Box (((w.alloc (.cells #[.slice A m c] 25)).alloc (.cells #[.slice B n d] 25)).alloc (.cells #[.slice none 0 0] 25)) w.heap.size (.slice A m c) 25) := row_grow (row_grow (heap_alloc_new w _) ((Grows.refl _).alloc _)) ((Grows.refl _).alloc _)
  have XB : Hid (Box (((w.alloc (.cells #[.slice A m c] 25)).alloc (.cells #[.slice B n d] 25)).alloc (.cells #[.slice none 0 0] 25)) (w.heap.size + 1) (.slice B n d) 25) := row_grow (alloc_new2 w _ _) ((Grows.refl _).alloc _)
  have XR : Hid (Box (((w.alloc (.cells #[.slice A m c] 25)).alloc (.cells #[.slice B n d] 25)).alloc (.cells #[.slice none 0 0] 25)) (w.heap.size + 1 + 1) (.slice none 0 0) 25) := alloc_new3 w _ _ _
  have G0 : Hid (Grows w (((w.alloc (.cells #[.slice A m c] 25)).alloc (.cells #[.slice B n d] 25)).alloc (.cells #[.slice none 0 0] 25))) := (((Grows.refl w).alloc _).alloc _).alloc _
  obtain ⟨w0, hw0⟩ : ∃ w0, ((w.alloc (.cells #[.slice A m c] 25)).alloc (.cells #[.slice B n d] 25)).alloc (.cells #[.slice none 0 0] 25) = w0 := ⟨_, rfl⟩
  rw [hw0] at XA XB XR G0 ⊢
  clear hw0
  have S0 : w.heap.size + 1 + 1 < w0.heap.size := XR.out.lt
  have HO2 : Hid (OwnE ((w0.alloc (.cells #[] 66)).alloc (.cells #[.slice (some ⟨w0.heap.size, 0, none⟩) 0 0] 25)) w0.heap.size (.slice (some ⟨w0.heap.size, 0, none⟩) 0 0) []) := (OwnE.empty w0 _ (Nat.le_refl _)).keep ((Grows.refl _).alloc _)
  have HX2 : Hid (Box ((w0.alloc (.cells #[] 66)).alloc (.cells #[.slice (some ⟨w0.heap.size, 0, none⟩) 0 0] 25)) (w0.heap.size + 1) (.slice (some ⟨w0.heap.size, 0, none⟩) 0 0) 25) := by
    have h := Box.new (w0.alloc (.cells #[] 66)) (.slice (some ⟨w0.heap.size, 0, none⟩) 0 0) 25
    simp only [World.size_alloc] at h
    exact h
  go_wp2_with fail
  go_loopw [6] (fun i wr => ∃ (k : Nat) (K : List Ent) (v : Value), k ≤ m ∧ i = .int .i64 k ∧ Hid (K = ((xs.take k).filter (freshIn bs)).map dropE) ∧ K.length ≤ k ∧ Hid (OwnE wr w0.heap.size v K) ∧ Hid (Box wr (w0.heap.size + 1) v 25) ∧ Hid (v.ownBlock ≠ some (w0.heap.size + 1)) ∧ Hid (Grows w0 wr)) (fun i _ => m - (intOf i).toNat)
  case atStart => exact ⟨0, [], _, Nat.zero_le _, rfl, by unfold Hid; rfl, Nat.zero_le _, HO2.out, HX2.out, (fun h => by have h' : some w0.heap.size = some (w0.heap.size + 1) := h; injection h' with h'; omega), ((Grows.refl _).alloc _).alloc _⟩
  case round =>
    obtain ⟨k, K, v, hk, rfl, HK, hKk, HO, HX, HNB, HG⟩ := hrel
    have hb0 := (XA.out.keep HG.out).cell
    have hb1 := (XB.out.keep HG.out).cell
    have hbo := HX.out.cell
    have HGW : Hid (Grows w wr) := G0.out.trans HG.out
    obtain ⟨A9, n9, c9, hv9⟩ := HO.out.form3
    by_cases hlt : k < m
    · obtain ⟨b, o, rfl, hb, hc⟩ := HA.out (by rw [HM.out]; omega)
      have hk2 : k < xs.length := by rw [HM.out]; exact hlt
      obtain ⟨x, hx⟩ : ∃ x, xs[k] = x := ⟨_, rfl⟩
      have hat := (hc k hk2).keep hb HGW.out
      have hfs := fm_step (p := freshIn bs) (f := dropE) hk2
      rw [hx] at hat hfs
      obtain ⟨c0, c1, c2, c3⟩ := hat
      have HFS := Lib.hid hfs
      have HS := Lib.hid (fun w1 (g : Grows w w1) => HFB.out x.s x.k w1 g)
      have hfi := fresh_idx bs x
      obtain ⟨ix, hixx⟩ : ∃ ix, entIdx bs x.s x.k = ix := ⟨_, rfl⟩
      rw [hixx] at hfi HS
      have HFI := Lib.hid hfi
      clear hx hc hfs hv9 hfi hixx
      go_upto_region 6 with (fail)
      have BX2 : Hid (BoxE (wr.alloc (.cells #[.string x.s, .string x.k, .int .i64 x.op, .string x.v] 66)) wr.heap.size x 66) := BoxE.new wr x 66
      have G2 : Hid (Grows wr (wr.alloc (.cells #[.string x.s, .string x.k, .int .i64 x.op, .string x.v] 66))) := (Grows.refl wr).alloc _
      obtain ⟨w2, hw2⟩ : ∃ w2, wr.alloc (.cells #[.string x.s, .string x.k, .int .i64 x.op, .string x.v] 66) = w2 := ⟨_, rfl⟩
      rw [hw2] at BX2 G2 ⊢
      clear hw2
      have t0 := BX2.out.at0
      have t1 := BX2.out.at1
      clear c0 c1 c2 c3 hb0 hb1
      have e1 : w2.cell? ⟨w.heap.size + 1, 0, none⟩ = some (.slice B n d) := ((XB.out.keep HG.out).keep G2.out).cell
      go_wp2_with fail
      refine (HS.out _ (HGW.out.trans G2.out)).mono ?_
      rintro e w2' ⟨rfl, rfl⟩
      clear e1 t0 t1
      by_cases hs : ix < 0
      · have HV : Hid (K ++ [dropE x] = ((xs.take (k + 1)).filter (freshIn bs)).map dropE) := by unfold Hid; rw [HFS.out, HK.out, HFI.out, decide_eq_true hs]; rfl
        have HOa := Lib.hid (HO.out.keep G2.out)
        have HXa := Lib.hid (HX.out.keep G2.out)
        have HGa : Hid (Grows w0 w2) := HG.out.trans G2.out
        have hboa := HXa.out.cell
        have t0 := BX2.out.at0
        have t1 := BX2.out.at1
        have t2 := BX2.out.at2
        have t3 := BX2.out.at3
        have SZ := HGa.out.size
        clear hbo
        go_wp2_with (at_builtin; refine appEs rfl _ _ rfl w0.heap.size v K rfl (HOa.out.keep (by repeat (first | exact Grows.refl _ | refine Grows.alloc ?_ _ | refine Grows.drew ?_ | refine Grows.drewN ?_ _))) ⟨w2.heap.size, 0, none⟩ 1 1 [(dropE x)] rfl rfl (by omega) (one_newsE _ (dropE x) _ rfl) (by omega) (by omega) (Nat.le_trans HGa.out.size (by simp)) ?_)
        intro v' w6 HO6 HGB HNE
        have G7 : Hid (w2.grownBy w6 v.ownBlock) := (gb_of2 (by repeat (first | exact Grows.refl _ | refine Grows.alloc ?_ _ | refine Grows.drew ?_ | refine Grows.drewN ?_ _)) _).trans HGB.out
        obtain ⟨A8, n8, c8, rfl⟩ := HO6.out.form3
        have HX6 := Lib.hid (HXa.out.far G7.out HNB.out)
        have hx6 := HX6.out.cell
        have hf6 := HX6.out.free
        have HN6 : Hid ((Value.slice A8 n8 c8).ownBlock ≠ some (w0.heap.size + 1)) := fun e => by
          rcases HNE.out _ e with h | h
          · exact HNB.out h
          · have h1 := HXa.out.lt
            simp at h
            omega
        have HG6 : Hid (Grows w0 w6) := HGa.out.mark G7.out (fun k hk => (HOa.out.lt k hk).1)
        clear HGB HNE t0 t1 t2 t3 hboa
        go_wp2
        go_roundw
        case rel => exact ⟨k + 1, K ++ [(dropE x)], _, by omega, by go_num, HV, by simp; omega, HO6.out.setFar HN6.out _, HX6.out.set_ _, HN6.out, HG6.out.setCell (by simp) _⟩
        case measure => simp [intOf]; omega
      · have HV : Hid (K = ((xs.take (k + 1)).filter (freshIn bs)).map dropE) := by unfold Hid; rw [HFS.out, HK.out, HFI.out, decide_eq_false hs]; simp
        clear hbo
        go_wp2
        go_roundw
        case rel => exact ⟨k + 1, K, v, by omega, by go_num, HV, by omega, HO.out.keep (G2.out.trans (by repeat (first | exact Grows.refl _ | refine Grows.alloc ?_ _ | refine Grows.drew ?_ | refine Grows.drewN ?_ _))), HX.out.keep (G2.out.trans (by repeat (first | exact Grows.refl _ | refine Grows.alloc ?_ _ | refine Grows.drew ?_ | refine Grows.drewN ?_ _))), HNB.out, HG.out.trans (G2.out.trans (by repeat (first | exact Grows.refl _ | refine Grows.alloc ?_ _ | refine Grows.drew ?_ | refine Grows.drewN ?_ _)))⟩
        case measure => simp [intOf]; omega
    · have HKN : Hid (k = m) := (by omega : k = m)
      have HK9 : Hid (K = (xs.filter (freshIn bs)).map dropE) := by unfold Hid; rw [HK.out, HKN.out, ← HM.out, List.take_length]
      subst hv9
      clear HFB HVX HVB HK
      go_wp2_with fail
      obtain ⟨wq, hwq⟩ : ∃ wq, wr = wq := ⟨_, rfl⟩
      rw [hwq] at HO HX HG HGW ⊢
      clear hwq hb0 hb1 hbo
      go_loopw [8] (fun i wr => ∃ (j : Nat) (K2 : List Ent) (v : Value), j ≤ n ∧ i = .int .i64 j ∧ Hid (K2 = (xs.filter (freshIn bs)).map dropE ++ (bs.take j).filter (newIn xs)) ∧ K2.length ≤ 20 + j ∧ Hid (OwnE wr w0.heap.size v K2) ∧ Hid (Box wr (w0.heap.size + 1) v 25) ∧ Hid (v.ownBlock ≠ some (w0.heap.size + 1)) ∧ Hid (Grows w0 wr)) (fun i _ => n - (intOf i).toNat)
      case atStart => exact ⟨0, K, _, Nat.zero_le _, rfl, by unfold Hid; rw [HK9.out]; simp, by omega, HO.out, HX.out, HNB.out, HG.out⟩
      case round =>
        clear HO HX HNB HG HGW HK9
        obtain ⟨j, K2, v, hj, rfl, HK, hKk2, HO, HX, HNB, HG⟩ := hrel
        have hb0 := (XA.out.keep HG.out).cell
        have hb1 := (XB.out.keep HG.out).cell
        have hbo := HX.out.cell
        have HGW : Hid (Grows w wr) := G0.out.trans HG.out
        obtain ⟨A9, n9, c9, hv9⟩ := HO.out.form3
        by_cases hlt2 : j < n
        · obtain ⟨b, o, rfl, hb, hc⟩ := HBB.out (by rw [HN.out]; omega)
          have hj2 : j < bs.length := by rw [HN.out]; exact hlt2
          obtain ⟨x, hx⟩ : ∃ x, bs[j] = x := ⟨_, rfl⟩
          have hat := (hc j hj2).keep hb HGW.out
          have hfs := filter_step (p := newIn xs) hj2
          rw [hx] at hat hfs
          obtain ⟨c0, c1, c2, c3⟩ := hat
          have HFS := Lib.hid hfs
          have HS := Lib.hid (fun w1 (g : Grows w w1) => HFX.out x.s x.k w1 g)
          clear hx hc hfs hv9
          rcases last_idx HD.out x.s x.k with ⟨h0, hl0⟩ | ⟨q, hq, h0, hl0⟩
          · have HV : Hid (K2 ++ [x] = (xs.filter (freshIn bs)).map dropE ++ (bs.take (j + 1)).filter (newIn xs)) := by unfold Hid; rw [HFS.out, HK.out, show newIn xs x = true from by unfold newIn; rw [hl0]]; simp
            rw [h0] at HS
            clear h0 hl0
            go_upto_region 12 with (fail)
            have BX2 : Hid (BoxE (wr.alloc (.cells #[.string x.s, .string x.k, .int .i64 x.op, .string x.v] 66)) wr.heap.size x 66) := BoxE.new wr x 66
            have G2 : Hid (Grows wr (wr.alloc (.cells #[.string x.s, .string x.k, .int .i64 x.op, .string x.v] 66))) := (Grows.refl wr).alloc _
            obtain ⟨w2, hw2⟩ : ∃ w2, wr.alloc (.cells #[.string x.s, .string x.k, .int .i64 x.op, .string x.v] 66) = w2 := ⟨_, rfl⟩
            rw [hw2] at BX2 G2 ⊢
            clear hw2
            have t0 := BX2.out.at0
            have t1 := BX2.out.at1
            clear c0 c1 c2 c3 hb0 hb1
            have e0 : w2.cell? ⟨w.heap.size, 0, none⟩ = some (.slice A m c) := ((XA.out.keep HG.out).keep G2.out).cell
            have t2 := BX2.out.at2
            have t3 := BX2.out.at3
            go_wp2_with fail
            refine (HS.out _ (HGW.out.trans G2.out)).mono ?_
            rintro e w2' ⟨rfl, rfl⟩
            go_upto_region 14 with (go_quiet (fail))
            clear e0 t0 t1 t2 t3
            have HOa := Lib.hid (HO.out.keep G2.out)
            have HXa := Lib.hid (HX.out.keep G2.out)
            have HGa : Hid (Grows w0 w2) := HG.out.trans G2.out
            have hboa := HXa.out.cell
            have t0 := BX2.out.at0
            have t1 := BX2.out.at1
            have t2 := BX2.out.at2
            have t3 := BX2.out.at3
            have SZ := HGa.out.size
            clear hbo
            go_wp2_with (at_builtin; refine appEs rfl _ _ rfl w0.heap.size v K2 rfl (HOa.out.keep (by repeat (first | exact Grows.refl _ | refine Grows.alloc ?_ _ | refine Grows.drew ?_ | refine Grows.drewN ?_ _))) ⟨w2.heap.size, 0, none⟩ 1 1 [x] rfl rfl (by omega) (one_newsE _ x _ rfl) (by omega) (by omega) (Nat.le_trans HGa.out.size (by simp)) ?_)
            intro v' w6 HO6 HGB HNE
            have G7 : Hid (w2.grownBy w6 v.ownBlock) := (gb_of2 (by repeat (first | exact Grows.refl _ | refine Grows.alloc ?_ _ | refine Grows.drew ?_ | refine Grows.drewN ?_ _)) _).trans HGB.out
            obtain ⟨A8, n8, c8, rfl⟩ := HO6.out.form3
            have HX6 := Lib.hid (HXa.out.far G7.out HNB.out)
            have hx6 := HX6.out.cell
            have hf6 := HX6.out.free
            have HN6 : Hid ((Value.slice A8 n8 c8).ownBlock ≠ some (w0.heap.size + 1)) := fun e => by
              rcases HNE.out _ e with h | h
              · exact HNB.out h
              · have h1 := HXa.out.lt
                simp at h
                omega
            have HG6 : Hid (Grows w0 w6) := HGa.out.mark G7.out (fun k hk => (HOa.out.lt k hk).1)
            clear HGB HNE t0 t1 t2 t3 hboa
            go_wp2
            go_roundw
            case rel => exact ⟨j + 1, K2 ++ [x], _, by omega, by go_num, HV, by simp; omega, HO6.out.setFar HN6.out _, HX6.out.set_ _, HN6.out, HG6.out.setCell (by simp) _⟩
            case measure => simp [intOf]; omega
          · obtain ⟨b2, o2, rfl, hb2, hc2⟩ := HA.out (by omega)
            obtain ⟨y, hy⟩ : ∃ y, xs[q] = y := ⟨_, rfl⟩
            have hat2 := (hc2 q hq).keep hb2 HGW.out
            rw [hy] at hat2 hl0
            obtain ⟨d0, d1, d2, d3⟩ := hat2
            have HNI : Hid (newIn xs x = !(y.v.toList == x.v.toList)) := by unfold Hid newIn; rw [hl0]
            rw [h0] at HS
            have hqn : q < m := by rw [← HM.out]; exact hq
            clear h0 hc2 hy hl0
            go_upto_region 12 with (fail)
            have BX2 : Hid (BoxE (wr.alloc (.cells #[.string x.s, .string x.k, .int .i64 x.op, .string x.v] 66)) wr.heap.size x 66) := BoxE.new wr x 66
            have G2 : Hid (Grows wr (wr.alloc (.cells #[.string x.s, .string x.k, .int .i64 x.op, .string x.v] 66))) := (Grows.refl wr).alloc _
            obtain ⟨w2, hw2⟩ : ∃ w2, wr.alloc (.cells #[.string x.s, .string x.k, .int .i64 x.op, .string x.v] 66) = w2 := ⟨_, rfl⟩
            rw [hw2] at BX2 G2 ⊢
            clear hw2
            have t0 := BX2.out.at0
            have t1 := BX2.out.at1
            clear c0 c1 c2 c3 hb0 hb1
            have e0 : w2.cell? ⟨w.heap.size, 0, none⟩ = some (.slice (some ⟨b2, o2, none⟩) m c) := ((XA.out.keep HG.out).keep G2.out).cell
            have z3 : w2.cell? ⟨b2, o2 + q * 4 + 3, none⟩ = some (.string y.v) := (G2.out.cell (p := ⟨b2, o2 + q * 4 + 3, none⟩) (Nat.lt_of_lt_of_le hb2 HGW.out.size)).trans d3
            have t2 := BX2.out.at2
            have t3 := BX2.out.at3
            clear d0 d1 d2 d3
            go_wp2_with fail
            refine (HS.out _ (HGW.out.trans G2.out)).mono ?_
            rintro e w2' ⟨rfl, rfl⟩
            by_cases hs : (y.v.toList == x.v.toList) = true
            · have HV : Hid (K2 = (xs.filter (freshIn bs)).map dropE ++ (bs.take (j + 1)).filter (newIn xs)) := by unfold Hid; rw [HFS.out, HK.out, HNI.out, hs]; simp
              go_wp2_with fail
              go_quiet (fail)
              go_wp2_with fail
              go_wp2
              go_roundw
              case rel => exact ⟨j + 1, K2, v, by omega, by go_num, HV, by omega, HO.out.keep (G2.out.trans (by repeat (first | exact Grows.refl _ | refine Grows.alloc ?_ _ | refine Grows.drew ?_ | refine Grows.drewN ?_ _))), HX.out.keep (G2.out.trans (by repeat (first | exact Grows.refl _ | refine Grows.alloc ?_ _ | refine Grows.drew ?_ | refine Grows.drewN ?_ _))), HNB.out, HG.out.trans (G2.out.trans (by repeat (first | exact Grows.refl _ | refine Grows.alloc ?_ _ | refine Grows.drew ?_ | refine Grows.drewN ?_ _)))⟩
              case measure => simp [intOf]; omega
            · have hs' : (y.v.toList == x.v.toList) = false := by simpa using hs
              have HV : Hid (K2 ++ [x] = (xs.filter (freshIn bs)).map dropE ++ (bs.take (j + 1)).filter (newIn xs)) := by unfold Hid; rw [HFS.out, HK.out, HNI.out, hs']; simp
              clear hs
              go_upto_region 14 with (go_quiet (fail))
              clear e0 z3 t0 t1 t2 t3 hs'
              have HOa := Lib.hid (HO.out.keep G2.out)
              have HXa := Lib.hid (HX.out.keep G2.out)
              have HGa : Hid (Grows w0 w2) := HG.out.trans G2.out
              have hboa := HXa.out.cell
              have t0 := BX2.out.at0
              have t1 := BX2.out.at1
              have t2 := BX2.out.at2
              have t3 := BX2.out.at3
              have SZ := HGa.out.size
              clear hbo
              go_wp2_with (at_builtin; refine appEs rfl _ _ rfl w0.heap.size v K2 rfl (HOa.out.keep (by repeat (first | exact Grows.refl _ | refine Grows.alloc ?_ _ | refine Grows.drew ?_ | refine Grows.drewN ?_ _))) ⟨w2.heap.size, 0, none⟩ 1 1 [x] rfl rfl (by omega) (one_newsE _ x _ rfl) (by omega) (by omega) (Nat.le_trans HGa.out.size (by simp)) ?_)
              intro v' w6 HO6 HGB HNE
              have G7 : Hid (w2.grownBy w6 v.ownBlock) := (gb_of2 (by repeat (first | exact Grows.refl _ | refine Grows.alloc ?_ _ | refine Grows.drew ?_ | refine Grows.drewN ?_ _)) _).trans HGB.out
              obtain ⟨A8, n8, c8, rfl⟩ := HO6.out.form3
              have HX6 := Lib.hid (HXa.out.far G7.out HNB.out)
              have hx6 := HX6.out.cell
              have hf6 := HX6.out.free
              have HN6 : Hid ((Value.slice A8 n8 c8).ownBlock ≠ some (w0.heap.size + 1)) := fun e => by
                rcases HNE.out _ e with h | h
                · exact HNB.out h
                · have h1 := HXa.out.lt
                  simp at h
                  omega
              have HG6 : Hid (Grows w0 w6) := HGa.out.mark G7.out (fun k hk => (HOa.out.lt k hk).1)
              clear HGB HNE t0 t1 t2 t3 hboa
              go_wp2
              go_roundw
              case rel => exact ⟨j + 1, K2 ++ [x], _, by omega, by go_num, HV, by simp; omega, HO6.out.setFar HN6.out _, HX6.out.set_ _, HN6.out, HG6.out.setCell (by simp) _⟩
              case measure => simp [intOf]; omega
        · have HJM : Hid (j = n) := (by omega : j = n)
          have h1 := (XR.out.keep HG.out).cell
          have h2 := (XR.out.keep HG.out).free
          have HR : Hid (K2 = patchR xs bs) := by unfold Hid patchR; rw [HK.out, HJM.out, ← HN.out, List.take_length]
          have HN9 : Hid (v.ownBlock ≠ some (w.heap.size + 1 + 1)) := fun e => by have := (HO.out.lt _ e).1; omega
          subst hv9
          go_wp2
          refine bodyPost_ret (v := .agg #[.slice A9 n9 c9]) (by simp [results, Tryd.results43, go_sem, h1]) rfl ?_
          rw [← HR.out]
          exact ⟨_, rfl, (HO.out.setFar HN9.out _).less (by omega), HGW.out.setCell (by simp; omega) _⟩
end Go.Proofs.YtcecjdjfbgmogaaDoor
