/-
  A layer over another one, as the specification puts it together. Conditions: parts of at most 1048576 bytes.
-/
import Derived.Test.YtnkggfcibbchdaaDoorMrgP
namespace Go.Proofs.YtnkggfcibbchdaaDoor
open Go.RowKit

theorem BoxE.st4 {w : World} {b : Nat} {e : Ent} {T : TypeId} (h : BoxE w b e T) (z : Ent) : BoxE (st4 w b 0 z) b z T := by
  unfold BoxE Go.Proofs.YtnkggfcibbchdaaDoor.st4
  unfold BoxE at h
  simp [World.setCell, Array.getElem?_modify, h]
theorem map_step {bs : List Ent} {k : Nat} (f : Ent → Ent) (hk : k < bs.length) : (bs.take (k + 1)).map f = (bs.take k).map f ++ [f bs[k]] := by
  rw [List.take_succ_eq_append_getElem hk, List.map_append]
  rfl
theorem vent_ops {e : Ent} (h : vent e = true) : e.op = 0 ∨ e.op = 1 ∨ e.op = 2 := by
  unfold vent at h
  simp only [Bool.and_eq_true] at h
  have h3 := h.2.1
  unfold opB at h3
  simp only [Bool.and_eq_true, decide_eq_true_eq] at h3
  omega

set_option maxRecDepth 100000 in
set_option maxHeartbeats 40000000 in
theorem specMerged_any (A : Option Addr) (c : Nat) (xs : List Ent) (B : Option Addr) (d : Nat) (bs : List Ent) (w : World) (h1 : vlayer xs = true) (h2 : vlayer bs = true) (hA : EntsAt w A xs) (hB : EntsAt w B bs) :
    Calls Tryd.prog 40 #[.agg #[.slice A xs.length c], .agg #[.slice B bs.length d]] w (ResE (mergeR xs bs) w) := by
  have hm := vlayer_20 h1
  have hn := vlayer_20 h2
  have HFX := Lib.hid (fun s k w1 (g : Grows w w1) => entryAt_any A c xs s k w1 (by omega) (hA.keep g))
  have HFB := Lib.hid (fun s k w1 (g : Grows w w1) => entryAt_any B d bs s k w1 (by omega) (hB.keep g))
  have HA := Lib.hid hA
  have HBB := Lib.hid hB
  have HVX := Lib.hid (fun x hx => vlayer_vent h1 x hx)
  have HVB := Lib.hid (fun x hx => vlayer_vent h2 x hx)
  have HD := Lib.hid (vlayer_dist h1)
  clear hA hB h1 h2
  obtain ⟨m, hmm⟩ : ∃ m, xs.length = m := ⟨_, rfl⟩
  obtain ⟨n, hnn⟩ : ∃ n, bs.length = n := ⟨_, rfl⟩
  rw [hmm] at hm HFX ⊢
  rw [hnn] at hn HFB ⊢
  have HM := Lib.hid hmm
  have HN := Lib.hid hnn
  clear hmm hnn
  go_enter Tryd.func40, Tryd.ntmps40
  go_upto_region 1 with (fail)
  have XA : Hid (Box (((w.alloc (.cells #[.slice A m c] 25)).alloc (.cells #[.slice B n d] 25)).alloc (.cells #[.slice none 0 0] 25)) w.heap.size (.slice A m c) 25) := row_grow (row_grow (heap_alloc_new w _) ((Grows.refl _).alloc _)) ((Grows.refl _).alloc _)
  have XB : Hid (Box (((w.alloc (.cells #[.slice A m c] 25)).alloc (.cells #[.slice B n d] 25)).alloc (.cells #[.slice none 0 0] 25)) (w.heap.size + 1) (.slice B n d) 25) := row_grow (alloc_new2 w _ _) ((Grows.refl _).alloc _)
  have XR : Hid (Box (((w.alloc (.cells #[.slice A m c] 25)).alloc (.cells #[.slice B n d] 25)).alloc (.cells #[.slice none 0 0] 25)) (w.heap.size + 1 + 1) (.slice none 0 0) 25) := alloc_new3 w _ _ _
  have G0 : Hid (Grows w (((w.alloc (.cells #[.slice A m c] 25)).alloc (.cells #[.slice B n d] 25)).alloc (.cells #[.slice none 0 0] 25))) := (((Grows.refl w).alloc _).alloc _).alloc _
  obtain ⟨w0, hw0⟩ : ∃ w0, ((w.alloc (.cells #[.slice A m c] 25)).alloc (.cells #[.slice B n d] 25)).alloc (.cells #[.slice none 0 0] 25) = w0 := ⟨_, rfl⟩
  rw [hw0] at XA XB XR G0 ⊢
  clear hw0
  have S0 : w.heap.size + 1 + 1 < w0.heap.size := XR.out.lt
  have HO2 : Hid (OwnE ((w0.alloc (.cells #[] 36)).alloc (.cells #[.slice (some ⟨w0.heap.size, 0, none⟩) 0 0] 25)) w0.heap.size (.slice (some ⟨w0.heap.size, 0, none⟩) 0 0) []) := (OwnE.empty w0 _ (Nat.le_refl _)).keep ((Grows.refl _).alloc _)
  have HX2 : Hid (Box ((w0.alloc (.cells #[] 36)).alloc (.cells #[.slice (some ⟨w0.heap.size, 0, none⟩) 0 0] 25)) (w0.heap.size + 1) (.slice (some ⟨w0.heap.size, 0, none⟩) 0 0) 25) := by
    have h := Box.new (w0.alloc (.cells #[] 36)) (.slice (some ⟨w0.heap.size, 0, none⟩) 0 0) 25
    simp only [World.size_alloc] at h
    exact h
  go_wp2_with fail
  go_loopw [6] (fun i wr => ∃ (k : Nat) (K : List Ent) (v : Value), k ≤ n ∧ i = .int .i64 k ∧ Hid (K = (bs.take k).map (ovr xs)) ∧ K.length ≤ k ∧ Hid (OwnE wr w0.heap.size v K) ∧ Hid (Box wr (w0.heap.size + 1) v 25) ∧ Hid (v.ownBlock ≠ some (w0.heap.size + 1)) ∧ Hid (Grows w0 wr)) (fun i _ => n - (intOf i).toNat)
  case atStart => exact ⟨0, [], _, Nat.zero_le _, rfl, by unfold Hid; rfl, Nat.zero_le _, HO2.out, HX2.out, (fun h => by have h' : some w0.heap.size = some (w0.heap.size + 1) := h; injection h' with h'; omega), ((Grows.refl _).alloc _).alloc _⟩
  case round =>
    obtain ⟨k, K, v, hk, rfl, HK, hKk, HO, HX, HNB, HG⟩ := hrel
    have hb0 := (XA.out.keep HG.out).cell
    have hb1 := (XB.out.keep HG.out).cell
    have hbo := HX.out.cell
    have SZ0 := HG.out.size
    have HGW : Hid (Grows w wr) := G0.out.trans HG.out
    obtain ⟨A9, n9, c9, hv9⟩ := HO.out.form3
    by_cases hlt : k < n
    · obtain ⟨b, o, rfl, hb, hc⟩ := HBB.out (by rw [HN.out]; omega)
      have hk2 : k < bs.length := by rw [HN.out]; exact hlt
      obtain ⟨x, hx⟩ : ∃ x, bs[k] = x := ⟨_, rfl⟩
      have hat := (hc k hk2).keep hb HGW.out
      have hfs := map_step (ovr xs) hk2
      have hvx := HVB.out bs[k] (List.getElem_mem hk2)
      rw [hx] at hat hfs hvx
      obtain ⟨c0, c1, c2, c3⟩ := hat
      have HFS := Lib.hid hfs
      have HVx := Lib.hid hvx
      have HS := Lib.hid (fun w1 (g : Grows w w1) => HFX.out x.s x.k w1 g)
      clear hx hc hfs hv9 hvx
      rcases last_idx HD.out x.s x.k with ⟨h0, hl0⟩ | ⟨q, hq, h0, hl0⟩
      · have HV : Hid (K ++ [x] = (bs.take (k + 1)).map (ovr xs)) := by unfold Hid; rw [HFS.out, HK.out]; unfold ovr; rw [hl0]
        rw [h0] at HS
        clear h0 hl0
        go_upto_region 6 with (fail)
        have BX2 : Hid (BoxE (wr.alloc (.cells #[.string x.s, .string x.k, .int .i64 x.op, .string x.v] 36)) wr.heap.size x 36) := BoxE.new wr x 36
        have G2 : Hid (Grows wr (wr.alloc (.cells #[.string x.s, .string x.k, .int .i64 x.op, .string x.v] 36))) := (Grows.refl wr).alloc _
        obtain ⟨w2, hw2⟩ : ∃ w2, wr.alloc (.cells #[.string x.s, .string x.k, .int .i64 x.op, .string x.v] 36) = w2 := ⟨_, rfl⟩
        rw [hw2] at BX2 G2 ⊢
        clear hw2
        have e0 : w2.cell? ⟨w.heap.size, 0, none⟩ = some (.slice A m c) := ((XA.out.keep HG.out).keep G2.out).cell
        have t0 := BX2.out.at0
        have t1 := BX2.out.at1
        clear c0 c1 c2 c3 hb0 hb1
        go_wp2_with fail
        refine (HS.out _ (HGW.out.trans G2.out)).mono ?_
        rintro e w2' ⟨rfl, rfl⟩
        clear e0 t0 t1
        have HOa := Lib.hid (HO.out.keep G2.out)
        have HXa := Lib.hid (HX.out.keep G2.out)
        have HGa : Hid (Grows w0 w2) := HG.out.trans G2.out
        have hboa := HXa.out.cell
        have t0 := BX2.out.at0
        have t1 := BX2.out.at1
        have t2 := BX2.out.at2
        have t3 := BX2.out.at3
        have SZ := HGa.out.size
        clear hbo 
        go_wp2_with (at_builtin; refine appEs rfl _ _ rfl w0.heap.size v K rfl (HOa.out.keep (by repeat (first | exact Grows.refl _ | refine Grows.alloc ?_ _ | refine Grows.drew ?_ | refine Grows.drewN ?_ _))) ⟨w2.heap.size, 0, none⟩ 1 1 [x] rfl rfl (by omega) (one_newsE _ _ _ rfl) (by omega) (by omega) (Nat.le_trans HGa.out.size (by simp)) ?_)
        intro v' w6 HO6 HGB HNE
        have G7 : Hid (w2.grownBy w6 v.ownBlock) := (gb_of2 (by repeat (first | exact Grows.refl _ | refine Grows.alloc ?_ _ | refine Grows.drew ?_ | refine Grows.drewN ?_ _)) _).trans HGB.out
        obtain ⟨A8, n8, c8, rfl⟩ := HO6.out.form3
        have HX6 := Lib.hid (HXa.out.far G7.out HNB.out)
        have hx6 := HX6.out.cell
        have hf6 := HX6.out.free
        have HN6 : Hid ((Value.slice A8 n8 c8).ownBlock ≠ some (w0.heap.size + 1)) := fun e => by
          rcases HNE.out _ e with h | h
          · exact HNB.out h
          · have h1 := HXa.out.lt
            simp at h
            omega
        have HG6 : Hid (Grows w0 w6) := HGa.out.mark G7.out (fun k hk => (HOa.out.lt k hk).1)
        clear HGB HNE t0 t1 t2 t3 hboa
        go_wp2
        go_roundw
        case rel => exact ⟨k + 1, K ++ [x], _, by omega, by go_num, HV, by simp; omega, HO6.out.setFar HN6.out _, HX6.out.set_ _, HN6.out, HG6.out.setCell (by simp) _⟩
        case measure => simp [intOf]; omega
      · obtain ⟨b2, o2, rfl, hb2, hc2⟩ := HA.out (by omega)
        obtain ⟨y, hy⟩ : ∃ y, xs[q] = y := ⟨_, rfl⟩
        have hat2 := (hc2 q hq).keep hb2 HGW.out
        rw [hy] at hat2 hl0
        obtain ⟨d0, d1, d2, d3⟩ := hat2
        obtain ⟨z, hz⟩ : ∃ z, overE y x = z := ⟨_, rfl⟩
        have HV : Hid (K ++ [z] = (bs.take (k + 1)).map (ovr xs)) := by unfold Hid; rw [HFS.out, HK.out]; unfold ovr; rw [hl0]; simp only []; rw [hz]
        have hyv : vent y = true := HVX.out y (by rw [← hy]; exact List.getElem_mem hq)
        have HOV := Lib.hid (fun w => specOver_any y x w (by have := ent_fits' hyv; omega) (by have := ent_fits' HVx.out; omega) (lastE_mem hl0).2.1 (lastE_mem hl0).2.2 (vent_ops HVx.out))
        rw [hz] at HOV
        unfold Ent.agg at HOV
        rw [h0] at HS
        have hqn : q < m := by rw [← HM.out]; exact hq
        clear h0 hc2 hy hl0 hz hyv
        go_upto_region 6 with (fail)
        have BX2 : Hid (BoxE (wr.alloc (.cells #[.string x.s, .string x.k, .int .i64 x.op, .string x.v] 36)) wr.heap.size x 36) := BoxE.new wr x 36
        have G2 : Hid (Grows wr (wr.alloc (.cells #[.string x.s, .string x.k, .int .i64 x.op, .string x.v] 36))) := (Grows.refl wr).alloc _
        obtain ⟨w2, hw2⟩ : ∃ w2, wr.alloc (.cells #[.string x.s, .string x.k, .int .i64 x.op, .string x.v] 36) = w2 := ⟨_, rfl⟩
        rw [hw2] at BX2 G2 ⊢
        clear hw2
        have e0 : w2.cell? ⟨w.heap.size, 0, none⟩ = some (.slice (some ⟨b2, o2, none⟩) m c) := ((XA.out.keep HG.out).keep G2.out).cell
        have t0 := BX2.out.at0
        have t1 := BX2.out.at1
        clear c0 c1 c2 c3 hb0 hb1
        go_wp2_with fail
        refine (HS.out _ (HGW.out.trans G2.out)).mono ?_
        rintro e w2' ⟨rfl, rfl⟩
        have z0 : w2.cell? ⟨b2, o2 + q * 4, none⟩ = some (.string y.s) := (G2.out.cell (p := ⟨b2, o2 + q * 4, none⟩) (Nat.lt_of_lt_of_le hb2 HGW.out.size)).trans d0
        have z1 : w2.cell? ⟨b2, o2 + q * 4 + 1, none⟩ = some (.string y.k) := (G2.out.cell (p := ⟨b2, o2 + q * 4 + 1, none⟩) (Nat.lt_of_lt_of_le hb2 HGW.out.size)).trans d1
        have z2 : w2.cell? ⟨b2, o2 + q * 4 + 2, none⟩ = some (.int .i64 y.op) := (G2.out.cell (p := ⟨b2, o2 + q * 4 + 2, none⟩) (Nat.lt_of_lt_of_le hb2 HGW.out.size)).trans d2
        have z3 : w2.cell? ⟨b2, o2 + q * 4 + 3, none⟩ = some (.string y.v) := (G2.out.cell (p := ⟨b2, o2 + q * 4 + 3, none⟩) (Nat.lt_of_lt_of_le hb2 HGW.out.size)).trans d3
        have t2 := BX2.out.at2
        have t3 := BX2.out.at3
        clear d0 d1 d2 d3
        go_wp2_with fail
        refine wp_region_M 7 (CellsAre [(⟨w.heap.size, 0, none⟩, .slice (some ⟨b2, o2, none⟩) m c), (⟨b2, o2 + q * 4, none⟩, .string y.s), (⟨b2, o2 + q * 4 + 1, none⟩, .string y.k), (⟨b2, o2 + q * 4 + 2, none⟩, .int .i64 y.op), (⟨b2, o2 + q * 4 + 3, none⟩, .string y.v), (⟨wr.heap.size, 0, none⟩, .string x.s), (⟨wr.heap.size, 1, none⟩, .string x.k), (⟨wr.heap.size, 2, none⟩, .int .i64 x.op), (⟨wr.heap.size, 3, none⟩, .string x.v)]) (by kernel_rfl) (by kernel_rfl) ⟨e0, z0, z1, z2, z3, t0, t1, t2, t3, trivial⟩ (fun hB hS => ?_)
        refine wpAnyM_take (i := 0) (v := ?vr0) hB rfl (by kernel_rfl) (fun _ _ _ h => h) (by rfl) ?yr0 hS ?nr0
        case yr0 => (intro w9 hSw; obtain ⟨s1, s2, s3, s4, s5, s6, s7, s8, s9, _⟩ := hSw; go_simp; try with_reducible rfl)
        refine wpAnyM_take (i := 1) (v := ?vr1) hB rfl (by kernel_rfl) (fun _ _ _ h => h) (by rfl) ?yr1 hS ?nr1
        case yr1 => (intro w9 hSw; obtain ⟨s1, s2, s3, s4, s5, s6, s7, s8, s9, _⟩ := hSw; go_simp; try with_reducible rfl)
        refine wpAnyM_take (i := 2) (v := ?vr2) hB rfl (by kernel_rfl) (fun _ _ _ h => h) (by rfl) ?yr2 hS ?nr2
        case yr2 => (intro w9 hSw; obtain ⟨s1, s2, s3, s4, s5, s6, s7, s8, s9, _⟩ := hSw; go_simp; try with_reducible rfl)
        refine wpAnyM_take (i := 3) (v := ?vr3) hB rfl (by kernel_rfl) (fun _ _ _ h => h) (by rfl) ?yr3 hS ?nr3
        case yr3 => (intro w9 hSw; obtain ⟨s1, s2, s3, s4, s5, s6, s7, s8, s9, _⟩ := hSw; go_simp; try with_reducible rfl)
        refine wpAnyM_take (i := 4) (v := ?vr4) hB rfl (by kernel_rfl) (fun _ _ _ h => h) (by rfl) ?yr4 hS ?nr4
        case yr4 => (intro w9 hSw; obtain ⟨s1, s2, s3, s4, s5, s6, s7, s8, s9, _⟩ := hSw; go_simp; try with_reducible rfl)
        refine wpAnyM_take (i := 5) (v := ?vr5) hB rfl (by kernel_rfl) (fun _ _ _ h => h) (by rfl) ?yr5 hS ?nr5
        case yr5 => (intro w9 hSw; obtain ⟨s1, s2, s3, s4, s5, s6, s7, s8, s9, _⟩ := hSw; go_simp; try with_reducible rfl)
        refine wpAnyM_one (i := 6) rfl (by kernel_rfl) rfl ?_
        have HS9 := Lib.hid hS
        clear hS
        go_wp2_with fail
        refine (HOV.out _).mono ?_
        rintro r w3 ⟨rfl, g3⟩
        have HS3 := Lib.hid (CellsAre.keep HS9.out g3)
        have G3 : Hid (Grows w2 w3) := (Grows.refl _).drew.trans g3
        have BX3 := Lib.hid (BX2.out.keep G3.out)
        clear g3 HS9
        go_wp2_with fail
        refine ⟨HS3.out, ?_⟩
        refine wpAnyM_tail (by kernel_rfl) ?_
        clear hB HS3 t0 t1 t2 t3 z0 z1 z2 z3 e0
        have t0 := BX3.out.at0
        have t1 := BX3.out.at1
        have t2 := BX3.out.at2
        have t3 := BX3.out.at3
        have f0 := BX3.out.free 0
        have f1 := BX3.out.free 1
        have f2 := BX3.out.free 2
        have f3 := BX3.out.free 3
        go_upto_region 9 with (fail)
        change Code.wp _ _ _ _ (st4 w3 wr.heap.size 0 z)
        have BX6 : Hid (BoxE (st4 w3 wr.heap.size 0 z) wr.heap.size z 36) := BX3.out.st4 z
        have G6 : Hid (w3.grownBy (st4 w3 wr.heap.size 0 z) (some wr.heap.size)) := gb_st4 w3 wr.heap.size 0 z
        obtain ⟨w4, hw4⟩ : ∃ w4, st4 w3 wr.heap.size 0 z = w4 := ⟨_, rfl⟩
        rw [hw4] at BX6 G6 ⊢
        clear hw4 t0 t1 t2 t3 f0 f1 f2 f3
        have G4 : Hid (Grows wr w4) := (G2.out.trans G3.out).mark G6.out (fun i hi => by injection hi with hi; omega)
        have HOa := Lib.hid (HO.out.keep G4.out)
        have HXa := Lib.hid (HX.out.keep G4.out)
        have HGa : Hid (Grows w0 w4) := HG.out.trans G4.out
        have hboa := HXa.out.cell
        have t0 := BX6.out.at0
        have t1 := BX6.out.at1
        have t2 := BX6.out.at2
        have t3 := BX6.out.at3
        have SZ := HGa.out.size
        clear hbo 
        go_wp2_with (at_builtin; refine appEs rfl _ _ rfl w0.heap.size v K rfl (HOa.out.keep (by repeat (first | exact Grows.refl _ | refine Grows.alloc ?_ _ | refine Grows.drew ?_ | refine Grows.drewN ?_ _))) ⟨w4.heap.size, 0, none⟩ 1 1 [z] rfl rfl (by omega) (one_newsE _ _ _ rfl) (by omega) (by omega) (Nat.le_trans HGa.out.size (by simp)) ?_)
        intro v' w6 HO6 HGB HNE
        have G7 : Hid (w4.grownBy w6 v.ownBlock) := (gb_of2 (by repeat (first | exact Grows.refl _ | refine Grows.alloc ?_ _ | refine Grows.drew ?_ | refine Grows.drewN ?_ _)) _).trans HGB.out
        obtain ⟨A8, n8, c8, rfl⟩ := HO6.out.form3
        have HX6 := Lib.hid (HXa.out.far G7.out HNB.out)
        have hx6 := HX6.out.cell
        have hf6 := HX6.out.free
        have HN6 : Hid ((Value.slice A8 n8 c8).ownBlock ≠ some (w0.heap.size + 1)) := fun e => by
          rcases HNE.out _ e with h | h
          · exact HNB.out h
          · have h1 := HXa.out.lt
            simp at h
            omega
        have HG6 : Hid (Grows w0 w6) := HGa.out.mark G7.out (fun k hk => (HOa.out.lt k hk).1)
        clear HGB HNE t0 t1 t2 t3 hboa
        go_wp2
        go_roundw
        case rel => exact ⟨k + 1, K ++ [z], _, by omega, by go_num, HV, by simp; omega, HO6.out.setFar HN6.out _, HX6.out.set_ _, HN6.out, HG6.out.setCell (by simp) _⟩
        case measure => simp [intOf]; omega
    · have HKN : Hid (k = n) := (by omega : k = n)
      have HK9 : Hid (K = bs.map (ovr xs)) := by unfold Hid; rw [HK.out, HKN.out, ← HN.out, List.take_length]
      subst hv9
      clear HFX HVX HVB HD HBB HK
      go_wp2_with fail
      obtain ⟨wq, hwq⟩ : ∃ wq, wr = wq := ⟨_, rfl⟩
      rw [hwq] at HO HX HG HGW ⊢
      clear hwq hb0 hb1 hbo
      go_loopw [9] (fun i wr => ∃ (k : Nat) (K2 : List Ent) (v : Value), k ≤ m ∧ i = .int .i64 k ∧ Hid (K2 = bs.map (ovr xs) ++ (xs.take k).filter (freshIn bs)) ∧ K2.length ≤ 20 + k ∧ Hid (OwnE wr w0.heap.size v K2) ∧ Hid (Box wr (w0.heap.size + 1) v 25) ∧ Hid (v.ownBlock ≠ some (w0.heap.size + 1)) ∧ Hid (Grows w0 wr)) (fun i _ => m - (intOf i).toNat)
      case atStart => exact ⟨0, K, _, Nat.zero_le _, rfl, by unfold Hid; rw [HK9.out]; simp, by omega, HO.out, HX.out, HNB.out, HG.out⟩
      case round =>
        clear HO HX HNB HG HGW HK9
        obtain ⟨j, K2, v, hj, rfl, HK, hKk2, HO, HX, HNB, HG⟩ := hrel
        have hb0 := (XA.out.keep HG.out).cell
        have hb1 := (XB.out.keep HG.out).cell
        have hbo := HX.out.cell
        have HGW : Hid (Grows w wr) := G0.out.trans HG.out
        obtain ⟨A9, n9, c9, hv9⟩ := HO.out.form3
        by_cases hlt : j < m
        · obtain ⟨b, o, rfl, hb, hc⟩ := HA.out (by rw [HM.out]; omega)
          have hj2 : j < xs.length := by rw [HM.out]; exact hlt
          obtain ⟨x, hx⟩ : ∃ x, xs[j] = x := ⟨_, rfl⟩
          have hat := (hc j hj2).keep hb HGW.out
          have hfs := filter_step (p := freshIn bs) hj2
          rw [hx] at hat hfs
          obtain ⟨c0, c1, c2, c3⟩ := hat
          have HFS := Lib.hid hfs
          have HS := Lib.hid (fun w1 (g : Grows w w1) => HFB.out x.s x.k w1 g)
          have hfi := fresh_idx bs x
          have hix := entIdx_lt bs x.s x.k
          obtain ⟨ix, hixx⟩ : ∃ ix, entIdx bs x.s x.k = ix := ⟨_, rfl⟩
          rw [hixx] at hfi hix HS
          have HFI := Lib.hid hfi
          rw [HN.out] at hix
          clear hx hc hfs hv9 hfi hixx
          by_cases hs : ix < 0
          · have HV : Hid (K2 ++ [x] = bs.map (ovr xs) ++ (xs.take (j + 1)).filter (freshIn bs)) := by unfold Hid; rw [HFS.out, HK.out, HFI.out, decide_eq_true hs]; simp
            go_wp2_with fail
            refine wp_region_M 14 (CellsAre [(⟨w.heap.size + 1, 0, none⟩, .slice B n d), (⟨w.heap.size, 0, none⟩, .slice (some ⟨b, o, none⟩) m c), (⟨b, o + j * 4, none⟩, .string x.s), (⟨b, o + j * 4 + 1, none⟩, .string x.k)]) (by kernel_rfl) (by kernel_rfl) ⟨hb1, hb0, c0, c1, trivial⟩ (fun hB hS => ?_)
            refine wpAnyM_take (i := 0) (v := ?vg0) hB rfl (by kernel_rfl) (fun _ _ _ h => h) (by rfl) ?yg0 hS ?ng0
            case yg0 => (intro w9 hSw; obtain ⟨s1, s2, s3, s4, _⟩ := hSw; go_simp; try with_reducible rfl)
            refine wpAnyM_take (i := 1) (v := ?vg1) hB rfl (by kernel_rfl) (fun _ _ _ h => h) (by rfl) ?yg1 hS ?ng1
            case yg1 => (intro w9 hSw; obtain ⟨s1, s2, s3, s4, _⟩ := hSw; go_simp; try with_reducible rfl)
            refine wpAnyM_take (i := 2) (v := ?vg2) hB rfl (by kernel_rfl) (fun _ _ _ h => h) (by rfl) ?yg2 hS ?ng2
            case yg2 => (intro w9 hSw; obtain ⟨s1, s2, s3, s4, _⟩ := hSw; go_simp; try with_reducible rfl)
            refine wpAnyM_take (i := 3) (v := ?vg3) hB rfl (by kernel_rfl) (fun _ _ _ h => h) (by rfl) ?yg3 hS ?ng3
            case yg3 => (intro w9 hSw; obtain ⟨s1, s2, s3, s4, _⟩ := hSw; go_simp; try with_reducible rfl)
            refine wpAnyM_take (i := 4) (v := ?vg4) hB rfl (by kernel_rfl) (fun _ _ _ h => h) (by rfl) ?yg4 hS ?ng4
            case yg4 => (intro w9 hSw; obtain ⟨s1, s2, s3, s4, _⟩ := hSw; go_simp; try with_reducible rfl)
            refine wpAnyM_take (i := 5) (v := ?vg5) hB rfl (by kernel_rfl) (fun _ _ _ h => h) (by rfl) ?yg5 hS ?ng5
            case yg5 => (intro w9 hSw; obtain ⟨s1, s2, s3, s4, _⟩ := hSw; go_simp; try with_reducible rfl)
            refine wpAnyM_take (i := 6) (v := ?vg6) hB rfl (by kernel_rfl) (fun _ _ _ h => h) (by rfl) ?yg6 hS ?ng6
            case yg6 => (intro w9 hSw; obtain ⟨s1, s2, s3, s4, _⟩ := hSw; go_simp; try with_reducible rfl)
            refine wpAnyM_take (i := 7) (v := ?vg7) hB rfl (by kernel_rfl) (fun _ _ _ h => h) (by rfl) ?yg7 hS ?ng7
            case yg7 => (intro w9 hSw; obtain ⟨s1, s2, s3, s4, _⟩ := hSw; go_simp; try with_reducible rfl)
            refine wpAnyM_take (i := 8) (v := ?vg8) hB rfl (by kernel_rfl) (fun _ _ _ h => h) (by rfl) ?yg8 hS ?ng8
            case yg8 => (intro w9 hSw; obtain ⟨s1, s2, s3, s4, _⟩ := hSw; go_simp; try with_reducible rfl)
            refine wpAnyM_take (i := 9) (v := ?vg9) hB rfl (by kernel_rfl) (fun _ _ _ h => h) (by rfl) ?yg9 hS ?ng9
            case yg9 => (intro w9 hSw; obtain ⟨s1, s2, s3, s4, _⟩ := hSw; go_simp; try with_reducible rfl)
            refine wpAnyM_take (i := 10) (v := ?vg10) hB rfl (by kernel_rfl) (fun _ _ _ h => h) (by rfl) ?yg10 hS ?ng10
            case yg10 => (intro w9 hSw; obtain ⟨s1, s2, s3, s4, _⟩ := hSw; go_simp; try with_reducible rfl)
            refine wpAnyM_take (i := 11) (v := ?vg11) hB rfl (by kernel_rfl) (fun _ _ _ h => h) (by rfl) ?yg11 hS ?ng11
            case yg11 => (intro w9 hSw; obtain ⟨s1, s2, s3, s4, _⟩ := hSw; go_simp; try with_reducible rfl)
            refine wpAnyM_take (i := 12) (v := ?vg12) hB rfl (by kernel_rfl) (fun _ _ _ h => h) (by rfl) ?yg12 hS ?ng12
            case yg12 => (intro w9 hSw; obtain ⟨s1, s2, s3, s4, _⟩ := hSw; go_simp; try with_reducible rfl)
            refine wpAnyM_take (i := 13) (v := ?vg13) hB rfl (by kernel_rfl) (fun _ _ _ h => h) (by rfl) ?yg13 hS ?ng13
            case yg13 => (intro w9 hSw; obtain ⟨s1, s2, s3, s4, _⟩ := hSw; go_simp; try with_reducible rfl)
            refine wpAnyM_tail (by kernel_rfl) ?_
            clear hB hS
            go_wp2_with fail
            refine (HS.out _ HGW.out.drew).mono ?_
            rintro e w2 ⟨rfl, rfl⟩
            go_wp2_with fail
            refine wp_region_M 8 (CellsAre [(⟨w0.heap.size + 1, 0, none⟩, v), (⟨w.heap.size, 0, none⟩, .slice (some ⟨b, o, none⟩) m c), (⟨b, o + j * 4, none⟩, .string x.s), (⟨b, o + j * 4 + 1, none⟩, .string x.k), (⟨b, o + j * 4 + 2, none⟩, .int .i64 x.op), (⟨b, o + j * 4 + 3, none⟩, .string x.v)]) (by kernel_rfl) (by kernel_rfl) ⟨hbo, hb0, c0, c1, c2, c3, trivial⟩ (fun hB hS => ?_)
            refine wpAnyM_take (i := 0) (v := ?vb0) hB rfl (by kernel_rfl) (fun _ _ _ h => h) (by rfl) ?yb0 hS ?nb0
            case yb0 => (intro w9 hSw; obtain ⟨s1, s2, s3, s4, s5, s6, _⟩ := hSw; go_simp; try with_reducible rfl)
            refine wpAnyM_take (i := 1) (v := ?vb1) hB rfl (by kernel_rfl) (fun _ _ _ h => h) (by rfl) ?yb1 hS ?nb1
            case yb1 => (intro w9 hSw; obtain ⟨s1, s2, s3, s4, s5, s6, _⟩ := hSw; go_simp; try with_reducible rfl)
            refine wpAnyM_take (i := 2) (v := ?vb2) hB rfl (by kernel_rfl) (fun _ _ _ h => h) (by rfl) ?yb2 hS ?nb2
            case yb2 => (intro w9 hSw; obtain ⟨s1, s2, s3, s4, s5, s6, _⟩ := hSw; go_simp; try with_reducible rfl)
            refine wpAnyM_take (i := 3) (v := ?vb3) hB rfl (by kernel_rfl) (fun _ _ _ h => h) (by rfl) ?yb3 hS ?nb3
            case yb3 => (intro w9 hSw; obtain ⟨s1, s2, s3, s4, s5, s6, _⟩ := hSw; go_simp; try with_reducible rfl)
            refine wpAnyM_take (i := 4) (v := ?vb4) hB rfl (by kernel_rfl) (fun _ _ _ h => h) (by rfl) ?yb4 hS ?nb4
            case yb4 => (intro w9 hSw; obtain ⟨s1, s2, s3, s4, s5, s6, _⟩ := hSw; go_simp; try with_reducible rfl)
            refine wpAnyM_take (i := 5) (v := ?vb5) hB rfl (by kernel_rfl) (fun _ _ _ h => h) (by rfl) ?yb5 hS ?nb5
            case yb5 => (intro w9 hSw; obtain ⟨s1, s2, s3, s4, s5, s6, _⟩ := hSw; go_simp; try with_reducible rfl)
            refine wpAnyM_take (i := 6) (v := ?vb6) hB rfl (by kernel_rfl) (fun _ _ _ h => h) (by rfl) ?yb6 hS ?nb6
            case yb6 => (intro w9 hSw; obtain ⟨s1, s2, s3, s4, s5, s6, _⟩ := hSw; go_simp; try with_reducible rfl)
            refine wpAnyM_one (i := 7) rfl (by kernel_rfl) rfl ?_
            have HS9 := Lib.hid hS
            clear hS
            go_wp2_with fail
            refine ⟨CellsAre.keep (show CellsAre _ wr from HS9.out) (by repeat (first | exact Grows.refl _ | refine Grows.alloc ?_ _ | refine Grows.drew ?_ | refine Grows.drewN ?_ _)), ?_⟩
            refine wpAnyM_tail (by kernel_rfl) ?_
            clear HS9 hB hbo c0 c1 c2 c3 hb0 hb1
            go_wp2_with (at_builtin; refine appEs rfl _ _ rfl w0.heap.size v K2 rfl (HO.out.keep (by repeat (first | exact Grows.refl _ | refine Grows.alloc ?_ _ | refine Grows.drew ?_ | refine Grows.drewN ?_ _))) ⟨wr.heap.size, 0, none⟩ 1 1 [x] rfl rfl (by omega) (one_newsE _ _ _ rfl) (by omega) (by omega) (Nat.le_trans HG.out.size (by simp)) ?_)
            intro v' w6 HO6 HGB HNE
            have G6 : Hid (wr.grownBy w6 v.ownBlock) := (gb_of2 (by repeat (first | exact Grows.refl _ | refine Grows.alloc ?_ _ | refine Grows.drew ?_ | refine Grows.drewN ?_ _)) _).trans HGB.out
            obtain ⟨A8, n8, c8, rfl⟩ := HO6.out.form3
            have HX6 := Lib.hid (HX.out.far G6.out HNB.out)
            have hx6 := HX6.out.cell
            have hf6 := HX6.out.free
            have HN6 : Hid ((Value.slice A8 n8 c8).ownBlock ≠ some (w0.heap.size + 1)) := fun e => by
              rcases HNE.out _ e with h | h
              · exact HNB.out h
              · have h1 := HX.out.lt
                simp at h
                omega
            have HG6 : Hid (Grows w0 w6) := HG.out.mark G6.out (fun k hk => (HO.out.lt k hk).1)
            clear HGB HNE
            go_wp2
            go_roundw
            case rel => exact ⟨j + 1, K2 ++ [x], _, by omega, by go_num, HV, by simp; omega, HO6.out.setFar HN6.out _, HX6.out.set_ _, HN6.out, HG6.out.setCell (by simp) _⟩
            case measure => simp [intOf]; omega
          · have HV : Hid (K2 = bs.map (ovr xs) ++ (xs.take (j + 1)).filter (freshIn bs)) := by unfold Hid; rw [HFS.out, HK.out, HFI.out, decide_eq_false hs]; simp
            go_wp2_with fail
            refine wp_region_M 14 (CellsAre [(⟨w.heap.size + 1, 0, none⟩, .slice B n d), (⟨w.heap.size, 0, none⟩, .slice (some ⟨b, o, none⟩) m c), (⟨b, o + j * 4, none⟩, .string x.s), (⟨b, o + j * 4 + 1, none⟩, .string x.k)]) (by kernel_rfl) (by kernel_rfl) ⟨hb1, hb0, c0, c1, trivial⟩ (fun hB hS => ?_)
            refine wpAnyM_take (i := 0) (v := ?vh0) hB rfl (by kernel_rfl) (fun _ _ _ h => h) (by rfl) ?yh0 hS ?nh0
            case yh0 => (intro w9 hSw; obtain ⟨s1, s2, s3, s4, _⟩ := hSw; go_simp; try with_reducible rfl)
            refine wpAnyM_take (i := 1) (v := ?vh1) hB rfl (by kernel_rfl) (fun _ _ _ h => h) (by rfl) ?yh1 hS ?nh1
            case yh1 => (intro w9 hSw; obtain ⟨s1, s2, s3, s4, _⟩ := hSw; go_simp; try with_reducible rfl)
            refine wpAnyM_take (i := 2) (v := ?vh2) hB rfl (by kernel_rfl) (fun _ _ _ h => h) (by rfl) ?yh2 hS ?nh2
            case yh2 => (intro w9 hSw; obtain ⟨s1, s2, s3, s4, _⟩ := hSw; go_simp; try with_reducible rfl)
            refine wpAnyM_take (i := 3) (v := ?vh3) hB rfl (by kernel_rfl) (fun _ _ _ h => h) (by rfl) ?yh3 hS ?nh3
            case yh3 => (intro w9 hSw; obtain ⟨s1, s2, s3, s4, _⟩ := hSw; go_simp; try with_reducible rfl)
            refine wpAnyM_take (i := 4) (v := ?vh4) hB rfl (by kernel_rfl) (fun _ _ _ h => h) (by rfl) ?yh4 hS ?nh4
            case yh4 => (intro w9 hSw; obtain ⟨s1, s2, s3, s4, _⟩ := hSw; go_simp; try with_reducible rfl)
            refine wpAnyM_take (i := 5) (v := ?vh5) hB rfl (by kernel_rfl) (fun _ _ _ h => h) (by rfl) ?yh5 hS ?nh5
            case yh5 => (intro w9 hSw; obtain ⟨s1, s2, s3, s4, _⟩ := hSw; go_simp; try with_reducible rfl)
            refine wpAnyM_take (i := 6) (v := ?vh6) hB rfl (by kernel_rfl) (fun _ _ _ h => h) (by rfl) ?yh6 hS ?nh6
            case yh6 => (intro w9 hSw; obtain ⟨s1, s2, s3, s4, _⟩ := hSw; go_simp; try with_reducible rfl)
            refine wpAnyM_take (i := 7) (v := ?vh7) hB rfl (by kernel_rfl) (fun _ _ _ h => h) (by rfl) ?yh7 hS ?nh7
            case yh7 => (intro w9 hSw; obtain ⟨s1, s2, s3, s4, _⟩ := hSw; go_simp; try with_reducible rfl)
            refine wpAnyM_take (i := 8) (v := ?vh8) hB rfl (by kernel_rfl) (fun _ _ _ h => h) (by rfl) ?yh8 hS ?nh8
            case yh8 => (intro w9 hSw; obtain ⟨s1, s2, s3, s4, _⟩ := hSw; go_simp; try with_reducible rfl)
            refine wpAnyM_take (i := 9) (v := ?vh9) hB rfl (by kernel_rfl) (fun _ _ _ h => h) (by rfl) ?yh9 hS ?nh9
            case yh9 => (intro w9 hSw; obtain ⟨s1, s2, s3, s4, _⟩ := hSw; go_simp; try with_reducible rfl)
            refine wpAnyM_take (i := 10) (v := ?vh10) hB rfl (by kernel_rfl) (fun _ _ _ h => h) (by rfl) ?yh10 hS ?nh10
            case yh10 => (intro w9 hSw; obtain ⟨s1, s2, s3, s4, _⟩ := hSw; go_simp; try with_reducible rfl)
            refine wpAnyM_take (i := 11) (v := ?vh11) hB rfl (by kernel_rfl) (fun _ _ _ h => h) (by rfl) ?yh11 hS ?nh11
            case yh11 => (intro w9 hSw; obtain ⟨s1, s2, s3, s4, _⟩ := hSw; go_simp; try with_reducible rfl)
            refine wpAnyM_take (i := 12) (v := ?vh12) hB rfl (by kernel_rfl) (fun _ _ _ h => h) (by rfl) ?yh12 hS ?nh12
            case yh12 => (intro w9 hSw; obtain ⟨s1, s2, s3, s4, _⟩ := hSw; go_simp; try with_reducible rfl)
            refine wpAnyM_take (i := 13) (v := ?vh13) hB rfl (by kernel_rfl) (fun _ _ _ h => h) (by rfl) ?yh13 hS ?nh13
            case yh13 => (intro w9 hSw; obtain ⟨s1, s2, s3, s4, _⟩ := hSw; go_simp; try with_reducible rfl)
            refine wpAnyM_tail (by kernel_rfl) ?_
            clear hB hS
            go_wp2_with fail
            refine (HS.out _ HGW.out.drew).mono ?_
            rintro e w2 ⟨rfl, rfl⟩
            go_wp2_with fail
            go_wp2
            go_roundw
            case rel => exact ⟨j + 1, K2, v, by omega, by go_num, HV, by omega, HO.out.keep (by repeat (first | exact Grows.refl _ | refine Grows.alloc ?_ _ | refine Grows.drew ?_ | refine Grows.drewN ?_ _)), HX.out.keep (by repeat (first | exact Grows.refl _ | refine Grows.alloc ?_ _ | refine Grows.drew ?_ | refine Grows.drewN ?_ _)), HNB.out, HG.out.trans (by repeat (first | exact Grows.refl _ | refine Grows.alloc ?_ _ | refine Grows.drew ?_ | refine Grows.drewN ?_ _))⟩
            case measure => simp [intOf]; omega
        · obtain rfl : j = m := by omega
          have h1 := (XR.out.keep HG.out).cell
          have h2 := (XR.out.keep HG.out).free
          have HR : Hid (K2 = mergeR xs bs) := by unfold Hid mergeR; rw [HK.out, ← HM.out, List.take_length]
          have HN9 : Hid (v.ownBlock ≠ some (w.heap.size + 1 + 1)) := fun e => by have := (HO.out.lt _ e).1; omega
          subst hv9
          go_wp2
          refine bodyPost_ret (v := .agg #[.slice A9 n9 c9]) (by simp [results, Tryd.results40, go_sem, h1]) rfl ?_
          rw [← HR.out]
          exact ⟨_, rfl, (HO.out.setFar HN9.out _).less (by omega), HGW.out.setCell (by simp; omega) _⟩
end Go.Proofs.YtnkggfcibbchdaaDoor
