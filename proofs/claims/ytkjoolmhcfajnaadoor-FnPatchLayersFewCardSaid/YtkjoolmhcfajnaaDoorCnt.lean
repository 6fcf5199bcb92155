/-
  CountChanges of both sides. Conditions: parts of at most 1048576 bytes.
-/
import Derived.Test.YtkjoolmhcfajnaaDoorPlcS
import Derived.Test.YtkjoolmhcfajnaaDoorApartB
import Derived.Test.YtkjoolmhcfajnaaDoorPatP
namespace Go.Proofs.YtkjoolmhcfajnaaDoor
open Go.RowKit

/-- how two layers differ at a place: only the second has it, only the first has it, both in different ways, not at all -/
def catE (us bs : List Ent) (e : Ent) : Nat := match us.find? (fun x => x.of e.s e.k), bs.find? (fun x => x.of e.s e.k) with
  | none, _ => 0
  | some _, none => 1
  | some x, some y => if x.same y = true then 3 else 2
def cntE (us bs P : List Ent) (j : Nat) : Nat := (P.filter (fun e => catE us bs e == j)).length
theorem cntE_succ (us bs : List Ent) {P : List Ent} {q : Nat} (h : q < P.length) (j : Nat) : cntE us bs (P.take (q + 1)) j = cntE us bs (P.take q) j + if catE us bs P[q] = j then 1 else 0 := by
  unfold cntE
  rw [List.take_succ_eq_append_getElem h, List.filter_append, List.length_append]
  congr 1
  by_cases e : catE us bs P[q] = j
  · rw [List.filter_cons_of_pos (by simpa using e), if_pos e]; rfl
  · rw [List.filter_cons_of_neg (by simpa using e), if_neg e]; rfl
theorem cntE_le (us bs P : List Ent) (q j : Nat) : cntE us bs (P.take q) j ≤ q := by
  unfold cntE
  exact Nat.le_trans (List.length_filter_le _ _) (List.length_take_le _ _)
theorem cat_none {us bs : List Ent} {e : Ent} (h : us.find? (fun x => x.of e.s e.k) = none) : catE us bs e = 0 := by unfold catE; rw [h]
theorem cat_less {us bs : List Ent} {e x : Ent} (h : us.find? (fun x => x.of e.s e.k) = some x) (h2 : bs.find? (fun x => x.of e.s e.k) = none) : catE us bs e = 1 := by unfold catE; rw [h, h2]
theorem cat_both {us bs : List Ent} {e x y : Ent} (h : us.find? (fun x => x.of e.s e.k) = some x) (h2 : bs.find? (fun x => x.of e.s e.k) = some y) : catE us bs e = if x.same y = true then 3 else 2 := by unfold catE; rw [h, h2]
/-- what CountChanges tells -/
def chgB (us bs : List Ent) : Bool := vflat us && vflat bs
def chgL (us bs : List Ent) : List Ent := firstsE (us ++ bs)
def chgN (us bs : List Ent) (j : Nat) : Int := if chgB us bs = true then (cntE us bs (chgL us bs) j : Int) else -1
def CntRet (us bs : List Ent) (w : World) (e : Ending) (w' : World) : Prop := e = .returned (.tuple #[.int .i64 (chgN us bs 0), .int .i64 (chgN us bs 1), .int .i64 (chgN us bs 2)]) ∧ Grows w w'

theorem stack2C_at {w : World} {A B : Option Addr} {c d g : Nat} {xs bs : List Ent} (hc : xs.length ≤ c) (hd : bs.length ≤ d) (hA : EntsAt w A xs) (hB : EntsAt w B bs) (h0 : w.cell? ⟨g, 0, none⟩ = some (.slice A xs.length c)) (h1 : w.cell? ⟨g, 1, none⟩ = some (.slice B bs.length d)) (hg : g < w.heap.size) : StackAt w (some ⟨g, 0, none⟩) [xs, bs] := fun _ => by
  refine ⟨g, 0, rfl, hg, fun i hi => ?_⟩
  have hi2 : i < 2 := hi
  match i, hi2 with
  | 0, _ => exact ⟨A, c, h0, hc, hA⟩
  | 1, _ => exact ⟨B, d, h1, hd, hB⟩
set_option maxRecDepth 100000 in
set_option maxHeartbeats 8000000 in
theorem implCnt_any (A : Option Addr) (c : Nat) (us : List Ent) (B : Option Addr) (d : Nat) (bs : List Ent) (w : World) (hc0 : us.length ≤ c) (hd0 : bs.length ≤ d) (hf : EFit us) (hA : EntsAt w A us) (hg : EFit bs) (hB : EntsAt w B bs) :
    Calls Tryd.prog 11 #[.agg #[.slice A us.length c], .agg #[.slice B bs.length d]] w (CntRet us bs w) := by
  have HFA := Lib.hid (fun w1 (g : Grows w w1) => implFlat_any A c us w1 hf (hA.keep g))
  have HFB := Lib.hid (fun w1 (g : Grows w w1) => implFlat_any B d bs w1 hg (hB.keep g))
  have XA : Hid (Box ((w.alloc (.cells #[.slice A us.length c] 25)).alloc (.cells #[.slice B bs.length d] 25)) w.heap.size (.slice A us.length c) 25) := row_grow (heap_alloc_new w _) ((Grows.refl _).alloc _)
  have XB : Hid (Box ((w.alloc (.cells #[.slice A us.length c] 25)).alloc (.cells #[.slice B bs.length d] 25)) (w.heap.size + 1) (.slice B bs.length d) 25) := alloc_new2 w _ _
  have G0 : Hid (Grows w ((w.alloc (.cells #[.slice A us.length c] 25)).alloc (.cells #[.slice B bs.length d] 25))) := ((Grows.refl w).alloc _).alloc _
  by_cases ha : vflat us = true
  · by_cases hb : vflat bs = true
    · have hva := vflat_vlayer ha
      have hvb := vflat_vlayer hb
      have HR : Hid (∀ j, chgN us bs j = (cntE us bs (chgL us bs) j : Int)) := fun j => by unfold chgN chgB; rw [ha, hb]; rfl
      have HMA := Lib.hid (fun w1 (g : Grows w w1) => byPlace_any A c us w1 hf (hA.keep g))
      have HMB := Lib.hid (fun w1 (g : Grows w w1) => byPlace_any B d bs w1 hg (hB.keep g))
      have hvs : vstack [bs, us] = true := by simp [vstack, hva, hvb]
      have HPL := Lib.hid (fun (g : Nat) w1 (gr : Grows w w1) (h0 : w1.cell? ⟨g, 0, none⟩ = some (.slice B bs.length d)) (h1 : w1.cell? ⟨g, 1, none⟩ = some (.slice A us.length c)) (hgl : g < w1.heap.size) => placesOf_any (some ⟨g, 0, none⟩) 2 [bs, us] w1 hvs (stack2C_at hd0 hc0 (hB.keep gr) (hA.keep gr) h0 h1 hgl))
      have hal : firstsE (allE [bs, us]) = chgL us bs := by unfold chgL allE; simp
      have HLA := Lib.hid (fun (s k : ByteArray) => find_last (s := s) (k := k) us (vlayer_dist hva))
      have HLB := Lib.hid (fun (s k : ByteArray) => find_last (s := s) (k := k) bs (vlayer_dist hvb))
      have HSM : Hid (∀ e ∈ chgL us bs, e.s.size ≤ 1048576 ∧ e.k.size ≤ 1048576) := fun e he => by
        have h1 := firstsE_mem _ e he
        rcases List.mem_append.1 h1 with h | h
        · have := ent_fits' (vlayer_vent hva e h); omega
        · have := ent_fits' (vlayer_vent hvb e h); omega
      have hPl : (chgL us bs).length ≤ 40 := by
        have h1 := firstsE_len (us ++ bs)
        rw [List.length_append] at h1
        have := vlayer_20 hva
        have := vlayer_20 hvb
        exact Nat.le_trans h1 (by omega)
      rw [hal] at HPL
      rw [ha] at HFA
      rw [hb] at HFB
      unfold ResM at HMA HMB
      have HCS := Lib.hid (fun (P : List Ent) q (h : q < P.length) j => cntE_succ us bs h j)
      have HCL := Lib.hid (fun (P : List Ent) q j => cntE_le us bs P q j)
      clear ha hb hva hvb hvs hal hf hg hA hB hc0 hd0
      obtain ⟨P, hP⟩ : ∃ P, chgL us bs = P := ⟨_, rfl⟩
      rw [hP] at HR HSM hPl HPL
      clear hP
      obtain ⟨m, hmm⟩ : ∃ m, us.length = m := ⟨_, rfl⟩
      obtain ⟨n, hnn⟩ : ∃ n, bs.length = n := ⟨_, rfl⟩
      rw [hmm] at HFA HMA HPL XA XB G0 ⊢
      rw [hnn] at HFB HMB HPL XA XB G0 ⊢
      clear hmm hnn
      go_enter Tryd.func11, Tryd.ntmps11
      go_upto_region 1 with (fail)
      obtain ⟨w0, hw0⟩ : ∃ w0, (w.alloc (.cells #[.slice A m c] 25)).alloc (.cells #[.slice B n d] 25) = w0 := ⟨_, rfl⟩
      rw [hw0] at XA XB G0 ⊢
      clear hw0
      have cA := XA.out.cell
      have cB := XB.out.cell
      go_wp2_with fail
      refine (HFA.out _ G0.out).mono ?_
      rintro e w1 ⟨rfl, g1⟩
      have XA1 := Lib.hid (XA.out.keep g1)
      have XB1 := Lib.hid (XB.out.keep g1)
      have G1 : Hid (Grows w w1) := G0.out.trans g1
      clear g1 cA cB XA XB G0 HFA
      have cA := XA1.out.cell
      have cB := XB1.out.cell
      go_wp2_with fail
      refine (HFB.out _ G1.out).mono ?_
      rintro e w2 ⟨rfl, g2⟩
      have XA2 := Lib.hid (XA1.out.keep g2)
      have XB2 := Lib.hid (XB1.out.keep g2)
      have G2 : Hid (Grows w w2) := G1.out.trans g2
      clear g2 cA cB XA1 XB1 G1 HFB
      have cA := XA2.out.cell
      have cB := XB2.out.cell
      go_wp2_with fail
      refine wp_region_M 4 (CellsAre [(⟨w.heap.size, 0, none⟩, .slice A m c), (⟨w.heap.size + 1, 0, none⟩, .slice B n d)]) (by kernel_rfl) (by kernel_rfl) ⟨cA, cB, trivial⟩ (fun hB hS => ?_)
      refine wpAnyM_take (i := 0) (v := ?vca0) hB rfl (by kernel_rfl) (fun _ _ _ h => h) (by first | kernel_rfl | simp [Region.wanted, yielded, Act.put]) ?yca0 hS ?nca0
      case yca0 => (intro w9 hSw; obtain ⟨s1, s2, _⟩ := hSw; go_simp; first | done | with_reducible rfl | rfl)
      refine wpAnyM_take (i := 2) (v := ?vca2) hB rfl (by kernel_rfl) (fun _ _ _ h => h) (by first | kernel_rfl | simp [Region.wanted, yielded, Act.put]) ?yca2 hS ?nca2
      case yca2 => (intro w9 hSw; obtain ⟨s1, s2, _⟩ := hSw; go_simp; first | done | with_reducible rfl | rfl)
      clear hS cA cB
      refine wpAnyM_one (i := 1) rfl (by kernel_rfl) rfl ?_
      go_wp2_with fail
      refine (HMA.out _ (G2.out.drew)).mono ?_
      rintro e w3 ⟨b1, rfl, hM1, hb1, g3⟩
      have J3 : Hid (Grows w2 w3) := (Grows.refl w2).drew.trans g3
      have M1 := Lib.hid hM1
      have XA3 := Lib.hid (XA2.out.keep J3.out)
      have XB3 := Lib.hid (XB2.out.keep J3.out)
      have G3 : Hid (Grows w w3) := G2.out.trans J3.out
      clear g3 hM1 J3
      go_wp2_with fail
      refine ⟨⟨XA3.out.cell, XB3.out.cell, trivial⟩, ?_⟩
      refine wpAnyM_one (i := 3) rfl (by kernel_rfl) rfl ?_
      go_wp2_with fail
      refine (HMB.out _ G3.out).mono ?_
      rintro e w4 ⟨b2, rfl, hM2, hb2, g4⟩
      have M1' := Lib.hid (M1.out.keep g4)
      have M2 := Lib.hid hM2
      have XA4 := Lib.hid (XA3.out.keep g4)
      have XB4 := Lib.hid (XB3.out.keep g4)
      have G4 : Hid (Grows w w4) := G3.out.trans g4
      clear g4 hM2 M1 XA2 XB2 XA3 XB3 G2 G3
      go_wp2_with fail
      refine ⟨⟨XA4.out.cell, XB4.out.cell, trivial⟩, ?_⟩
      refine wpAnyM_tail (by kernel_rfl) ?_
      clear hB
      have cA := XA4.out.cell
      have cB := XB4.out.cell
      go_wp2_with fail
      refine (HPL.out w4.heap.size _ (G4.out.alloc _) (by simp) (by simp) (by simp)).mono ?_
      rintro e w5 ⟨v, rfl, hv, g5⟩
      have M15 := Lib.hid ((M1'.out.keep ((Grows.refl w4).alloc _)).keep g5)
      have M25 := Lib.hid ((M2.out.keep ((Grows.refl w4).alloc _)).keep g5)
      have G5 : Hid (Grows w w5) := (G4.out.alloc _).trans g5
      obtain ⟨AP, cP, rfl, hPA⟩ := hv.form
      have HPA := Lib.hid hPA
      clear g5 hv hPA cA cB XA4 XB4 G4 M1' M2 HPL HMA HMB
      obtain ⟨np, hnp⟩ : ∃ np, P.length = np := ⟨_, rfl⟩
      have HNP := Lib.hid hnp
      rw [hnp] at hPl ⊢
      clear hnp
      go_wp2_with fail
      go_loopw [9, 10, 11, 35] (fun a b t i wr => ∃ q : Nat, q ≤ np ∧ i = .int .i64 q ∧ a = .int .i64 (cntE us bs (P.take q) 0) ∧ b = .int .i64 (cntE us bs (P.take q) 1) ∧ t = .int .i64 (cntE us bs (P.take q) 2) ∧ Hid (Grows w5 wr)) (fun _ _ _ i _ => np - (intOf i).toNat)
      case atStart => exact ⟨0, Nat.zero_le _, rfl, rfl, rfl, rfl, Grows.refl _⟩
      case round =>
        obtain ⟨q, hq, rfl, rfl, rfl, rfl, HG⟩ := hrel
        have k0 := HCL.out P q 0
        have k1 := HCL.out P q 1
        have k2 := HCL.out P q 2
        by_cases hlt : q < np
        · have hq2 : q < P.length := by rw [HNP.out]; exact hlt
          obtain ⟨gp, rfl, hgp, hcp⟩ := HPA.out (by rw [HNP.out]; omega)
          obtain ⟨d0, d1⟩ := hcp q hq2
          have c0 := (HG.out.cell (p := ⟨gp, q * 2, none⟩) hgp).trans d0
          have c1 := (HG.out.cell (p := ⟨gp, q * 2 + 1, none⟩) hgp).trans d1
          have hsm := HSM.out P[q] (List.getElem_mem hq2)
          have e0 := HCS.out P q hq2 0
          have e1 := HCS.out P q hq2 1
          have e2 := HCS.out P q hq2 2
          obtain ⟨⟨ps, pk, po, pv⟩, hp⟩ : ∃ e, P[q] = e := ⟨_, rfl⟩
          rw [hp] at c0 c1 hsm e0 e1 e2
          simp only at c0 c1 hsm
          have hs := hsm.1
          have hk := hsm.2
          have E0 := Lib.hid e0
          have E1 := Lib.hid e1
          have E2 := Lib.hid e2
          have LA := Lib.hid (HLA.out ps pk)
          have LBx := Lib.hid (HLB.out ps pk)
          have IA := Lib.hid (lastE_isSome us ps pk)
          have IB := Lib.hid (lastE_isSome bs ps pk)
          have MA := Lib.hid (M15.out.keep HG.out)
          have MB := Lib.hid (M25.out.keep HG.out)
          have CN := Lib.hid (@cat_none us bs ⟨ps, pk, po, pv⟩)
          have CL := Lib.hid (fun (x : Ent) h h2 => @cat_less us bs ⟨ps, pk, po, pv⟩ x h h2)
          have CB := Lib.hid (fun (x y : Ent) h h2 => @cat_both us bs ⟨ps, pk, po, pv⟩ x y h h2)
          simp only at CN CL CB
          clear hcp d0 d1 hsm e0 e1 e2 hp
          obtain ⟨n0, hn0⟩ : ∃ n0, cntE us bs (P.take q) 0 = n0 := ⟨_, rfl⟩
          obtain ⟨n1, hn1⟩ : ∃ n1, cntE us bs (P.take q) 1 = n1 := ⟨_, rfl⟩
          obtain ⟨n2, hn2⟩ : ∃ n2, cntE us bs (P.take q) 2 = n2 := ⟨_, rfl⟩
          rw [hn0] at E0 k0 ⊢
          rw [hn1] at E1 k1 ⊢
          rw [hn2] at E2 k2 ⊢
          clear hn0 hn1 hn2
          rcases hx : us.find? (fun x => x.of ps pk) with _ | ⟨xs, xk, xo, xv⟩
          · rcases hy : bs.find? (fun x => x.of ps pk) with _ | ⟨ys, yk, yo, yv⟩
            · have QA : Hid (lastE us ps pk = none) := LA.out.trans hx
              have YA : Hid ((us.any fun y => y.of ps pk) = false) := by unfold Hid; rw [← IA.out, QA.out]; rfl
              have QB : Hid (lastE bs ps pk = none) := LBx.out.trans hy
              have YB : Hid ((bs.any fun y => y.of ps pk) = false) := by unfold Hid; rw [← IB.out, QB.out]; rfl
              have CT : Hid (catE us bs ⟨ps, pk, po, pv⟩ = 0) := CN.out hx
              have N0 : Hid (cntE us bs (P.take (q + 1)) 0 = n0 + 1) := by unfold Hid; rw [E0.out, CT.out] <;> rfl
              have N1 : Hid (cntE us bs (P.take (q + 1)) 1 = n1) := by unfold Hid; rw [E1.out, CT.out] <;> rfl
              have N2 : Hid (cntE us bs (P.take (q + 1)) 2 = n2) := by unfold Hid; rw [E2.out, CT.out] <;> rfl
              clear hx hy
              have GN : Hid (Grows w5 (((wr.alloc (.cells #[.string ps, .string pk] 47)).alloc (.cells #[.string ⟨#[]⟩, .string ⟨#[]⟩, .int .i64 0, .string ⟨#[]⟩] 33)).alloc (.cells #[.string ⟨#[]⟩, .string ⟨#[]⟩, .int .i64 0, .string ⟨#[]⟩] 33))) := ((HG.out.alloc _).alloc _).alloc _
              go_upto_region 9 with (at_lookup; refine lookE_ok rfl _ _ rfl b1 us (MA.out.keep ((Grows.refl _).alloc _)) rfl ps pk rfl hs hk ?_; rw [QA.out, YA.out]; simp only [Option.getD_none, Ent.zero, Ent.agg])
              go_upto_region 10 with (at_lookup; refine lookE_ok rfl _ _ rfl b2 bs (MB.out.keep (((Grows.refl _).alloc _).alloc _)) rfl ps pk rfl hs hk ?_; rw [QB.out, YB.out]; simp only [Option.getD_none, Ent.zero, Ent.agg])
              go_wp2
              go_roundw
              case rel => exact ⟨q + 1, by omega, by go_num, by rw [N0.out] <;> first | rfl | go_num, by rw [N1.out] <;> first | rfl | go_num, by rw [N2.out] <;> first | rfl | go_num, GN⟩
              case measure => (simp [intOf]; try omega)
            · have QA : Hid (lastE us ps pk = none) := LA.out.trans hx
              have YA : Hid ((us.any fun y => y.of ps pk) = false) := by unfold Hid; rw [← IA.out, QA.out]; rfl
              have QB : Hid (lastE bs ps pk = some ⟨ys, yk, yo, yv⟩) := LBx.out.trans hy
              have YB : Hid ((bs.any fun y => y.of ps pk) = true) := by unfold Hid; rw [← IB.out, QB.out]; rfl
              have CT : Hid (catE us bs ⟨ps, pk, po, pv⟩ = 0) := CN.out hx
              have N0 : Hid (cntE us bs (P.take (q + 1)) 0 = n0 + 1) := by unfold Hid; rw [E0.out, CT.out] <;> rfl
              have N1 : Hid (cntE us bs (P.take (q + 1)) 1 = n1) := by unfold Hid; rw [E1.out, CT.out] <;> rfl
              have N2 : Hid (cntE us bs (P.take (q + 1)) 2 = n2) := by unfold Hid; rw [E2.out, CT.out] <;> rfl
              clear hx hy
              have GN : Hid (Grows w5 (((wr.alloc (.cells #[.string ps, .string pk] 47)).alloc (.cells #[.string ⟨#[]⟩, .string ⟨#[]⟩, .int .i64 0, .string ⟨#[]⟩] 33)).alloc (.cells #[.string ys, .string yk, .int .i64 yo, .string yv] 33))) := ((HG.out.alloc _).alloc _).alloc _
              go_upto_region 9 with (at_lookup; refine lookE_ok rfl _ _ rfl b1 us (MA.out.keep ((Grows.refl _).alloc _)) rfl ps pk rfl hs hk ?_; rw [QA.out, YA.out]; simp only [Option.getD_none, Ent.zero, Ent.agg])
              go_upto_region 10 with (at_lookup; refine lookE_ok rfl _ _ rfl b2 bs (MB.out.keep (((Grows.refl _).alloc _).alloc _)) rfl ps pk rfl hs hk ?_; rw [QB.out, YB.out]; simp only [Option.getD_some, Ent.agg])
              go_wp2
              go_roundw
              case rel => exact ⟨q + 1, by omega, by go_num, by rw [N0.out] <;> first | rfl | go_num, by rw [N1.out] <;> first | rfl | go_num, by rw [N2.out] <;> first | rfl | go_num, GN⟩
              case measure => (simp [intOf]; try omega)
          · rcases hy : bs.find? (fun x => x.of ps pk) with _ | ⟨ys, yk, yo, yv⟩
            · have QA : Hid (lastE us ps pk = some ⟨xs, xk, xo, xv⟩) := LA.out.trans hx
              have YA : Hid ((us.any fun y => y.of ps pk) = true) := by unfold Hid; rw [← IA.out, QA.out]; rfl
              have QB : Hid (lastE bs ps pk = none) := LBx.out.trans hy
              have YB : Hid ((bs.any fun y => y.of ps pk) = false) := by unfold Hid; rw [← IB.out, QB.out]; rfl
              have CT : Hid (catE us bs ⟨ps, pk, po, pv⟩ = 1) := CL.out _ hx hy
              have N0 : Hid (cntE us bs (P.take (q + 1)) 0 = n0) := by unfold Hid; rw [E0.out, CT.out] <;> rfl
              have N1 : Hid (cntE us bs (P.take (q + 1)) 1 = n1 + 1) := by unfold Hid; rw [E1.out, CT.out] <;> rfl
              have N2 : Hid (cntE us bs (P.take (q + 1)) 2 = n2) := by unfold Hid; rw [E2.out, CT.out] <;> rfl
              clear hx hy
              have GN : Hid (Grows w5 (((wr.alloc (.cells #[.string ps, .string pk] 47)).alloc (.cells #[.string xs, .string xk, .int .i64 xo, .string xv] 33)).alloc (.cells #[.string ⟨#[]⟩, .string ⟨#[]⟩, .int .i64 0, .string ⟨#[]⟩] 33))) := ((HG.out.alloc _).alloc _).alloc _
              go_upto_region 9 with (at_lookup; refine lookE_ok rfl _ _ rfl b1 us (MA.out.keep ((Grows.refl _).alloc _)) rfl ps pk rfl hs hk ?_; rw [QA.out, YA.out]; simp only [Option.getD_some, Ent.agg])
              go_upto_region 10 with (at_lookup; refine lookE_ok rfl _ _ rfl b2 bs (MB.out.keep (((Grows.refl _).alloc _).alloc _)) rfl ps pk rfl hs hk ?_; rw [QB.out, YB.out]; simp only [Option.getD_none, Ent.zero, Ent.agg])
              go_wp2
              go_roundw
              case rel => exact ⟨q + 1, by omega, by go_num, by rw [N0.out] <;> first | rfl | go_num, by rw [N1.out] <;> first | rfl | go_num, by rw [N2.out] <;> first | rfl | go_num, GN⟩
              case measure => (simp [intOf]; try omega)
            · rcases hsm : (⟨xs, xk, xo, xv⟩ : Ent).same ⟨ys, yk, yo, yv⟩ with _ | _
              · have QA : Hid (lastE us ps pk = some ⟨xs, xk, xo, xv⟩) := LA.out.trans hx
                have YA : Hid ((us.any fun y => y.of ps pk) = true) := by unfold Hid; rw [← IA.out, QA.out]; rfl
                have QB : Hid (lastE bs ps pk = some ⟨ys, yk, yo, yv⟩) := LBx.out.trans hy
                have YB : Hid ((bs.any fun y => y.of ps pk) = true) := by unfold Hid; rw [← IB.out, QB.out]; rfl
                have CT : Hid (catE us bs ⟨ps, pk, po, pv⟩ = 2) := by unfold Hid; rw [CB.out _ _ hx hy, if_neg (by rw [hsm]; simp)]
                have hne := fun w => neEnt ⟨xs, xk, xo, xv⟩ ⟨ys, yk, yo, yv⟩ w
                rw [hsm] at hne
                unfold Ent.agg at hne
                simp only [Bool.not_false] at hne
                have N0 : Hid (cntE us bs (P.take (q + 1)) 0 = n0) := by unfold Hid; rw [E0.out, CT.out] <;> rfl
                have N1 : Hid (cntE us bs (P.take (q + 1)) 1 = n1) := by unfold Hid; rw [E1.out, CT.out] <;> rfl
                have N2 : Hid (cntE us bs (P.take (q + 1)) 2 = n2 + 1) := by unfold Hid; rw [E2.out, CT.out] <;> rfl
                clear hx hy hsm
                have GN : Hid (Grows w5 (((wr.alloc (.cells #[.string ps, .string pk] 47)).alloc (.cells #[.string xs, .string xk, .int .i64 xo, .string xv] 33)).alloc (.cells #[.string ys, .string yk, .int .i64 yo, .string yv] 33))) := ((HG.out.alloc _).alloc _).alloc _
                go_upto_region 9 with (at_lookup; refine lookE_ok rfl _ _ rfl b1 us (MA.out.keep ((Grows.refl _).alloc _)) rfl ps pk rfl hs hk ?_; rw [QA.out, YA.out]; simp only [Option.getD_some, Ent.agg])
                go_upto_region 10 with (at_lookup; refine lookE_ok rfl _ _ rfl b2 bs (MB.out.keep (((Grows.refl _).alloc _).alloc _)) rfl ps pk rfl hs hk ?_; rw [QB.out, YB.out]; simp only [Option.getD_some, Ent.agg])
                go_wp2
                go_roundw
                case rel => exact ⟨q + 1, by omega, by go_num, by rw [N0.out] <;> first | rfl | go_num, by rw [N1.out] <;> first | rfl | go_num, by rw [N2.out] <;> first | rfl | go_num, GN⟩
                case measure => (simp [intOf]; try omega)
              · have QA : Hid (lastE us ps pk = some ⟨xs, xk, xo, xv⟩) := LA.out.trans hx
                have YA : Hid ((us.any fun y => y.of ps pk) = true) := by unfold Hid; rw [← IA.out, QA.out]; rfl
                have QB : Hid (lastE bs ps pk = some ⟨ys, yk, yo, yv⟩) := LBx.out.trans hy
                have YB : Hid ((bs.any fun y => y.of ps pk) = true) := by unfold Hid; rw [← IB.out, QB.out]; rfl
                have CT : Hid (catE us bs ⟨ps, pk, po, pv⟩ = 3) := by unfold Hid; rw [CB.out _ _ hx hy, if_pos hsm]
                have hne := fun w => neEnt ⟨xs, xk, xo, xv⟩ ⟨ys, yk, yo, yv⟩ w
                rw [hsm] at hne
                unfold Ent.agg at hne
                simp only [Bool.not_true] at hne
                have N0 : Hid (cntE us bs (P.take (q + 1)) 0 = n0) := by unfold Hid; rw [E0.out, CT.out] <;> rfl
                have N1 : Hid (cntE us bs (P.take (q + 1)) 1 = n1) := by unfold Hid; rw [E1.out, CT.out] <;> rfl
                have N2 : Hid (cntE us bs (P.take (q + 1)) 2 = n2) := by unfold Hid; rw [E2.out, CT.out] <;> rfl
                clear hx hy hsm
                have GN : Hid (Grows w5 (((wr.alloc (.cells #[.string ps, .string pk] 47)).alloc (.cells #[.string xs, .string xk, .int .i64 xo, .string xv] 33)).alloc (.cells #[.string ys, .string yk, .int .i64 yo, .string yv] 33))) := ((HG.out.alloc _).alloc _).alloc _
                go_upto_region 9 with (at_lookup; refine lookE_ok rfl _ _ rfl b1 us (MA.out.keep ((Grows.refl _).alloc _)) rfl ps pk rfl hs hk ?_; rw [QA.out, YA.out]; simp only [Option.getD_some, Ent.agg])
                go_upto_region 10 with (at_lookup; refine lookE_ok rfl _ _ rfl b2 bs (MB.out.keep (((Grows.refl _).alloc _).alloc _)) rfl ps pk rfl hs hk ?_; rw [QB.out, YB.out]; simp only [Option.getD_some, Ent.agg])
                go_wp2
                go_roundw
                case rel => exact ⟨q + 1, by omega, by go_num, by rw [N0.out] <;> first | rfl | go_num, by rw [N1.out] <;> first | rfl | go_num, by rw [N2.out] <;> first | rfl | go_num, GN⟩
                case measure => (simp [intOf]; try omega)
        · obtain rfl : q = np := by omega
          have HE : Hid (P.take q = P) := List.take_of_length_le (by rw [HNP.out]; exact Nat.le_refl _)
          have r0 := HR.out 0
          have r1 := HR.out 1
          have r2 := HR.out 2
          rw [← HE.out] at r0 r1 r2
          have R0 := Lib.hid r0
          have R1 := Lib.hid r1
          have R2 := Lib.hid r2
          clear r0 r1 r2
          go_wp2
          go_ret3
          unfold CntRet
          rw [R0.out, R1.out, R2.out]
          exact ⟨rfl, G5.out.trans HG.out⟩
    · have hb' : vflat bs = false := by simpa using hb
      have HR : Hid (∀ j, chgN us bs j = -1) := fun j => by unfold chgN chgB; rw [hb']; simp
      rw [ha] at HFA
      rw [hb'] at HFB
      clear ha hb hb' hf hg hA hB hc0 hd0
      obtain ⟨m, hmm⟩ : ∃ m, us.length = m := ⟨_, rfl⟩
      obtain ⟨n, hnn⟩ : ∃ n, bs.length = n := ⟨_, rfl⟩
      rw [hmm] at HFA XA XB G0 ⊢
      rw [hnn] at HFB XA XB G0 ⊢
      clear hmm hnn
      go_enter Tryd.func11, Tryd.ntmps11
      go_upto_region 1 with (fail)
      obtain ⟨w0, hw0⟩ : ∃ w0, (w.alloc (.cells #[.slice A m c] 25)).alloc (.cells #[.slice B n d] 25) = w0 := ⟨_, rfl⟩
      rw [hw0] at XA XB G0 ⊢
      clear hw0
      have cA := XA.out.cell
      have cB := XB.out.cell
      go_wp2_with fail
      refine (HFA.out _ G0.out).mono ?_
      rintro e w1 ⟨rfl, g1⟩
      have XB1 := Lib.hid (XB.out.keep g1)
      have G1 : Hid (Grows w w1) := G0.out.trans g1
      clear g1 cA cB XA XB G0 HFA
      have cB := XB1.out.cell
      go_wp2_with fail
      refine (HFB.out _ G1.out).mono ?_
      rintro e w2 ⟨rfl, g2⟩
      have G2 : Hid (Grows w w2) := G1.out.trans g2
      clear g2 cB XB1 G1 HFB
      go_wp2
      go_ret3
      unfold CntRet
      rw [HR.out, HR.out, HR.out]
      exact ⟨rfl, G2.out⟩
  · have ha' : vflat us = false := by simpa using ha
    have HR : Hid (∀ j, chgN us bs j = -1) := fun j => by unfold chgN chgB; rw [ha']; simp
    rw [ha'] at HFA
    clear ha ha' hf hg hA hB hc0 hd0 HFB
    obtain ⟨m, hmm⟩ : ∃ m, us.length = m := ⟨_, rfl⟩
    obtain ⟨n, hnn⟩ : ∃ n, bs.length = n := ⟨_, rfl⟩
    rw [hmm] at HFA XA XB G0 ⊢
    rw [hnn] at XA XB G0 ⊢
    clear hmm hnn
    go_enter Tryd.func11, Tryd.ntmps11
    go_upto_region 1 with (fail)
    obtain ⟨w0, hw0⟩ : ∃ w0, (w.alloc (.cells #[.slice A m c] 25)).alloc (.cells #[.slice B n d] 25) = w0 := ⟨_, rfl⟩
    rw [hw0] at XA XB G0 ⊢
    clear hw0
    have cA := XA.out.cell
    have cB := XB.out.cell
    go_wp2_with fail
    refine (HFA.out _ G0.out).mono ?_
    rintro e w1 ⟨rfl, g1⟩
    have G1 : Hid (Grows w w1) := G0.out.trans g1
    clear g1 cA cB XA XB G0 HFA
    go_wp2
    go_ret3
    unfold CntRet
    rw [HR.out, HR.out, HR.out]
    exact ⟨rfl, G1.out⟩
end Go.Proofs.YtkjoolmhcfajnaaDoor
