/-
  The drawn law of RenameKey: whatever its bytes, it returns true. Condition: no more bytes than a slice may have.
-/
import Derived.Test.YteifcogfnpeahaaDWhere
import Derived.Deep.RegionHeld3
import Derived.Test.YteifcogfnpeahaaQR
import Derived.Test.YteifcogfnpeahaaRenN
namespace Go.Proofs.Yteifcogfnpeahaa
open Go.RowKit

set_option maxRecDepth 100000 in
set_option maxHeartbeats 2000000 in
theorem DrawRenameKey_any (A : Option Addr) (n c : Nat) (w : World) (hn : n ≤ maxLen) (hc : n ≤ c) (h : BytesAt w A n) :
    Calls Try.prog 30 #[.slice A n c] w (DFileSKT w) := by
  have HB := Lib.hid (fun o => h.keep ((Grows.refl w).alloc o))
  clear h
  go_enter Try.func30, Try.ntmps30
  go_wp2_with fail
  refine (newReader_any A n c _ hn hc (HB.out _)).mono ?_
  rintro e w1 ⟨A1, n1, c1, g, rfl, hn1, hg, r1, k1⟩
  have hg1 := Lib.hid r1.lt
  have hgw : w.heap.size < g := by simp at hg; omega
  have Z1 : Hid (Box w1 w.heap.size (.slice none 0 0) 25) := row_grow (heap_alloc_new w _) k1
  have R1 := Lib.hid r1
  have G1 : Hid (Grows w w1) := ((Grows.refl w).alloc _).trans k1
  have S1 : w.heap.size < w1.heap.size := Z1.out.lt
  clear r1 k1 hg HB
  go_wp2_with fail
  refine (keyIn_any g A1 n1 c1 0 _ (by omega) hn1 R1.out).mono ?_
  rintro e w2 ⟨v, K, s, key, rfl, ⟨hS, hK⟩, hO, ⟨hs, hk⟩, q2, a2, b2, r2, k2⟩
  have HSZ := Lib.hid hs
  have HKZ := Lib.hid hk
  clear hs hk
  have hgv : ∀ k, v.ownBlock = some k → k ≠ g := fun k hk => by have h1 := (hO.lt k hk).1; have h2 := hg1.out; omega
  have Z2 : Hid (Box w2 w.heap.size (.slice none 0 0) 25) := row_keep Z1.out k2 (by omega)
  have R2 := Lib.hid r2
  have O2 : Hid (OwnL w2 (w.heap.size + 1) v K) := hO.less S1
  have G2 : Hid (Grows w w2) := G1.out.mark k2 (fun i hi => by injection hi with hi; omega)
  have SS := Lib.hid hS
  clear hS hO r2 k2
  obtain ⟨A0, c0, rfl, _⟩ := O2.out.form
  obtain ⟨m, hm⟩ : ∃ m, K.length = m := ⟨_, rfl⟩
  rw [hm] at O2 hgv ⊢
  clear hm
  have X3 : Hid (Box (w2.alloc (.cells #[.slice A0 m c0] 25)) w2.heap.size (.slice A0 m c0) 25) := heap_alloc_new w2 _
  have Z3 : Hid (Box (w2.alloc (.cells #[.slice A0 m c0] 25)) w.heap.size (.slice none 0 0) 25) := Z2.out.keep ((Grows.refl _).alloc _)
  have O3 := Lib.hid (O2.out.keep ((Grows.refl w2).alloc (.cells #[.slice A0 m c0] 25)))
  have R3 := Lib.hid (R2.out.keep ((Grows.refl w2).alloc (.cells #[.slice A0 m c0] 25)))
  have G3 : Hid (Grows w (w2.alloc (.cells #[.slice A0 m c0] 25))) := G2.out.alloc _
  have S2 : w.heap.size < w2.heap.size := Z2.out.lt
  have HGV := Lib.hid hgv
  clear hgv
  have hgn : g < w2.heap.size := R2.out.lt
  obtain ⟨w3, hw3⟩ : ∃ w3, w2.alloc (.cells #[.slice A0 m c0] 25) = w3 := ⟨_, rfl⟩
  have hs3 : w3.heap.size = w2.heap.size + 1 := by rw [← hw3]; exact World.size_alloc _ _
  have HW3 := Lib.hid hw3
  rw [hw3] at X3 Z3 O3 R3 G3
  have hs4 : w2.heap.size < w3.heap.size := by omega
  clear hw3 hs3
  have SH : Hid (shortsB #[.string ⟨#[110, 101, 119]⟩, .string ⟨#[120]⟩, .string ⟨#[]⟩, .string ⟨#[121]⟩, .string ⟨#[88]⟩, .string key] = true) := by
    unfold Hid shortsB
    have := HKZ.out
    simp
    exact ⟨by decide, by decide, by decide, by decide, by decide, this⟩
  go_upto_region 3 with (fail)
  rw [HW3.out]
  clear HW3
  have hx3 := X3.out.cell
  have L3 := Lib.hid (show w3.heap.size ≠ g by omega)
  have HX3 := Lib.hid hx3
  have HNE : Hid (w.heap.size ≠ w2.heap.size) := by unfold Hid; omega
  go_region_held3 (fun w' => w'.cell? ⟨w2.heap.size, 0, none⟩ = some (.slice A0 m c0)) (first | exact hx3 | exact x1 | exact y1 | go_keep) (first | (go_at_call 72; have HA1 := of_any w3.heap.size 6 6 _ _ g A1 n1 c1 q2 ((w3.alloc (.cells #[.string ⟨#[110, 101, 119]⟩, .string ⟨#[120]⟩, .string ⟨#[]⟩, .string ⟨#[121]⟩, .string ⟨#[88]⟩, .string key] 9)).drew) (heap_alloc_new w3 _) rfl (by decide) (by decide) SH.out L3.out (by omega) hn1 ((R3.out.keep ((Grows.refl w3).alloc _)).keep (Grows.refl _).drew); refine HA1.mono ?_; rintro e w4 h4; obtain ⟨tt, rfl, htt, q4, a4, b4, r4, k4'⟩ := StrRet.of h4 ((Grows.refl w3).alloc _).drew; clear h4 HA1; have k4 := Lib.hid k4'; clear k4'; have X4 := Lib.hid (X3.out.far k4.out (by intro e; injection e with e; omega)); have Z4 := Lib.hid (Z3.out.far k4.out (by intro e; injection e with e; omega)); have x1 := X4.out.cell; have z0 := Z4.out.cell; have zf := Z4.out.free; have y1 := (World.cell?_setCell_other w4 ⟨w.heap.size, 0, none⟩ ⟨w2.heap.size, 0, none⟩ (.slice A0 m c0) (by intro e; have e1 := congrArg Addr.block e; have e2 := HNE.out; simp only at e1; omega)).trans x1; have Htt := Lib.hid htt; clear htt r4))
  have O4 := Lib.hid (O3.out.far k4.out (fun k hk e => by injection e with e; have h1 := (O3.out.lt k hk).1; have := HGV.out k hk; omega))
  have G4 : Hid (Grows w w4) := G3.out.mark k4.out (fun i hi => by injection hi with hi; omega)
  clear x1 z0 zf y1
  have HZf : Hid (Box (w4.setCell ⟨w.heap.size, 0, none⟩ (.slice A0 m c0)) w.heap.size (.slice A0 m c0) 25) := Z4.out.set_ _
  have HN9 : Hid ((Value.slice A0 m c0).ownBlock ≠ some w.heap.size) := fun e => by have := (O4.out.lt _ e).1; omega
  have HOF := Lib.hid ((O4.out.setFar (i := 0) HN9.out (.slice A0 m c0)).less (show w.heap.size ≤ w.heap.size + 1 by omega))
  have HGF : Hid (Grows w (w4.setCell ⟨w.heap.size, 0, none⟩ (.slice A0 m c0))) := G4.out.setCell (Nat.le_refl _) _
  obtain ⟨wf, hwf⟩ : ∃ wf, w4.setCell ⟨w.heap.size, 0, none⟩ (.slice A0 m c0) = wf := ⟨_, rfl⟩
  rw [hwf] at HZf HOF HGF ⊢
  clear hwf hx3
  have hz := HZf.out.cell
  go_wp2
  refine bodyPost_ret (v := .tuple #[.agg #[.slice A0 m c0], .string s, .string key, .string tt]) (by simp [results, Try.results30, go_sem, hz]) rfl ?_
  exact ⟨_, K, s, key, tt, rfl, ⟨SS.out, hK⟩, HOF.out, ⟨HSZ.out, HKZ.out, Htt.out⟩, HGF.out⟩

set_option maxRecDepth 100000 in
set_option maxHeartbeats 4000000 in
theorem dRenK_any (A : Option Addr) (n c : Nat) (w : World) (hn : n ≤ maxLen) (hc : n ≤ c) (h : BytesAt w A n) :
    Calls Try.prog 6 #[.slice A n c] w fun e w' => e = .returned (.bool true) ∧ Below w.heap.size w w' := by
  by_cases hbig : 1048576 < n
  · clear h
    unfold maxLen at hn
    go_enter Try.func6, Try.ntmps6
    go_wp2
    go_ret
    exact ⟨rfl, (Grows.refl _).below⟩
  · have HD := Lib.hid (DrawRenameKey_any A n c w hn hc h)
    clear h
    unfold maxLen at hn
    go_enter Try.func6, Try.ntmps6
    go_wp2_with fail
    refine (HD.out).mono ?_
    rintro e w1 ⟨v, K, s, key, tt, rfl, ⟨hS, hK⟩, hO, ⟨hs, hk, ht⟩, g1⟩
    obtain ⟨A0, c0, rfl, hA⟩ := hO.form
    have hf := hS.fit hK
    have HA := Lib.hid hA
    have HRI := Lib.hid (fun w2 (g : Grows w1 w2) => implRenameKey_any A0 c0 K s key tt w2 hf (by omega) (hA.keep g))
    have HRS := Lib.hid (fun w2 (g : Grows w1 w2) => specRenameKey_all A0 c0 K s key tt w2 hf (by omega) (hA.keep g))
    have HGF := Lib.hid (fun w2 (g : Grows w1 w2) => implGet_any A0 c0 K s key w2 hf (hA.keep g))
    have HG1 := Lib.hid g1
    have HFR := Lib.hid (fun hb : renKB K s key tt = true => renS_fits (S := isPair K s key) hf (show tt.size ≤ 1048576 by omega))
    have hrl : (renKL K s key tt).length ≤ 1048576 := by have := @renR_le K (pairsOf' K s key) (pairsOf' K s tt) (isPair K s key) tt; unfold renKL; omega
    have hO' := Lib.hid hO
    have hkz := hk
    unfold ResLB at HRI HRS
    clear hS hO g1 hA hf HD
    obtain ⟨m, hm⟩ : ∃ m, K.length = m := ⟨_, rfl⟩
    rw [hm] at HRI HRS HGF hK hO' ⊢
    have HM := Lib.hid hm
    clear hm
    obtain ⟨R, hR⟩ : ∃ R, renKL K s key tt = R := ⟨_, rfl⟩
    obtain ⟨rb, hrb⟩ : ∃ rb, renKB K s key tt = rb := ⟨_, rfl⟩
    have HKR : Hid (rb = true → KeyRen K s key tt R) := fun h => by rw [← hR]; exact renK_ok (hrb.trans h)
    have HFR2 : Hid (rb = true → AllFit R) := fun h => by have := HKR.out h; rw [this.eq]; exact HFR.out (hrb.trans h)
    rw [hR, hrb] at HRI HRS
    rw [hR] at hrl
    clear hR hrb HFR hs ht
    have GW : Hid (Grows w1 w1) := Grows.refl _
    have X0 : Hid (Box (w1.alloc (.cells #[.slice A0 m c0] 25)) w1.heap.size (.slice A0 m c0) 25) := heap_alloc_new w1 _
    have hO'' := Lib.hid (hO'.out.keep ((Grows.refl w1).alloc (.cells #[.slice A0 m c0] 25)))
    clear hO'
    have hO' := hO''
    clear hO''
    have GA : Hid (Grows w1 (w1.alloc (.cells #[.slice A0 m c0] 25))) := GW.out.alloc _
    clear GW
    have GW := GA
    clear GA
    have cX0 := X0.out.cell
    go_wp2_with fail
    refine (HRI.out _ GW.out).mono ?_
    rintro e w2 ⟨u2, rfl, hu2, g2⟩
    clear cX0
    have X0' := Lib.hid (X0.out.keep g2)
    clear X0
    have X0 := X0'
    clear X0'
    have hO'' := Lib.hid (hO'.out.keep g2)
    clear hO'
    have hO' := hO''
    clear hO''
    have GA : Hid (Grows w1 w2) := GW.out.trans g2
    clear GW
    have GW := GA
    clear GA
    clear g2
    have U2 := Lib.hid hu2
    clear hu2
    obtain ⟨A2, c2, hu2, _⟩ := U2.out.form
    subst hu2
    have X2 : Hid (Box (w2.alloc (.cells #[.slice A2 R.length c2] 25)) w2.heap.size (.slice A2 R.length c2) 25) := heap_alloc_new w2 _
    have X0' := Lib.hid (X0.out.keep ((Grows.refl w2).alloc (.cells #[.slice A2 R.length c2] 25)))
    clear X0
    have X0 := X0'
    clear X0'
    have hO'' := Lib.hid (hO'.out.keep ((Grows.refl w2).alloc (.cells #[.slice A2 R.length c2] 25)))
    clear hO'
    have hO' := hO''
    clear hO''
    have U2' := Lib.hid (U2.out.keep ((Grows.refl w2).alloc (.cells #[.slice A2 R.length c2] 25)))
    clear U2
    have U2 := U2'
    clear U2'
    have GA : Hid (Grows w1 (w2.alloc (.cells #[.slice A2 R.length c2] 25))) := GW.out.alloc _
    clear GW
    have GW := GA
    clear GA
    have cX0 := X0.out.cell
    have cX2 := X2.out.cell
    go_wp2_with fail
    refine (HRS.out _ GW.out).mono ?_
    rintro e w3 ⟨u3, rfl, hu3, g3⟩
    clear cX0 cX2
    have X0' := Lib.hid (X0.out.keep g3)
    clear X0
    have X0 := X0'
    clear X0'
    have X2' := Lib.hid (X2.out.keep g3)
    clear X2
    have X2 := X2'
    clear X2'
    have hO'' := Lib.hid (hO'.out.keep g3)
    clear hO'
    have hO' := hO''
    clear hO''
    have U2' := Lib.hid (U2.out.keep g3)
    clear U2
    have U2 := U2'
    clear U2'
    have GA : Hid (Grows w1 w3) := GW.out.trans g3
    clear GW
    have GW := GA
    clear GA
    clear g3
    have U3 := Lib.hid hu3
    clear hu3
    obtain ⟨A3, c3, hu3, _⟩ := U3.out.form
    subst hu3
    have X3 : Hid (Box (w3.alloc (.cells #[.slice A3 R.length c3] 25)) w3.heap.size (.slice A3 R.length c3) 25) := heap_alloc_new w3 _
    have X0' := Lib.hid (X0.out.keep ((Grows.refl w3).alloc (.cells #[.slice A3 R.length c3] 25)))
    clear X0
    have X0 := X0'
    clear X0'
    have X2' := Lib.hid (X2.out.keep ((Grows.refl w3).alloc (.cells #[.slice A3 R.length c3] 25)))
    clear X2
    have X2 := X2'
    clear X2'
    have hO'' := Lib.hid (hO'.out.keep ((Grows.refl w3).alloc (.cells #[.slice A3 R.length c3] 25)))
    clear hO'
    have hO' := hO''
    clear hO''
    have U2' := Lib.hid (U2.out.keep ((Grows.refl w3).alloc (.cells #[.slice A3 R.length c3] 25)))
    clear U2
    have U2 := U2'
    clear U2'
    have U3' := Lib.hid (U3.out.keep ((Grows.refl w3).alloc (.cells #[.slice A3 R.length c3] 25)))
    clear U3
    have U3 := U3'
    clear U3'
    have GA : Hid (Grows w1 (w3.alloc (.cells #[.slice A3 R.length c3] 25))) := GW.out.alloc _
    clear GW
    have GW := GA
    clear GA
    have cX0 := X0.out.cell
    have cX2 := X2.out.cell
    have cX3 := X3.out.cell
    go_wp2_with fail
    refine (equalFile_own _ _ _ _ R _ hrl U2.out U3.out).mono ?_
    rintro e w4 ⟨rfl, g4⟩
    clear cX0 cX2 cX3
    have X0' := Lib.hid (X0.out.keep g4)
    clear X0
    have X0 := X0'
    clear X0'
    have X2' := Lib.hid (X2.out.keep g4)
    clear X2
    have X2 := X2'
    clear X2'
    have X3' := Lib.hid (X3.out.keep g4)
    clear X3
    have X3 := X3'
    clear X3'
    have hO'' := Lib.hid (hO'.out.keep g4)
    clear hO'
    have hO' := hO''
    clear hO''
    have U2' := Lib.hid (U2.out.keep g4)
    clear U2
    have U2 := U2'
    clear U2'
    have U3' := Lib.hid (U3.out.keep g4)
    clear U3
    have U3 := U3'
    clear U3'
    have GA : Hid (Grows w1 w4) := GW.out.trans g4
    clear GW
    have GW := GA
    clear GA
    clear g4
    rcases rb with _ | _
    · have cX0 := X0.out.cell
      have cX2 := X2.out.cell
      have cX3 := X3.out.cell
      go_wp2_with fail
      refine (equalFile_own _ _ _ _ R _ hrl U2.out U3.out).mono ?_
      rintro e w5 ⟨rfl, g5⟩
      clear cX0 cX2 cX3
      have X0' := Lib.hid (X0.out.keep g5)
      clear X0
      have X0 := X0'
      clear X0'
      have X2' := Lib.hid (X2.out.keep g5)
      clear X2
      have X2 := X2'
      clear X2'
      have X3' := Lib.hid (X3.out.keep g5)
      clear X3
      have X3 := X3'
      clear X3'
      have hO'' := Lib.hid (hO'.out.keep g5)
      clear hO'
      have hO' := hO''
      clear hO''
      have U2' := Lib.hid (U2.out.keep g5)
      clear U2
      have U2 := U2'
      clear U2'
      have U3' := Lib.hid (U3.out.keep g5)
      clear U3
      have U3 := U3'
      clear U3'
      have GA : Hid (Grows w1 w5) := GW.out.trans g5
      clear GW
      have GW := GA
      clear GA
      clear g5
      have cX0 := X0.out.cell
      have cX2 := X2.out.cell
      have cX3 := X3.out.cell
      go_wp2
      go_ret
      exact ⟨rfl, (HG1.out.trans GW.out).below⟩
    · have HK := Lib.hid (HKR.out rfl)
      have hfR := HFR2.out rfl
      have HBK := Lib.hid (fun w2 (h : LnsAt w2 A2 R) => implRenameKey_any A2 c2 R s tt key w2 hfR (by omega) h)
      have HG2 := Lib.hid (fun w2 (h : LnsAt w2 A2 R) => implGet_any A2 c2 R s tt w2 hfR h)
      have HG3 := Lib.hid (fun w2 (h : LnsAt w2 A2 R) => implGet_any A2 c2 R s key w2 hfR h)
      obtain ⟨e1, e2⟩ := HK.out.again
      obtain ⟨e3, e4, e5⟩ := HK.out.get
      unfold ResLB at HBK
      rw [e1, e2] at HBK
      rw [e3, e4] at HG2
      rw [e5] at HG3
      clear e1 e2 e3 e4 e5 hfR HKR HFR2
      obtain ⟨gv, hgv⟩ : ∃ gv, getV K s key = gv := ⟨_, rfl⟩
      rw [hgv] at HG2 HGF
      clear hgv
      have cX0 := X0.out.cell
      have cX2 := X2.out.cell
      have cX3 := X3.out.cell
      go_wp2_with fail
      refine (HBK.out _ U2.out.at).mono ?_
      rintro e w5 ⟨u5, rfl, hu5, g5⟩
      clear cX0 cX2 cX3
      have X0' := Lib.hid (X0.out.keep g5)
      clear X0
      have X0 := X0'
      clear X0'
      have X2' := Lib.hid (X2.out.keep g5)
      clear X2
      have X2 := X2'
      clear X2'
      have X3' := Lib.hid (X3.out.keep g5)
      clear X3
      have X3 := X3'
      clear X3'
      have hO'' := Lib.hid (hO'.out.keep g5)
      clear hO'
      have hO' := hO''
      clear hO''
      have U2' := Lib.hid (U2.out.keep g5)
      clear U2
      have U2 := U2'
      clear U2'
      have U3' := Lib.hid (U3.out.keep g5)
      clear U3
      have U3 := U3'
      clear U3'
      have GA : Hid (Grows w1 w5) := GW.out.trans g5
      clear GW
      have GW := GA
      clear GA
      clear g5
      have U5 := Lib.hid hu5
      clear hu5
      obtain ⟨A5, c5, hu5, _⟩ := U5.out.form
      subst hu5
      have X5 : Hid (Box (w5.alloc (.cells #[.slice A5 K.length c5] 25)) w5.heap.size (.slice A5 K.length c5) 25) := heap_alloc_new w5 _
      have X0' := Lib.hid (X0.out.keep ((Grows.refl w5).alloc (.cells #[.slice A5 K.length c5] 25)))
      clear X0
      have X0 := X0'
      clear X0'
      have X2' := Lib.hid (X2.out.keep ((Grows.refl w5).alloc (.cells #[.slice A5 K.length c5] 25)))
      clear X2
      have X2 := X2'
      clear X2'
      have X3' := Lib.hid (X3.out.keep ((Grows.refl w5).alloc (.cells #[.slice A5 K.length c5] 25)))
      clear X3
      have X3 := X3'
      clear X3'
      have hO'' := Lib.hid (hO'.out.keep ((Grows.refl w5).alloc (.cells #[.slice A5 K.length c5] 25)))
      clear hO'
      have hO' := hO''
      clear hO''
      have U2' := Lib.hid (U2.out.keep ((Grows.refl w5).alloc (.cells #[.slice A5 K.length c5] 25)))
      clear U2
      have U2 := U2'
      clear U2'
      have U3' := Lib.hid (U3.out.keep ((Grows.refl w5).alloc (.cells #[.slice A5 K.length c5] 25)))
      clear U3
      have U3 := U3'
      clear U3'
      have U5' := Lib.hid (U5.out.keep ((Grows.refl w5).alloc (.cells #[.slice A5 K.length c5] 25)))
      clear U5
      have U5 := U5'
      clear U5'
      have GA : Hid (Grows w1 (w5.alloc (.cells #[.slice A5 K.length c5] 25))) := GW.out.alloc _
      clear GW
      have GW := GA
      clear GA
      have cX0 := X0.out.cell
      have cX2 := X2.out.cell
      have cX3 := X3.out.cell
      have cX5 := X5.out.cell
      go_wp2_with fail
      refine (HGF.out _ GW.out).mono ?_
      rintro e w6 ⟨rfl, g6⟩
      clear cX0 cX2 cX3 cX5
      have X0' := Lib.hid (X0.out.keep g6)
      clear X0
      have X0 := X0'
      clear X0'
      have X2' := Lib.hid (X2.out.keep g6)
      clear X2
      have X2 := X2'
      clear X2'
      have X3' := Lib.hid (X3.out.keep g6)
      clear X3
      have X3 := X3'
      clear X3'
      have X5' := Lib.hid (X5.out.keep g6)
      clear X5
      have X5 := X5'
      clear X5'
      have hO'' := Lib.hid (hO'.out.keep g6)
      clear hO'
      have hO' := hO''
      clear hO''
      have U2' := Lib.hid (U2.out.keep g6)
      clear U2
      have U2 := U2'
      clear U2'
      have U3' := Lib.hid (U3.out.keep g6)
      clear U3
      have U3 := U3'
      clear U3'
      have U5' := Lib.hid (U5.out.keep g6)
      clear U5
      have U5 := U5'
      clear U5'
      have GA : Hid (Grows w1 w6) := GW.out.trans g6
      clear GW
      have GW := GA
      clear GA
      clear g6
      have cX0 := X0.out.cell
      have cX2 := X2.out.cell
      have cX3 := X3.out.cell
      have cX5 := X5.out.cell
      go_wp2_with fail
      refine (HG2.out _ U2.out.at).mono ?_
      rintro e w7 ⟨rfl, g7⟩
      clear cX0 cX2 cX3 cX5
      have X0' := Lib.hid (X0.out.keep g7)
      clear X0
      have X0 := X0'
      clear X0'
      have X2' := Lib.hid (X2.out.keep g7)
      clear X2
      have X2 := X2'
      clear X2'
      have X3' := Lib.hid (X3.out.keep g7)
      clear X3
      have X3 := X3'
      clear X3'
      have X5' := Lib.hid (X5.out.keep g7)
      clear X5
      have X5 := X5'
      clear X5'
      have hO'' := Lib.hid (hO'.out.keep g7)
      clear hO'
      have hO' := hO''
      clear hO''
      have U2' := Lib.hid (U2.out.keep g7)
      clear U2
      have U2 := U2'
      clear U2'
      have U3' := Lib.hid (U3.out.keep g7)
      clear U3
      have U3 := U3'
      clear U3'
      have U5' := Lib.hid (U5.out.keep g7)
      clear U5
      have U5 := U5'
      clear U5'
      have GA : Hid (Grows w1 w7) := GW.out.trans g7
      clear GW
      have GW := GA
      clear GA
      clear g7
      have cX0 := X0.out.cell
      have cX2 := X2.out.cell
      have cX3 := X3.out.cell
      have cX5 := X5.out.cell
      go_wp2_with fail
      refine (HG3.out _ U2.out.at).mono ?_
      rintro e w8 ⟨rfl, g8⟩
      clear cX0 cX2 cX3 cX5
      have X0' := Lib.hid (X0.out.keep g8)
      clear X0
      have X0 := X0'
      clear X0'
      have X2' := Lib.hid (X2.out.keep g8)
      clear X2
      have X2 := X2'
      clear X2'
      have X3' := Lib.hid (X3.out.keep g8)
      clear X3
      have X3 := X3'
      clear X3'
      have X5' := Lib.hid (X5.out.keep g8)
      clear X5
      have X5 := X5'
      clear X5'
      have hO'' := Lib.hid (hO'.out.keep g8)
      clear hO'
      have hO' := hO''
      clear hO''
      have U2' := Lib.hid (U2.out.keep g8)
      clear U2
      have U2 := U2'
      clear U2'
      have U3' := Lib.hid (U3.out.keep g8)
      clear U3
      have U3 := U3'
      clear U3'
      have U5' := Lib.hid (U5.out.keep g8)
      clear U5
      have U5 := U5'
      clear U5'
      have GA : Hid (Grows w1 w8) := GW.out.trans g8
      clear GW
      have GW := GA
      clear GA
      clear g8
      have cX0 := X0.out.cell
      have cX2 := X2.out.cell
      have cX3 := X3.out.cell
      have cX5 := X5.out.cell
      go_wp2_with fail
      refine (equalFile_own _ _ _ _ K _ (by rw [HM.out]; omega) U5.out hO'.out).mono ?_
      rintro e w9 ⟨rfl, g9⟩
      clear cX0 cX2 cX3 cX5
      have X0' := Lib.hid (X0.out.keep g9)
      clear X0
      have X0 := X0'
      clear X0'
      have X2' := Lib.hid (X2.out.keep g9)
      clear X2
      have X2 := X2'
      clear X2'
      have X3' := Lib.hid (X3.out.keep g9)
      clear X3
      have X3 := X3'
      clear X3'
      have X5' := Lib.hid (X5.out.keep g9)
      clear X5
      have X5 := X5'
      clear X5'
      have hO'' := Lib.hid (hO'.out.keep g9)
      clear hO'
      have hO' := hO''
      clear hO''
      have U2' := Lib.hid (U2.out.keep g9)
      clear U2
      have U2 := U2'
      clear U2'
      have U3' := Lib.hid (U3.out.keep g9)
      clear U3
      have U3 := U3'
      clear U3'
      have U5' := Lib.hid (U5.out.keep g9)
      clear U5
      have U5 := U5'
      clear U5'
      have GA : Hid (Grows w1 w9) := GW.out.trans g9
      clear GW
      have GW := GA
      clear GA
      clear g9
      have cX0 := X0.out.cell
      have cX2 := X2.out.cell
      have cX3 := X3.out.cell
      have cX5 := X5.out.cell
      go_wp2
      go_ret
      exact ⟨rfl, (HG1.out.trans GW.out).below⟩
end Go.Proofs.Yteifcogfnpeahaa
