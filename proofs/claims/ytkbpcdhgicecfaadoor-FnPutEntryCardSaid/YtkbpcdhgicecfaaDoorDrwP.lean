/-
  The arguments that the drawn law of PutEntry generates. Conditions: none but that the bytes lie in memory.
-/
import Derived.Test.YtkbpcdhgicecfaaDoorDrwL
import Derived.Test.YtkbpcdhgicecfaaDoorPutE
import Derived.RegionTactic
namespace Go.Proofs.YtkbpcdhgicecfaaDoor
open Go.RowKit

/-- a call's end: a layer and an entry -/
def DLayE (w : World) (e : Ending) (w' : World) : Prop := ∃ (v : Value) (K : List Ent) (x : Ent), e = .returned (.tuple #[.agg #[v], x.agg]) ∧ (ShortE K ∧ K.length ≤ 101) ∧ x.short ∧ OwnE w' w.heap.size v K ∧ Grows w w'
/-- what the end of the generator needs of a world -/
def FinP (w : World) (v : Value) (K : List Ent) (x : Ent) (W : World) : Prop := Box W w.heap.size v 25 ∧ BoxE W (w.heap.size + 1) x 32 ∧ OwnE W w.heap.size v K ∧ Grows w W

theorem BoxE.st4e {w : World} {b : Nat} {e : Ent} {T : TypeId} (h : BoxE w b e T) (z : Ent) : BoxE ((((w.setCell ⟨b, 0, none⟩ (.string z.s)).setCell ⟨b, 1, none⟩ (.string z.k)).setCell ⟨b, 2, none⟩ (.int .i64 z.op)).setCell ⟨b, 3, none⟩ (.string z.v)) b z T := by
  unfold BoxE
  unfold BoxE at h
  simp [World.setCell, Array.getElem?_modify, h]

set_option maxRecDepth 100000 in
set_option maxHeartbeats 8000000 in
theorem DrawPutEntry_any (A : Option Addr) (n c : Nat) (w : World) (hn : n ≤ maxLen) (hc : n ≤ c) (h : BytesAt w A n) :
    Calls Tryd.prog 10 #[.slice A n c] w (DLayE w) := by
  have HB := Lib.hid (fun o o2 => h.keep (((Grows.refl w).alloc o).alloc o2))
  clear h
  go_enter Tryd.func10, Tryd.ntmps10
  go_wp2_with fail
  refine (newReader_any A n c _ hn hc (HB.out _ _)).mono ?_
  rintro e w1 ⟨A1, n1, c1, g, rfl, hn1, hg, r1, k1⟩
  have hgw : w.heap.size + 1 < g := by simp at hg; omega
  have Z1 : Hid (Box w1 w.heap.size (.slice none 0 0) 25) := row_grow (row_grow (heap_alloc_new w _) ((Grows.refl _).alloc _)) k1
  have V1 : Hid (BoxE w1 (w.heap.size + 1) Ent.zero 32) := row_grow (alloc_new2 w _ _) k1
  have R1 := Lib.hid r1
  have G1 : Hid (Grows w w1) := (((Grows.refl w).alloc _).alloc _).trans k1
  have S1 : w.heap.size + 1 < w1.heap.size := V1.out.lt
  have hg1 := Lib.hid r1.lt
  clear r1 k1 hg HB
  go_wp2_with fail
  refine (someLayer_any g A1 n1 c1 0 _ (by omega) hn1 R1.out).mono ?_
  rintro e w2 ⟨v, K, rfl, hS, hK, hO, q2, a2, b2, r2, k2⟩
  have hgv : ∀ k, v.ownBlock = some k → k ≠ g := fun k hk => by have h1 := (hO.lt k hk).1; have h2 := hg1.out; omega
  have Z2 : Hid (Box w2 w.heap.size (.slice none 0 0) 25) := row_keep Z1.out k2 (by omega)
  have V2 : Hid (BoxE w2 (w.heap.size + 1) Ent.zero 32) := row_keep V1.out k2 (by omega)
  have R2 := Lib.hid r2
  have O2 : Hid (OwnE w2 (w.heap.size + 2) v K) := hO.less (by omega)
  have G2 : Hid (Grows w w2) := G1.out.mark k2 (fun i hi => by injection hi with hi; omega)
  have SS := Lib.hid hS
  have hgn : g < w2.heap.size := r2.lt
  have hs2 : w.heap.size + 1 < w2.heap.size := V2.out.lt
  clear hS hO r2 k2 Z1 V1 R1 G1 hg1
  obtain ⟨A9, n9, c9, rfl⟩ := O2.out.form3
  have HGV := Lib.hid hgv
  clear hgv
  go_upto_region 3 with (fail)
  have L3 : Hid (Box (w2.alloc (.cells #[.slice A9 n9 c9] 25)) w2.heap.size (.slice A9 n9 c9) 25) := heap_alloc_new w2 _
  have Z3 := Lib.hid (Z2.out.keep ((Grows.refl w2).alloc (.cells #[.slice A9 n9 c9] 25)))
  have V3 := Lib.hid (V2.out.keep ((Grows.refl w2).alloc (.cells #[.slice A9 n9 c9] 25)))
  have O3 := Lib.hid (O2.out.keep ((Grows.refl w2).alloc (.cells #[.slice A9 n9 c9] 25)))
  have R3 := Lib.hid (R2.out.keep ((Grows.refl w2).alloc (.cells #[.slice A9 n9 c9] 25)))
  have G3 : Hid (Grows w (w2.alloc (.cells #[.slice A9 n9 c9] 25))) := G2.out.alloc _
  obtain ⟨w3, hw3⟩ : ∃ w3, w2.alloc (.cells #[.slice A9 n9 c9] 25) = w3 := ⟨_, rfl⟩
  rw [hw3] at L3 Z3 V3 O3 R3 G3 ⊢
  clear hw3 Z2 V2 O2 R2 G2
  obtain ⟨bl, hbl⟩ : ∃ bl, w2.heap.size = bl := ⟨_, rfl⟩
  rw [hbl] at L3 hgn hs2 ⊢
  have hbl1 : w.heap.size + 2 ≤ bl := by omega
  clear hbl
  go_wp2_with fail
  refine (aSection_any g A1 n1 c1 q2 _ (by omega) hn1 R3.out).mono ?_
  rintro e w4 ⟨s1, rfl, hs1, q4, a4, b4, r4, k4⟩
  have Hs1 := Lib.hid hs1
  clear hs1
  have L4 := Lib.hid (L3.out.far k4 (by intro e; injection e with e; omega))
  have Z4 := Lib.hid (Z3.out.far k4 (by intro e; injection e with e; omega))
  have V4 := Lib.hid (V3.out.far k4 (by intro e; injection e with e; omega))
  have O4 := Lib.hid (O3.out.far k4 (fun k hk e => by injection e with e; exact HGV.out k hk e.symm))
  have G4 : Hid (Grows w w4) := G3.out.mark k4 (fun i hi => by injection hi with hi; omega)
  have R4 := Lib.hid r4
  clear r4 k4 L3 Z3 V3 O3 G3 R3
  go_wp2_with fail
  refine (aKey_any g A1 n1 c1 q4 _ (by omega) hn1 R4.out).mono ?_
  rintro e w5 ⟨s2, rfl, hs2, q5, a5, b5, r5, k5⟩
  have Hs2 := Lib.hid hs2
  clear hs2
  have L5 := Lib.hid (L4.out.far k5 (by intro e; injection e with e; omega))
  have Z5 := Lib.hid (Z4.out.far k5 (by intro e; injection e with e; omega))
  have V5 := Lib.hid (V4.out.far k5 (by intro e; injection e with e; omega))
  have O5 := Lib.hid (O4.out.far k5 (fun k hk e => by injection e with e; exact HGV.out k hk e.symm))
  have G5 : Hid (Grows w w5) := G4.out.mark k5 (fun i hi => by injection hi with hi; omega)
  have R5 := Lib.hid r5
  clear r5 k5 L4 Z4 V4 O4 G4 R4
  have hLb : w5.heap.size ≠ g := by have := L5.out.lt; omega
  go_wp2_with fail
  refine (one_any w5.heap.size 5 _ _ _ g A1 n1 c1 q5 _ (heap_alloc_new w5 _) rfl (by decide) (by decide) (by kernel_rfl) hLb (by omega) hn1 (R5.out.keep ((Grows.refl _).alloc _))).mono ?_
  rintro e w6 h6
  obtain ⟨u, rfl, hu, q6, a6, b6, r6, k6⟩ := IntRet.of h6 ((Grows.refl _).alloc _)
  clear h6
  have hu9 := Lib.hid hu
  have L6 := Lib.hid (L5.out.far k6 (by intro e; injection e with e; omega))
  have Z6 := Lib.hid (Z5.out.far k6 (by intro e; injection e with e; omega))
  have V6 := Lib.hid (V5.out.far k6 (by intro e; injection e with e; omega))
  have O6 := Lib.hid (O5.out.far k6 (fun k hk e => by injection e with e; exact HGV.out k hk e.symm))
  have G6 : Hid (Grows w w6) := G5.out.mark k6 (fun i hi => by injection hi with hi; omega)
  have R6 := Lib.hid r6
  clear r6 k6 L5 Z5 V5 O5 G5 R5
  clear hu hLb
  go_wp2_with fail
  refine (anyValue_any g A1 n1 c1 q6 _ (by omega) hn1 R6.out).mono ?_
  rintro e w7 ⟨s3, rfl, hs3, q7, a7, b7, r7, k7⟩
  have Hs3 := Lib.hid hs3
  clear hs3
  have L7 := Lib.hid (L6.out.far k7 (by intro e; injection e with e; omega))
  have Z7 := Lib.hid (Z6.out.far k7 (by intro e; injection e with e; omega))
  have V7 := Lib.hid (V6.out.far k7 (by intro e; injection e with e; omega))
  have O7 := Lib.hid (O6.out.far k7 (fun k hk e => by injection e with e; exact HGV.out k hk e.symm))
  have G7 : Hid (Grows w w7) := G6.out.mark k7 (fun i hi => by injection hi with hi; omega)
  have R7 := Lib.hid r7
  clear r7 k7 L6 Z6 V6 O6 G6 R6
  go_upto_region 4 with (fail)
  have E8 : Hid (BoxE (w7.alloc (.cells #[.string s1, .string s2, .int .i64 u, .string s3] 32)) w7.heap.size ⟨s1, s2, u, s3⟩ 32) := BoxE.new w7 ⟨s1, s2, u, s3⟩ _
  have L8 := Lib.hid (L7.out.keep ((Grows.refl w7).alloc (.cells #[.string s1, .string s2, .int .i64 u, .string s3] 32)))
  have Z8 := Lib.hid (Z7.out.keep ((Grows.refl w7).alloc (.cells #[.string s1, .string s2, .int .i64 u, .string s3] 32)))
  have V8 := Lib.hid (V7.out.keep ((Grows.refl w7).alloc (.cells #[.string s1, .string s2, .int .i64 u, .string s3] 32)))
  have O8 := Lib.hid (O7.out.keep ((Grows.refl w7).alloc (.cells #[.string s1, .string s2, .int .i64 u, .string s3] 32)))
  have R8 := Lib.hid (R7.out.keep ((Grows.refl w7).alloc (.cells #[.string s1, .string s2, .int .i64 u, .string s3] 32)))
  have G8 : Hid (Grows w (w7.alloc (.cells #[.string s1, .string s2, .int .i64 u, .string s3] 32))) := G7.out.alloc _
  obtain ⟨w8, hw8⟩ : ∃ w8, w7.alloc (.cells #[.string s1, .string s2, .int .i64 u, .string s3] 32) = w8 := ⟨_, rfl⟩
  rw [hw8] at E8 L8 Z8 V8 O8 R8 G8 ⊢
  have hbg7 : g < w7.heap.size := R7.out.lt
  have hbl7 : bl < w7.heap.size := L7.out.lt
  obtain ⟨be, hbe⟩ : ∃ be, w7.heap.size = be := ⟨_, rfl⟩
  have HLW : Hid (∀ k, (Value.slice A9 n9 c9).ownBlock = some k → k < w7.heap.size) := fun k hk => (O7.out.lt k hk).2
  rw [hbe] at E8 hbg7 hbl7 HLW ⊢
  clear hw8 L7 Z7 V7 O7 R7 G7 hbe
  have c2 := E8.out.at2
  simp only at c2
  by_cases hu1 : u = 1
  · subst hu1
    go_wp2_with fail
    refine (pick_any 4 g A1 n1 c1 q7 _ (by omega) (by omega) (by omega) hn1 R8.out).mono ?_
    rintro e wa ⟨y, rfl, hy0, hy1, ra, ka⟩
    have La := Lib.hid (L8.out.far ka (by intro e; injection e with e; omega))
    have Ea := Lib.hid (E8.out.far ka (by intro e; injection e with e; omega))
    have Za := Lib.hid (Z8.out.far ka (by intro e; injection e with e; omega))
    have Va := Lib.hid (V8.out.far ka (by intro e; injection e with e; omega))
    have Oa := Lib.hid (O8.out.far ka (fun k hk e => by injection e with e; exact HGV.out k hk e.symm))
    have Ga : Hid (Grows w wa) := G8.out.mark ka (fun i hi => by injection hi with hi; omega)
    clear hy1 ra ka L8 Z8 V8 O8 R8 G8 c2 E8
    by_cases hy : 0 < y
    · have hyb : decide (0 < y) = true := by simpa using hy
      have c3 := Ea.out.at3
      simp only at c3
      have f3 := Ea.out.free 3
      have Eb := Lib.hid (Ea.out.set3 ⟨#[]⟩)
      have Gb : Hid (wa.grownBy (wa.setCell ⟨be, 3, none⟩ (.string ⟨#[]⟩)) (some be)) := gb_set (World.grownBy.refl _ _) _ _
      go_upto_region 6 with (fail)
      obtain ⟨wb, hwb⟩ : ∃ wb, wa.setCell ⟨be, 3, none⟩ (.string ⟨#[]⟩) = wb := ⟨_, rfl⟩
      rw [hwb] at Eb Gb ⊢
      clear hwb c3 f3
      have Lb := Lib.hid (La.out.far Gb.out (by intro e; injection e with e; omega))
      have Zb := Lib.hid (Za.out.far Gb.out (by intro e; injection e with e; omega))
      have Vb := Lib.hid (Va.out.far Gb.out (by intro e; injection e with e; omega))
      have Ob := Lib.hid (Oa.out.far Gb.out (fun k hk e => by injection e with e; have := HLW.out k hk; omega))
      have Gw : Hid (Grows w wb) := Ga.out.mark Gb.out (fun i hi => by injection hi with hi; omega)
      clear La Za Va Oa Ga Ea Gb
      have HN0 : Hid ((Value.slice A9 n9 c9).ownBlock ≠ some w.heap.size) := fun e => by have := (Ob.out.lt _ e).1; omega
      have HN1 : Hid ((Value.slice A9 n9 c9).ownBlock ≠ some (w.heap.size + 1)) := fun e => by have := (Ob.out.lt _ e).1; omega
      have F1 : Hid (FinP w (.slice A9 n9 c9) K (⟨(s1), (s2), (1), (⟨#[]⟩)⟩ : Ent) (((((wb.setCell ⟨w.heap.size, 0, none⟩ (.slice A9 n9 c9)).setCell ⟨w.heap.size + 1, 0, none⟩ (.string (s1))).setCell ⟨w.heap.size + 1, 1, none⟩ (.string (s2))).setCell ⟨w.heap.size + 1, 2, none⟩ (.int .i64 (1))).setCell ⟨w.heap.size + 1, 3, none⟩ (.string (⟨#[]⟩)))) := by
        refine ⟨Box.far (row := some (w.heap.size + 1)) (Zb.out.set_ _) (gb_set (gb_set (gb_set (gb_set (World.grownBy.refl _ _) _ _) _ _) _ _) _ _) (by intro e; injection e with e; omega), BoxE.st4e (BoxE.far (row := some w.heap.size) Vb.out (gb_set (World.grownBy.refl _ _) _ _) (by intro e; injection e with e; omega)) (⟨(s1), (s2), (1), (⟨#[]⟩)⟩ : Ent), ?_, ?_⟩
        · exact (((((Ob.out.setFar HN0.out _).setFar HN1.out _).setFar HN1.out _).setFar HN1.out _).setFar HN1.out _).less (by omega)
        · exact ((((Gw.out.setCell (by simp) _).setCell (by simp) _).setCell (by simp) _).setCell (by simp) _).setCell (by simp) _
      have F2 : Hid (FinP w (.slice A9 n9 c9) K (⟨(s1), (s2), (1), (⟨#[]⟩)⟩ : Ent) (((((wb.setCell ⟨w.heap.size + 1, 0, none⟩ (.string (s1))).setCell ⟨w.heap.size + 1, 1, none⟩ (.string (s2))).setCell ⟨w.heap.size + 1, 2, none⟩ (.int .i64 (1))).setCell ⟨w.heap.size + 1, 3, none⟩ (.string (⟨#[]⟩))).setCell ⟨w.heap.size, 0, none⟩ (.slice A9 n9 c9))) := by
        refine ⟨Box.set_ (Box.far (row := some (w.heap.size + 1)) Zb.out (gb_set (gb_set (gb_set (gb_set (World.grownBy.refl _ _) _ _) _ _) _ _) _ _) (by intro e; injection e with e; omega)) _, BoxE.far (row := some w.heap.size) (BoxE.st4e Vb.out (⟨(s1), (s2), (1), (⟨#[]⟩)⟩ : Ent)) (gb_set (World.grownBy.refl _ _) _ _) (by intro e; injection e with e; omega), ?_, ?_⟩
        · exact (((((Ob.out.setFar HN1.out _).setFar HN1.out _).setFar HN1.out _).setFar HN1.out _).setFar HN0.out _).less (by omega)
        · exact ((((Gw.out.setCell (by simp) _).setCell (by simp) _).setCell (by simp) _).setCell (by simp) _).setCell (by simp) _
      obtain ⟨wx, hwx⟩ : ∃ wx, (((((wb.setCell ⟨w.heap.size, 0, none⟩ (.slice A9 n9 c9)).setCell ⟨w.heap.size + 1, 0, none⟩ (.string (s1))).setCell ⟨w.heap.size + 1, 1, none⟩ (.string (s2))).setCell ⟨w.heap.size + 1, 2, none⟩ (.int .i64 (1))).setCell ⟨w.heap.size + 1, 3, none⟩ (.string (⟨#[]⟩))) = wx := ⟨_, rfl⟩
      obtain ⟨wy, hwy⟩ : ∃ wy, (((((wb.setCell ⟨w.heap.size + 1, 0, none⟩ (.string (s1))).setCell ⟨w.heap.size + 1, 1, none⟩ (.string (s2))).setCell ⟨w.heap.size + 1, 2, none⟩ (.int .i64 (1))).setCell ⟨w.heap.size + 1, 3, none⟩ (.string (⟨#[]⟩))).setCell ⟨w.heap.size, 0, none⟩ (.slice A9 n9 c9)) = wy := ⟨_, rfl⟩
      rw [hwx] at F1
      rw [hwy] at F2
      have HWX := Lib.hid hwx
      have HWY := Lib.hid hwy
      clear hwx hwy
      have t0 := Lb.out.cell
      have e0 := Eb.out.at0
      have e1 := Eb.out.at1
      have e2 := Eb.out.at2
      have e3 := Eb.out.at3
      simp only at e0 e1 e2 e3
      have z0 := Zb.out.cell
      have zf := Zb.out.free
      have v0 := Vb.out.at0
      have v1 := Vb.out.at1
      have v2 := Vb.out.at2
      have v3 := Vb.out.at3
      have vf0 := Vb.out.free 0
      have vf1 := Vb.out.free 1
      have vf2 := Vb.out.free 2
      have vf3 := Vb.out.free 3
      have HXS : Hid (Ent.short (⟨(s1), (s2), (1), (⟨#[]⟩)⟩ : Ent)) := ⟨Hs1.out, Hs2.out, empty_41, ⟨show (-100 : Int) ≤ 1 by omega, show (1 : Int) ≤ 100 by omega⟩⟩
      go_region
      all_goals
        go_wp2
        first
        | (rw [HWX.out]; obtain ⟨f0, f1, f2, f3⟩ := F1.out)
        | (rw [HWY.out]; obtain ⟨f0, f1, f2, f3⟩ := F2.out)
        have p0 := f0.cell
        have p1 := f1.at0
        have p2 := f1.at1
        have p3 := f1.at2
        have p4 := f1.at3
        simp only at p1 p2 p3 p4
        refine bodyPost_ret (v := .tuple #[.agg #[.slice A9 n9 c9], .agg #[.string (s1), .string (s2), .int .i64 (1), .string (⟨#[]⟩)]]) (by simp [results, Tryd.results10, go_sem, p0, p1, p2, p3, p4]) rfl ?_
        first
        | exact ⟨_, K, (⟨(s1), (s2), (1), (⟨#[]⟩)⟩ : Ent), rfl, ⟨SS.out, hK⟩, HXS.out, f2, f3⟩
        | exact ⟨_, K, (⟨(s1), (s2), (1), (⟨#[]⟩)⟩ : Ent), rfl, ⟨SS.out, hK⟩, HXS.out, f2.keep (Grows.refl _).drew, f3.drew⟩
    · have hyb : decide (0 < y) = false := by simpa using hy
      go_upto_region 6 with (fail)
      have HN0 : Hid ((Value.slice A9 n9 c9).ownBlock ≠ some w.heap.size) := fun e => by have := (Oa.out.lt _ e).1; omega
      have HN1 : Hid ((Value.slice A9 n9 c9).ownBlock ≠ some (w.heap.size + 1)) := fun e => by have := (Oa.out.lt _ e).1; omega
      have F1 : Hid (FinP w (.slice A9 n9 c9) K (⟨(s1), (s2), (1), (s3)⟩ : Ent) (((((wa.setCell ⟨w.heap.size, 0, none⟩ (.slice A9 n9 c9)).setCell ⟨w.heap.size + 1, 0, none⟩ (.string (s1))).setCell ⟨w.heap.size + 1, 1, none⟩ (.string (s2))).setCell ⟨w.heap.size + 1, 2, none⟩ (.int .i64 (1))).setCell ⟨w.heap.size + 1, 3, none⟩ (.string (s3)))) := by
        refine ⟨Box.far (row := some (w.heap.size + 1)) (Za.out.set_ _) (gb_set (gb_set (gb_set (gb_set (World.grownBy.refl _ _) _ _) _ _) _ _) _ _) (by intro e; injection e with e; omega), BoxE.st4e (BoxE.far (row := some w.heap.size) Va.out (gb_set (World.grownBy.refl _ _) _ _) (by intro e; injection e with e; omega)) (⟨(s1), (s2), (1), (s3)⟩ : Ent), ?_, ?_⟩
        · exact (((((Oa.out.setFar HN0.out _).setFar HN1.out _).setFar HN1.out _).setFar HN1.out _).setFar HN1.out _).less (by omega)
        · exact ((((Ga.out.setCell (by simp) _).setCell (by simp) _).setCell (by simp) _).setCell (by simp) _).setCell (by simp) _
      have F2 : Hid (FinP w (.slice A9 n9 c9) K (⟨(s1), (s2), (1), (s3)⟩ : Ent) (((((wa.setCell ⟨w.heap.size + 1, 0, none⟩ (.string (s1))).setCell ⟨w.heap.size + 1, 1, none⟩ (.string (s2))).setCell ⟨w.heap.size + 1, 2, none⟩ (.int .i64 (1))).setCell ⟨w.heap.size + 1, 3, none⟩ (.string (s3))).setCell ⟨w.heap.size, 0, none⟩ (.slice A9 n9 c9))) := by
        refine ⟨Box.set_ (Box.far (row := some (w.heap.size + 1)) Za.out (gb_set (gb_set (gb_set (gb_set (World.grownBy.refl _ _) _ _) _ _) _ _) _ _) (by intro e; injection e with e; omega)) _, BoxE.far (row := some w.heap.size) (BoxE.st4e Va.out (⟨(s1), (s2), (1), (s3)⟩ : Ent)) (gb_set (World.grownBy.refl _ _) _ _) (by intro e; injection e with e; omega), ?_, ?_⟩
        · exact (((((Oa.out.setFar HN1.out _).setFar HN1.out _).setFar HN1.out _).setFar HN1.out _).setFar HN0.out _).less (by omega)
        · exact ((((Ga.out.setCell (by simp) _).setCell (by simp) _).setCell (by simp) _).setCell (by simp) _).setCell (by simp) _
      obtain ⟨wx, hwx⟩ : ∃ wx, (((((wa.setCell ⟨w.heap.size, 0, none⟩ (.slice A9 n9 c9)).setCell ⟨w.heap.size + 1, 0, none⟩ (.string (s1))).setCell ⟨w.heap.size + 1, 1, none⟩ (.string (s2))).setCell ⟨w.heap.size + 1, 2, none⟩ (.int .i64 (1))).setCell ⟨w.heap.size + 1, 3, none⟩ (.string (s3))) = wx := ⟨_, rfl⟩
      obtain ⟨wy, hwy⟩ : ∃ wy, (((((wa.setCell ⟨w.heap.size + 1, 0, none⟩ (.string (s1))).setCell ⟨w.heap.size + 1, 1, none⟩ (.string (s2))).setCell ⟨w.heap.size + 1, 2, none⟩ (.int .i64 (1))).setCell ⟨w.heap.size + 1, 3, none⟩ (.string (s3))).setCell ⟨w.heap.size, 0, none⟩ (.slice A9 n9 c9)) = wy := ⟨_, rfl⟩
      rw [hwx] at F1
      rw [hwy] at F2
      have HWX := Lib.hid hwx
      have HWY := Lib.hid hwy
      clear hwx hwy
      have t0 := La.out.cell
      have e0 := Ea.out.at0
      have e1 := Ea.out.at1
      have e2 := Ea.out.at2
      have e3 := Ea.out.at3
      simp only at e0 e1 e2 e3
      have z0 := Za.out.cell
      have zf := Za.out.free
      have v0 := Va.out.at0
      have v1 := Va.out.at1
      have v2 := Va.out.at2
      have v3 := Va.out.at3
      have vf0 := Va.out.free 0
      have vf1 := Va.out.free 1
      have vf2 := Va.out.free 2
      have vf3 := Va.out.free 3
      have HXS : Hid (Ent.short (⟨(s1), (s2), (1), (s3)⟩ : Ent)) := ⟨Hs1.out, Hs2.out, Hs3.out, ⟨show (-100 : Int) ≤ 1 by omega, show (1 : Int) ≤ 100 by omega⟩⟩
      go_region
      all_goals
        go_wp2
        first
        | (rw [HWX.out]; obtain ⟨f0, f1, f2, f3⟩ := F1.out)
        | (rw [HWY.out]; obtain ⟨f0, f1, f2, f3⟩ := F2.out)
        have p0 := f0.cell
        have p1 := f1.at0
        have p2 := f1.at1
        have p3 := f1.at2
        have p4 := f1.at3
        simp only at p1 p2 p3 p4
        refine bodyPost_ret (v := .tuple #[.agg #[.slice A9 n9 c9], .agg #[.string (s1), .string (s2), .int .i64 (1), .string (s3)]]) (by simp [results, Tryd.results10, go_sem, p0, p1, p2, p3, p4]) rfl ?_
        first
        | exact ⟨_, K, (⟨(s1), (s2), (1), (s3)⟩ : Ent), rfl, ⟨SS.out, hK⟩, HXS.out, f2, f3⟩
        | exact ⟨_, K, (⟨(s1), (s2), (1), (s3)⟩ : Ent), rfl, ⟨SS.out, hK⟩, HXS.out, f2.keep (Grows.refl _).drew, f3.drew⟩
  · have hub : (u == 1) = false := by rw [beq_eq_false_iff_ne]; exact hu1
    clear hu1
    go_upto_region 6 with (fail)
    have HN0 : Hid ((Value.slice A9 n9 c9).ownBlock ≠ some w.heap.size) := fun e => by have := (O8.out.lt _ e).1; omega
    have HN1 : Hid ((Value.slice A9 n9 c9).ownBlock ≠ some (w.heap.size + 1)) := fun e => by have := (O8.out.lt _ e).1; omega
    have F1 : Hid (FinP w (.slice A9 n9 c9) K (⟨(s1), (s2), (u), (s3)⟩ : Ent) (((((w8.setCell ⟨w.heap.size, 0, none⟩ (.slice A9 n9 c9)).setCell ⟨w.heap.size + 1, 0, none⟩ (.string (s1))).setCell ⟨w.heap.size + 1, 1, none⟩ (.string (s2))).setCell ⟨w.heap.size + 1, 2, none⟩ (.int .i64 (u))).setCell ⟨w.heap.size + 1, 3, none⟩ (.string (s3)))) := by
      refine ⟨Box.far (row := some (w.heap.size + 1)) (Z8.out.set_ _) (gb_set (gb_set (gb_set (gb_set (World.grownBy.refl _ _) _ _) _ _) _ _) _ _) (by intro e; injection e with e; omega), BoxE.st4e (BoxE.far (row := some w.heap.size) V8.out (gb_set (World.grownBy.refl _ _) _ _) (by intro e; injection e with e; omega)) (⟨(s1), (s2), (u), (s3)⟩ : Ent), ?_, ?_⟩
      · exact (((((O8.out.setFar HN0.out _).setFar HN1.out _).setFar HN1.out _).setFar HN1.out _).setFar HN1.out _).less (by omega)
      · exact ((((G8.out.setCell (by simp) _).setCell (by simp) _).setCell (by simp) _).setCell (by simp) _).setCell (by simp) _
    have F2 : Hid (FinP w (.slice A9 n9 c9) K (⟨(s1), (s2), (u), (s3)⟩ : Ent) (((((w8.setCell ⟨w.heap.size + 1, 0, none⟩ (.string (s1))).setCell ⟨w.heap.size + 1, 1, none⟩ (.string (s2))).setCell ⟨w.heap.size + 1, 2, none⟩ (.int .i64 (u))).setCell ⟨w.heap.size + 1, 3, none⟩ (.string (s3))).setCell ⟨w.heap.size, 0, none⟩ (.slice A9 n9 c9))) := by
      refine ⟨Box.set_ (Box.far (row := some (w.heap.size + 1)) Z8.out (gb_set (gb_set (gb_set (gb_set (World.grownBy.refl _ _) _ _) _ _) _ _) _ _) (by intro e; injection e with e; omega)) _, BoxE.far (row := some w.heap.size) (BoxE.st4e V8.out (⟨(s1), (s2), (u), (s3)⟩ : Ent)) (gb_set (World.grownBy.refl _ _) _ _) (by intro e; injection e with e; omega), ?_, ?_⟩
      · exact (((((O8.out.setFar HN1.out _).setFar HN1.out _).setFar HN1.out _).setFar HN1.out _).setFar HN0.out _).less (by omega)
      · exact ((((G8.out.setCell (by simp) _).setCell (by simp) _).setCell (by simp) _).setCell (by simp) _).setCell (by simp) _
    obtain ⟨wx, hwx⟩ : ∃ wx, (((((w8.setCell ⟨w.heap.size, 0, none⟩ (.slice A9 n9 c9)).setCell ⟨w.heap.size + 1, 0, none⟩ (.string (s1))).setCell ⟨w.heap.size + 1, 1, none⟩ (.string (s2))).setCell ⟨w.heap.size + 1, 2, none⟩ (.int .i64 (u))).setCell ⟨w.heap.size + 1, 3, none⟩ (.string (s3))) = wx := ⟨_, rfl⟩
    obtain ⟨wy, hwy⟩ : ∃ wy, (((((w8.setCell ⟨w.heap.size + 1, 0, none⟩ (.string (s1))).setCell ⟨w.heap.size + 1, 1, none⟩ (.string (s2))).setCell ⟨w.heap.size + 1, 2, none⟩ (.int .i64 (u))).setCell ⟨w.heap.size + 1, 3, none⟩ (.string (s3))).setCell ⟨w.heap.size, 0, none⟩ (.slice A9 n9 c9)) = wy := ⟨_, rfl⟩
    rw [hwx] at F1
    rw [hwy] at F2
    have HWX := Lib.hid hwx
    have HWY := Lib.hid hwy
    clear hwx hwy
    have t0 := L8.out.cell
    have e0 := E8.out.at0
    have e1 := E8.out.at1
    have e2 := E8.out.at2
    have e3 := E8.out.at3
    simp only at e0 e1 e2 e3
    have z0 := Z8.out.cell
    have zf := Z8.out.free
    have v0 := V8.out.at0
    have v1 := V8.out.at1
    have v2 := V8.out.at2
    have v3 := V8.out.at3
    have vf0 := V8.out.free 0
    have vf1 := V8.out.free 1
    have vf2 := V8.out.free 2
    have vf3 := V8.out.free 3
    have HXS : Hid (Ent.short (⟨(s1), (s2), (u), (s3)⟩ : Ent)) := ⟨Hs1.out, Hs2.out, Hs3.out, hu9.out⟩
    go_region
    all_goals
      go_wp2
      first
      | (rw [HWX.out]; obtain ⟨f0, f1, f2, f3⟩ := F1.out)
      | (rw [HWY.out]; obtain ⟨f0, f1, f2, f3⟩ := F2.out)
      have p0 := f0.cell
      have p1 := f1.at0
      have p2 := f1.at1
      have p3 := f1.at2
      have p4 := f1.at3
      simp only at p1 p2 p3 p4
      refine bodyPost_ret (v := .tuple #[.agg #[.slice A9 n9 c9], .agg #[.string (s1), .string (s2), .int .i64 (u), .string (s3)]]) (by simp [results, Tryd.results10, go_sem, p0, p1, p2, p3, p4]) rfl ?_
      first
      | exact ⟨_, K, (⟨(s1), (s2), (u), (s3)⟩ : Ent), rfl, ⟨SS.out, hK⟩, HXS.out, f2, f3⟩
      | exact ⟨_, K, (⟨(s1), (s2), (u), (s3)⟩ : Ent), rfl, ⟨SS.out, hK⟩, HXS.out, f2.keep (Grows.refl _).drew, f3.drew⟩
end Go.Proofs.YtkbpcdhgicecfaaDoor
