/-
  The law of SectionsOf: whatever its arguments, it returns true. Conditions: parts no longer than a text may be.
-/
import Derived.Test.YteifcogfnpeahaaSecs
namespace Go.Proofs.Yteifcogfnpeahaa
open Go.RowKit

set_option maxRecDepth 100000 in
set_option maxHeartbeats 8000000 in
theorem lawSecs_any (A : Option Addr) (c : Nat) (ls : List Ln) (w : World) (hn : ls.length ≤ maxLen) (hr : ∀ i (h : i < ls.length), ls[i].inReach) (hA : LnsAt w A ls) :
    Calls Try.prog 10 #[.agg #[.slice A ls.length c]] w fun e w' => e = .returned (.bool true) ∧ Below w.heap.size w w' := by
  have HZ := Lib.hid (fun w1 (g : Grows w w1) => szFile_any A c ls 1048576 w1 (by omega) (by omega) hn hr (hA.keep g))
  by_cases hw : (wlines ls : Int) ≤ 1048576
  · have hf := fits_of hw
    rw [less_of hw] at HZ
    have HT := Lib.hid (fun w1 (g : Grows w w1) => toFile_any A c ls w1 hf.1 (hA.keep g))
    have HO := Lib.hid (fun w1 (g : Grows w w1) => toFile_own A c ls w1 hf.1 (hA.keep g))
    have HV := Lib.hid (fun (B : Option Addr) (d : Nat) w1 (h : LnsAt w1 B ls) => specSecs_any B d ls  w1 hf h)
    have HI := Lib.hid (fun (B : Option Addr) (d : Nat) w1 (h : LnsAt w1 B ls) => implSecs_any B d ls  w1 hf h)
    have HEF := Lib.hid (fun (B C : Option Addr) (d e : Nat) w1 (h : LnsAt w1 B ls) (h2 : LnsAt w1 C ls) => eqFile_any B C d e ls w1 hn h h2)
    have hxl : (secsOf' ls).length ≤ 1048576 := Nat.le_trans (secsOf_le ls) hf.1
    have HMF := Lib.hid (fun (g : Nat) (w1 : World) (h : Own6 w1 g ls.length) => markFile_any g ls.length ls.length 1 w1 hf.1 (by omega) h)
    obtain ⟨m, hm⟩ : ∃ m, (1048576 : Int) - (wlines ls : Int) = m := ⟨_, rfl⟩
    rw [hm] at HZ
    have hm0 : 0 ≤ m := by omega
    have hn6 := hf.1
    clear hA hr hw hf hn hm
    obtain ⟨n, hnn⟩ : ∃ n, ls.length = n := ⟨_, rfl⟩
    unfold FileRet at HT
    unfold FileOwn at HO
    unfold StrsRet at HV HI
    rw [hnn] at HZ HT HV HI HEF HO HMF hn6 ⊢
    clear hnn
    obtain ⟨xs, hxs⟩ : ∃ xs, secsOf' ls = xs := ⟨_, rfl⟩
    rw [hxs] at HV HI hxl
    clear hxs
    have HE := Lib.hid (fun (v u : Value) (b1 b2 : Nat) (w1 : World) (h : OwnS w1 b1 v xs) (h2 : OwnS w1 b2 u xs) => eqStringS_any v u b1 b2 xs w1 hxl h h2)
    have HMS := Lib.hid (fun (v : Value) (b : Nat) (w1 : World) (h : OwnS w1 b v xs) => markStringS_any v b xs 1 w1 hxl (by omega) h)
    have HHS := Lib.hid (fun (v : Value) (b : Nat) (w1 : World) (h : OwnS w1 b v (marks 1 xs.length)) => heldStringS_any v b xs.length 1 w1 hxl (by omega) h)
    obtain ⟨q, hq⟩ : ∃ q, xs.length = q := ⟨_, rfl⟩
    rw [hq] at HMS HHS hxl
    clear hq
    have e1 : ((1 + n * 6 : Nat) : Int) = 1 + (n : Int) * 6 := by omega
    have e2 : ((1 + q : Nat) : Int) = 1 + (q : Int) := by omega
    rw [e1] at HMF
    rw [e2] at HMS HHS
    clear e1 e2
    have e3 : ((1 : Nat) : Int) = 1 := rfl
    rw [e3] at HMF HMS HHS
    clear e3
    go_enter Try.func10, Try.ntmps10
    go_wp2_with fail
    refine (HZ.out _ ((Grows.refl _).alloc _)).mono ?_
    rintro e w1 ⟨rfl, g1⟩
    have G1 : Grows (w.alloc (.cells #[.slice A n c] 54)) w1 := g1
    have hx1 : w1.cell? ⟨w.heap.size, 0, none⟩ = some (.slice A n c) := (G1.cell (p := ⟨w.heap.size, 0, none⟩) (by simp)).trans (by simp)
    clear g1
    go_wp2_with fail
    refine (HT.out _ (((Grows.refl _).alloc _).trans G1)).mono ?_
    rintro e w2 ⟨B, rfl, hB, g2⟩
    have G2 : Grows (w.alloc (.cells #[.slice A n c] 54)) w2 := G1.trans g2
    have hx2 : w2.cell? ⟨w.heap.size, 0, none⟩ = some (.slice A n c) := (G2.cell (p := ⟨w.heap.size, 0, none⟩) (by simp)).trans (by simp)
    clear g2
    go_wp2_with fail
    refine (HV.out _ _ _ hB).mono ?_
    rintro e w3 ⟨v0, rfl, hv0, g3⟩
    have G3 : Grows (w.alloc (.cells #[.slice A n c] 54)) w3 := G2.trans g3
    have hx3 : w3.cell? ⟨w.heap.size, 0, none⟩ = some (.slice A n c) := (G3.cell (p := ⟨w.heap.size, 0, none⟩) (by simp)).trans (by simp)
    have HV0 := Lib.hid hv0
    clear g3 hB hv0
    go_wp2_with fail
    refine (HO.out _ (((Grows.refl _).alloc _).trans G3)).mono ?_
    rintro e w4 ⟨g, rfl, hC, hown, hgg, g4⟩
    have G4 : Grows (w.alloc (.cells #[.slice A n c] 54)) w4 := G3.trans g4
    have hx4 : w4.cell? ⟨w.heap.size, 0, none⟩ = some (.slice A n c) := (G4.cell (p := ⟨w.heap.size, 0, none⟩) (by simp)).trans (by simp)
    have HV04 : Hid (OwnS w4 w2.heap.size v0 xs) := HV0.out.keep g4
    have HL0 : Hid (∀ k, v0.ownBlock = some k → k < g) := fun k hk => Nat.lt_of_lt_of_le (World.ownsRow.lt HV0.out k hk).2 hgg
    have hg0 : (w.alloc (.cells #[.slice A n c] 54)).heap.size ≤ g := Nat.le_trans G3.size hgg
    have HGG := Lib.hid hg0
    have HC := Lib.hid hC
    have HOWN := Lib.hid hown
    clear hgg g4 HV0 hC hown hg0
    go_wp2_with fail
    refine (HI.out _ _ _ (HC.out.keep ((Grows.refl _).alloc _))).mono ?_
    rintro e w5 ⟨v1, rfl, hv1, g5⟩
    have G5 : Grows (w.alloc (.cells #[.slice A n c] 54)) w5 := (G4.alloc _).trans g5
    have hx5 : w5.cell? ⟨w.heap.size, 0, none⟩ = some (.slice A n c) := (G5.cell (p := ⟨w.heap.size, 0, none⟩) (by simp)).trans (by simp)
    have hy5 : w5.cell? ⟨w4.heap.size, 0, none⟩ = some (.slice (some ⟨g, 0, none⟩) n n) := (g5.cell (p := ⟨w4.heap.size, 0, none⟩) (by simp)).trans (by simp)
    have HC5 := Lib.hid ((HC.out.keep ((Grows.refl _).alloc _)).keep g5)
    have HO5 := Lib.hid ((HOWN.out.keep ((Grows.refl _).alloc _)).keep g5)
    have HV5 := Lib.hid ((HV04.out.keep ((Grows.refl _).alloc _)).keep g5)
    have HV1 : Hid (OwnS w5 (w4.heap.size + 1) v1 xs) := by have h := hv1; simp only [World.size_alloc] at h; exact h
    have hs5 : w4.heap.size < w5.heap.size := Nat.lt_of_lt_of_le (by simp) g5.size
    have hgl : g < w4.heap.size := HOWN.out.lt
    have HGL := Lib.hid hgl
    clear g5 hv1 HC HOWN HV04 hgl
    go_wp2_with fail
    refine (HE.out _ _ _ _ _ HV1.out HV5.out).mono ?_
    rintro e w6 ⟨rfl, g6⟩
    have G6 : Grows (w.alloc (.cells #[.slice A n c] 54)) w6 := G5.trans g6
    have hx6 : w6.cell? ⟨w.heap.size, 0, none⟩ = some (.slice A n c) := (G6.cell (p := ⟨w.heap.size, 0, none⟩) (by simp)).trans (by simp)
    have hy6 := (g6.cell (p := ⟨w4.heap.size, 0, none⟩) hs5).trans hy5
    have hs6 : w4.heap.size < w6.heap.size := Nat.lt_of_lt_of_le hs5 g6.size
    have HC6 : Hid (LnsAt w6.drew (some ⟨g, 0, none⟩) ls) := HC5.out.keep g6.drew
    have HO6 : Hid (Own6 w6.drew g n) := HO5.out.keep g6.drew
    have HV6 : Hid (OwnS w6.drew w2.heap.size v0 xs) := HV5.out.keep g6.drew
    have HW6 : Hid (OwnS w6.drew (w4.heap.size + 1) v1 xs) := HV1.out.keep g6.drew
    have HG6 : Hid (Grows (w.alloc (.cells #[.slice A n c] 54)) w6.drew) := G6.drew
    have hs60 : w.heap.size < w6.heap.size := Nat.lt_of_lt_of_le (by simp) G6.size
    clear g6 HC5 HO5 HV5 HV1
    go_wp2_with fail
    first | (go_region_with (first | (go_at_call 43; refine (HT.out _ (((Grows.refl _).alloc _).trans HG6.out)).mono ?_; rintro e w7 ⟨D, rfl, hD, g7⟩; have hx7 : w7.cell? ⟨w.heap.size, 0, none⟩ = some (.slice A n c) := (g7.cell (p := ⟨w.heap.size, 0, none⟩) hs60).trans hx6; have hy7 : w7.cell? ⟨w4.heap.size, 0, none⟩ = some (.slice (some ⟨g, 0, none⟩) n n) := (g7.cell (p := ⟨w4.heap.size, 0, none⟩) hs6).trans hy6; have HC7 := Lib.hid (HC6.out.keep g7); have HD7 := Lib.hid hD; have HG7 := Lib.hid g7; have hs7 : w4.heap.size < w7.heap.size := Nat.lt_of_lt_of_le hs6 g7.size; have hs70 : w.heap.size < w7.heap.size := Nat.lt_of_lt_of_le hs60 g7.size; clear hD g7) | (go_at_call 45; refine (HEF.out _ _ _ _ _ HC7.out HD7.out).mono ?_; rintro e w8 ⟨rfl, g8⟩; have hx8 : w8.cell? ⟨w.heap.size, 0, none⟩ = some (.slice A n c) := (g8.cell (p := ⟨w.heap.size, 0, none⟩) hs70).trans hx7; have hy8 : w8.cell? ⟨w4.heap.size, 0, none⟩ = some (.slice (some ⟨g, 0, none⟩) n n) := (g8.cell (p := ⟨w4.heap.size, 0, none⟩) hs7).trans hy7; have HG8 : Hid (Grows w6.drew w8) := HG7.out.trans g8; clear g8))) | skip
    all_goals
      have HO8 := Lib.hid (HO6.out.keep HG8.out)
      have HV8 := Lib.hid (HV6.out.keep HG8.out)
      have HW8 := Lib.hid (HW6.out.keep HG8.out)
      have G8 : Hid (Grows (w.alloc (.cells #[.slice A n c] 54)) w8) := HG6.out.trans HG8.out
      clear HC7 HD7 HG7 hx7 hy7 hs7 hs70
      go_wp2_with fail
      refine (HMF.out _ _ HO8.out).mono ?_
      rintro e w9 ⟨rfl, g9⟩
      have G9 : Hid (Grows (w.alloc (.cells #[.slice A n c] 54)) w9) := G8.out.mark g9 (fun k hk => by injection hk with hk; rw [← hk]; exact HGG.out)
      have hx9 : w9.cell? ⟨w.heap.size, 0, none⟩ = some (.slice A n c) := (G9.out.cell (p := ⟨w.heap.size, 0, none⟩) (by simp)).trans (by simp)
      have HV9 : Hid (OwnS w9 w2.heap.size v0 xs) := HV8.out.far g9 (fun k hk e => by injection e with e; have := HL0.out k hk; omega)
      have HW9 : Hid (OwnS w9 (w4.heap.size + 1) v1 xs) := HW8.out.far g9 (fun k hk e => by injection e with e; have := (World.ownsRow.lt HW8.out k hk).1; have := HGL.out; omega)
      clear g9 HO8 HV8 HW8 hx8 hy8
      go_wp2_with fail
      first | (go_region_with (go_at_call 44; refine (HE.out _ _ _ _ _ (show OwnS w9.drew _ _ _ from HW9.out) (show OwnS w9.drew _ _ _ from HV9.out)).mono ?_; rintro e w10 ⟨rfl, g10⟩)) | (refine (HE.out _ _ _ _ _ HW9.out HV9.out).mono ?_; rintro e w10 ⟨rfl, g10⟩)
      all_goals
        have G10 : Hid (Grows (w.alloc (.cells #[.slice A n c] 54)) w10) := by first | exact G9.out.trans g10 | exact G9.out.drew.trans g10
        have hx10 : w10.cell? ⟨w.heap.size, 0, none⟩ = some (.slice A n c) := (G10.out.cell (p := ⟨w.heap.size, 0, none⟩) (by simp)).trans (by simp)
        have HV10 : Hid (OwnS w10 w2.heap.size v0 xs) := by first | exact HV9.out.keep g10 | exact OwnS.keep (w := w9.drew) HV9.out g10
        have HW10 : Hid (OwnS w10 (w4.heap.size + 1) v1 xs) := by first | exact HW9.out.keep g10 | exact OwnS.keep (w := w9.drew) HW9.out g10
        clear g10 hx9 HV9 HW9
        go_wp2_with fail
        refine (HMS.out _ _ _ HW10.out).mono ?_
        rintro e w11 ⟨rfl, hm11, g11⟩
        have G11 : Hid (Grows (w.alloc (.cells #[.slice A n c] 54)) w11) := G10.out.mark g11 (fun k hk => by have := (World.ownsRow.lt HW10.out k hk).1; have := HGL.out; have := HGG.out; omega)
        have hx11 : w11.cell? ⟨w.heap.size, 0, none⟩ = some (.slice A n c) := (G11.out.cell (p := ⟨w.heap.size, 0, none⟩) (by simp)).trans (by simp)
        have HV11 : Hid (OwnS w11 w2.heap.size v0 xs) := HV10.out.far g11 (fun k hk e => by have := HL0.out k hk; have := (World.ownsRow.lt HW10.out k e).1; have := HGL.out; omega)
        have HM11 := Lib.hid hm11
        clear g11 hm11 hx10 HV10 HW10
        go_wp2_with fail
        refine (HHS.out _ _ _ HM11.out).mono ?_
        rintro e w12 ⟨rfl, g12⟩
        have G12 : Hid (Grows (w.alloc (.cells #[.slice A n c] 54)) w12) := G11.out.trans g12
        have hx12 : w12.cell? ⟨w.heap.size, 0, none⟩ = some (.slice A n c) := (G12.out.cell (p := ⟨w.heap.size, 0, none⟩) (by simp)).trans (by simp)
        have HV12 := Lib.hid (HV11.out.keep g12)
        have HM12 := Lib.hid (HM11.out.keep g12)
        clear g12 hx11 HV11 HM11
        go_wp2_with fail
        refine (HT.out _ (((Grows.refl _).alloc _).trans G12.out)).mono ?_
        rintro e w13 ⟨E, rfl, hE, g13⟩
        have G13 : Hid (Grows (w.alloc (.cells #[.slice A n c] 54)) w13) := G12.out.trans g13
        have HV13 := Lib.hid (HV12.out.keep g13)
        have HM13 := Lib.hid (HM12.out.keep g13)
        have HE13 := Lib.hid hE
        clear g13 hE hx12 HV12 HM12
        go_wp2_with fail
        refine (HI.out _ _ _ HE13.out).mono ?_
        rintro e w14 ⟨v2, rfl, hv2, g14⟩
        have G14 : Hid (Grows (w.alloc (.cells #[.slice A n c] 54)) w14) := G13.out.trans g14
        have HV14 := Lib.hid (HV13.out.keep g14)
        have HM14 := Lib.hid (HM13.out.keep g14)
        have HW14 := Lib.hid hv2
        clear g14 hv2 HV13 HM13 HE13
        go_wp2_with fail
        refine (HE.out _ _ _ _ _ HW14.out HV14.out).mono ?_
        rintro e w15 ⟨rfl, g15⟩
        have G15 : Hid (Grows (w.alloc (.cells #[.slice A n c] 54)) w15) := G14.out.trans g15
        have HM15 := Lib.hid (HM14.out.keep g15)
        clear g15 HV14 HM14 HW14
        go_wp2_with fail
        refine (HHS.out _ _ _ HM15.out).mono ?_
        rintro e w16 ⟨rfl, g16⟩
        go_wp2
        go_ret
        exact ⟨rfl, ((((Grows.refl _).alloc _).trans G15.out).trans g16).below⟩
  · rw [less_no (by omega)] at HZ
    clear hA hr hw hn
    go_enter Try.func10, Try.ntmps10
    go_wp2_with fail
    refine (HZ.out _ ((Grows.refl _).alloc _)).mono ?_
    rintro e w1 ⟨rfl, g1⟩
    go_wp2
    go_ret
    exact ⟨rfl, (((Grows.refl _).alloc _).trans g1).below⟩
end Go.Proofs.Yteifcogfnpeahaa
