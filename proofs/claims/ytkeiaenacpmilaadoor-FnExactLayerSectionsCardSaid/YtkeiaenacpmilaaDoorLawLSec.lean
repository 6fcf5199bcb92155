/-
  The law of LayerSections: whatever its arguments, it returns true. Conditions: parts no longer than a text may be.
-/
import Derived.Test.YtkeiaenacpmilaaDoorLaySec
import Derived.Test.YtkeiaenacpmilaaDoorLawVL
import Derived.Test.YtkeiaenacpmilaaDoorRegM
namespace Go.Proofs.YtkeiaenacpmilaaDoor
open Go.RowKit

set_option maxRecDepth 100000 in
set_option maxHeartbeats 16000000 in
theorem lawLSec_any (A : Option Addr) (c : Nat) (ls : List Ent) (w : World) (hn : ls.length ≤ maxLen) (hr : ∀ i (h : i < ls.length), ls[i].inReach) (hA : EntsAt w A ls) :
    Calls Tryd.prog 10 #[.agg #[.slice A ls.length c]] w fun e w' => e = .returned (.bool true) ∧ Below w.heap.size w w' := by
  have HZ := Lib.hid (fun w1 (g : Grows w w1) => szLayer_any A c ls (1048576) w1 (by omega) (by omega) hn hr (hA.keep g))
  by_cases hw : (wents ls : Int) ≤ 1048576
  · rw [less_of hw] at HZ
    have f0 := efits_of (ls := ls) (m := 1048576) (by omega) (by omega)
    have HF := Lib.hid (fun (v : Value) (b : Nat) (w1 : World) (h : OwnE w1 b v ls) => h.formC)
    have HT := Lib.hid (fun w1 (g : Grows w w1) => toLayer_any A c ls w1 f0.1 (hA.keep g))
    have HEL := Lib.hid (fun (v u : Value) (b1 b2 : Nat) (w1 : World) (h : OwnE w1 b1 v ls) (h2 : OwnE w1 b2 u ls) => eqLayer_own v u b1 b2 ls w1 f0.1 h h2)
    have HM := Lib.hid (fun (v : Value) (b : Nat) (w1 : World) (h : OwnE w1 b v ls) => markLayer_own v b ls.length 1 (ecells ls) w1 f0.1 (by omega) h.row)
    have HV := Lib.hid (fun (w1 : World) (B : Option Addr) (d : Nat) (hd : ls.length ≤ d) (h : EntsAt w1 B ls) => specLSec_any B d ls w1 hd f0 h)
    have HI := Lib.hid (fun (w1 : World) (B : Option Addr) (d : Nat) (hd : ls.length ≤ d) (h : EntsAt w1 B ls) => implLSec_any B d ls w1 f0 h)
    have hxl : (secL ls).length ≤ 1048576 := Nat.le_trans (secL_le ls) f0.1
    obtain ⟨m, hm⟩ : ∃ i, (1048576 : Int) - (wents ls : Int) = i := ⟨_, rfl⟩
    rw [hm] at HZ
    have hm0 : 0 ≤ m := by omega
    have hn6 := f0.1
    clear hm hw f0 hr hA hn
    obtain ⟨n, hnn⟩ : ∃ n, ls.length = n := ⟨_, rfl⟩
    unfold ResE at HT
    unfold StrsRet at HV HI
    rw [hnn] at HZ HT HV HI HF HM hn6 ⊢
    clear hnn
    obtain ⟨xs, hxs⟩ : ∃ xs, secL ls = xs := ⟨_, rfl⟩
    rw [hxs] at HV HI hxl
    clear hxs
    have HE := Lib.hid (fun (v u : Value) (b1 b2 : Nat) (w1 : World) (h : OwnS w1 b1 v xs) (h2 : OwnS w1 b2 u xs) => eqStringS_any v u b1 b2 xs w1 hxl h h2)
    have HMS := Lib.hid (fun (v : Value) (b : Nat) (w1 : World) (h : OwnS w1 b v xs) => markStringS_any v b xs 1 w1 hxl (by omega) h)
    have HHS := Lib.hid (fun (v : Value) (b : Nat) (w1 : World) (h : OwnS w1 b v (marks 1 xs.length)) => heldStringS_any v b xs.length 1 w1 hxl (by omega) h)
    obtain ⟨q, hq⟩ : ∃ q, xs.length = q := ⟨_, rfl⟩
    rw [hq] at HMS HHS hxl
    clear hq
    have e1 : ((1 + n * 4 : Nat) : Int) = 1 + (n : Int) * 4 := by omega
    have e2 : ((1 + q : Nat) : Int) = 1 + (q : Int) := by omega
    rw [e1] at HM
    rw [e2] at HMS HHS
    clear e1 e2
    have e3 : ((1 : Nat) : Int) = 1 := rfl
    rw [e3] at HM HMS HHS
    clear e3
    go_enter Tryd.func10, Tryd.ntmps10
    have HBB : Hid (Grows w (w.alloc (.cells #[.slice A n c] 26))) := (Grows.refl _).alloc _
    have HB0 : Hid (Box (w.alloc (.cells #[.slice A n c] 26)) (w.heap.size) (.slice A n c) 26) := Box.new w (.slice A n c) 26
    go_wp2_with fail
    refine (HZ.out _ HBB.out).mono ?_
    rintro e w1 ⟨rfl, g1⟩
    have GB_1 : Hid (Grows (w.alloc (.cells #[.slice A n c] 26)) w1) := g1
    clear g1
    have cA := (HB0.out.keep GB_1.out).cell
    have lA := (HB0.out.keep GB_1.out).lt
    go_wp2_with fail
    refine (HT.out _ (by first | exact (HBB.out.trans GB_1.out) | exact Grows.alloc (HBB.out.trans GB_1.out) _ | exact Grows.drew (HBB.out.trans GB_1.out))).mono ?_
    rintro e w2 ⟨b2, rfl, hb2, g2⟩
    clear cA lA
    have GB_2 : Hid (Grows (w.alloc (.cells #[.slice A n c] 26)) w2) := GB_1.out.trans (by first | exact g2 | exact ((Grows.refl _).alloc _).trans g2 | exact ((Grows.refl _).drew).trans g2)
    clear g2
    obtain ⟨B, d, hbe, hd, hB9⟩ := HF.out _ _ _ hb2
    subst hbe
    clear hb2
    go_wp2_with fail
    refine (HV.out _ _ _ hd hB9).mono ?_
    rintro e w3 ⟨v0, rfl, hv0, g3⟩
    have GB_3 : Hid (Grows (w.alloc (.cells #[.slice A n c] 26)) w3) := GB_2.out.trans (by first | exact g3 | exact ((Grows.refl _).alloc _).trans g3 | exact ((Grows.refl _).drew).trans g3)
    have V_3 := Lib.hid hv0
    have NV : Hid (∀ k, v0.ownBlock = some k → k < w3.heap.size) := fun k hk => (World.ownsRow.lt hv0 k hk).2
    clear g3 hv0 hB9 hd
    have cA := (HB0.out.keep GB_3.out).cell
    have lA := (HB0.out.keep GB_3.out).lt
    go_wp2_with fail
    refine (HT.out _ (by first | exact (HBB.out.trans GB_3.out) | exact Grows.alloc (HBB.out.trans GB_3.out) _ | exact Grows.drew (HBB.out.trans GB_3.out))).mono ?_
    rintro e w4 ⟨b4, rfl, hb4, g4⟩
    clear cA lA
    have GB_4 : Hid (Grows (w.alloc (.cells #[.slice A n c] 26)) w4) := GB_3.out.trans (by first | exact g4 | exact ((Grows.refl _).alloc _).trans g4 | exact ((Grows.refl _).drew).trans g4)
    have V_4 := Lib.hid (V_3.out.keep (by first | exact g4 | exact ((Grows.refl _).alloc _).trans g4 | exact ((Grows.refl _).drew).trans g4))
    clear V_3
    have HN34 := g4.size
    clear g4
    obtain ⟨X, z, hbe, hd, hB9⟩ := HF.out _ _ _ hb4
    subst hbe
    have O_4 := Lib.hid hb4
    have NO : Hid (∀ k, (Value.slice X n z).ownBlock = some k → w3.heap.size ≤ k ∧ k < w4.heap.size) := fun k hk => O_4.out.lt k hk
    have H4 := Lib.hid hB9
    have NN : Hid (w3.heap.size ≤ w4.heap.size) := HN34
    clear hb4 hB9 HN34
    go_wp2_with fail
    refine (HI.out _ _ _ hd (H4.out.keep ((Grows.refl _).alloc _))).mono ?_
    rintro e w5 ⟨v1, rfl, hv1, g5⟩
    have X_5 : Hid (Box w5 w4.heap.size (.slice X n z) 31) := (Box.new w4 _ _).keep g5
    have GB_5 : Hid (Grows (w.alloc (.cells #[.slice A n c] 26)) w5) := GB_4.out.trans (by first | exact g5 | exact ((Grows.refl _).alloc _).trans g5 | exact ((Grows.refl _).drew).trans g5)
    have V_5 := Lib.hid (V_4.out.keep (by first | exact g5 | exact ((Grows.refl _).alloc _).trans g5 | exact ((Grows.refl _).drew).trans g5))
    have O_5 := Lib.hid (O_4.out.keep (by first | exact g5 | exact ((Grows.refl _).alloc _).trans g5 | exact ((Grows.refl _).drew).trans g5))
    clear V_4 O_4
    have U_5 : Hid (OwnS w5 (w4.heap.size + 1) v1 xs) := by have h := hv1; simp only [World.size_alloc] at h; exact h
    have NU : Hid (∀ k, v1.ownBlock = some k → w4.heap.size + 1 ≤ k) := fun k hk => (World.ownsRow.lt U_5.out k hk).1
    clear g5 hv1 H4 hd
    have cX := X_5.out.cell
    have lX := X_5.out.lt
    have cA := (HB0.out.keep GB_5.out).cell
    have lA := (HB0.out.keep GB_5.out).lt
    go_wp2_with fail
    refine (HE.out _ _ _ _ _ U_5.out V_5.out).mono ?_
    rintro e w6 ⟨rfl, g6⟩
    clear cX lX
    clear cA lA
    have GB_6 : Hid (Grows (w.alloc (.cells #[.slice A n c] 26)) w6) := GB_5.out.trans (by first | exact g6 | exact ((Grows.refl _).alloc _).trans g6 | exact ((Grows.refl _).drew).trans g6)
    have V_6 := Lib.hid (V_5.out.keep (by first | exact g6 | exact ((Grows.refl _).alloc _).trans g6 | exact ((Grows.refl _).drew).trans g6))
    have O_6 := Lib.hid (O_5.out.keep (by first | exact g6 | exact ((Grows.refl _).alloc _).trans g6 | exact ((Grows.refl _).drew).trans g6))
    have X_6 := Lib.hid (X_5.out.keep (by first | exact g6 | exact ((Grows.refl _).alloc _).trans g6 | exact ((Grows.refl _).drew).trans g6))
    have U_6 := Lib.hid (U_5.out.keep (by first | exact g6 | exact ((Grows.refl _).alloc _).trans g6 | exact ((Grows.refl _).drew).trans g6))
    clear V_5 O_5 X_5 U_5
    clear g6
    have cX := X_6.out.cell
    have lX := X_6.out.lt
    have cA := (HB0.out.keep GB_6.out).cell
    have lA := (HB0.out.keep GB_6.out).lt
    go_wp2_with fail
    refine wp_region_M 3 (CellsAre [(⟨w4.heap.size, 0, none⟩, (.slice X n z)), (⟨w.heap.size, 0, none⟩, (.slice A n c))]) (by kernel_rfl) (by kernel_rfl) ⟨cX, cA, trivial⟩ (fun hB hS => ?_)
    refine wpAnyM_take (i := 0) (v := ?vt1x0) hB rfl (by kernel_rfl) (fun _ _ _ h => h) (by rfl) ?yt1x0 hS ?nt1x0
    case yt1x0 => (intro w9 hSw; obtain ⟨s1, s2, _⟩ := hSw; go_simp; try with_reducible rfl)
    refine wpAnyM_take (i := 1) (v := ?vt1x1) hB rfl (by kernel_rfl) (fun _ _ _ h => h) (by rfl) ?yt1x1 hS ?nt1x1
    case yt1x1 => (intro w9 hSw; obtain ⟨s1, s2, _⟩ := hSw; go_simp; try with_reducible rfl)
    refine wpAnyM_one (i := 2) rfl (by kernel_rfl) rfl ?_
    clear cX lX
    clear cA lA
    have HS := Lib.hid hS
    clear hS
    go_wp2_with fail
    refine (HT.out _ (by first | exact (HBB.out.trans GB_6.out) | exact Grows.alloc (HBB.out.trans GB_6.out) _ | exact Grows.drew (HBB.out.trans GB_6.out))).mono ?_
    rintro e w7 ⟨b7, rfl, hb7, g7⟩
    have HS' := Lib.hid (CellsAre.keep HS.out g7)
    have GB_7 : Hid (Grows (w.alloc (.cells #[.slice A n c] 26)) w7) := GB_6.out.trans (by first | exact g7 | exact ((Grows.refl _).alloc _).trans g7 | exact ((Grows.refl _).drew).trans g7)
    have V_7 := Lib.hid (V_6.out.keep (by first | exact g7 | exact ((Grows.refl _).alloc _).trans g7 | exact ((Grows.refl _).drew).trans g7))
    have O_7 := Lib.hid (O_6.out.keep (by first | exact g7 | exact ((Grows.refl _).alloc _).trans g7 | exact ((Grows.refl _).drew).trans g7))
    have X_7 := Lib.hid (X_6.out.keep (by first | exact g7 | exact ((Grows.refl _).alloc _).trans g7 | exact ((Grows.refl _).drew).trans g7))
    have U_7 := Lib.hid (U_6.out.keep (by first | exact g7 | exact ((Grows.refl _).alloc _).trans g7 | exact ((Grows.refl _).drew).trans g7))
    clear V_6 O_6 X_6 U_6
    have D := Lib.hid hb7
    obtain ⟨Bx, dx, hbe, hdx, hBx⟩ := HF.out _ _ _ hb7
    subst hbe
    clear hb7 g7 hdx hBx HS
    go_wp2_with fail
    refine ⟨HS'.out, ?_⟩
    refine wpAnyM_tail (by kernel_rfl) ?_
    clear HS' hB
    go_wp2_with fail
    refine (HEL.out _ _ _ _ _ O_7.out D.out).mono ?_
    rintro e w8 ⟨rfl, g8⟩
    have GB_8 : Hid (Grows (w.alloc (.cells #[.slice A n c] 26)) w8) := GB_7.out.trans (by first | exact g8 | exact ((Grows.refl _).alloc _).trans g8 | exact ((Grows.refl _).drew).trans g8)
    have V_8 := Lib.hid (V_7.out.keep (by first | exact g8 | exact ((Grows.refl _).alloc _).trans g8 | exact ((Grows.refl _).drew).trans g8))
    have O_8 := Lib.hid (O_7.out.keep (by first | exact g8 | exact ((Grows.refl _).alloc _).trans g8 | exact ((Grows.refl _).drew).trans g8))
    have X_8 := Lib.hid (X_7.out.keep (by first | exact g8 | exact ((Grows.refl _).alloc _).trans g8 | exact ((Grows.refl _).drew).trans g8))
    have U_8 := Lib.hid (U_7.out.keep (by first | exact g8 | exact ((Grows.refl _).alloc _).trans g8 | exact ((Grows.refl _).drew).trans g8))
    clear V_7 O_7 X_7 U_7
    clear g8 D
    have cX := X_8.out.cell
    have lX := X_8.out.lt
    go_wp2_with fail
    refine (HM.out _ _ _ O_8.out).mono ?_
    rintro e w9 ⟨rfl, gg⟩
    have g9 : w8.grownBy w9 (Value.slice X n z).ownBlock := gg.2
    clear cX lX
    have GB_9 : Hid (Grows (w.alloc (.cells #[.slice A n c] 26)) w9) := GB_8.out.mark g9 (fun k hk => by have h1 := (NO.out k hk).1; have h2 := GB_3.out.size; omega)
    have V_9 : Hid (OwnS w9 w2.heap.size v0 xs) := V_8.out.far g9 (fun k hk e => by have h1 := (NO.out k e).1; have h2 := NV.out k hk; omega)
    have U_9 : Hid (OwnS w9 (w4.heap.size + 1) v1 xs) := U_8.out.far g9 (fun k hk e => by have h1 := (NO.out k e).2; have h2 := NU.out k hk; omega)
    clear gg g9 V_8 U_8 O_8 X_8
    go_wp2_with fail
    refine (HE.out _ _ _ _ _ U_9.out V_9.out).mono ?_
    rintro e w10 ⟨rfl, g10⟩
    have GB_10 : Hid (Grows (w.alloc (.cells #[.slice A n c] 26)) w10) := GB_9.out.trans (by first | exact g10 | exact ((Grows.refl _).alloc _).trans g10 | exact ((Grows.refl _).drew).trans g10)
    have V_10 := Lib.hid (V_9.out.keep (by first | exact g10 | exact ((Grows.refl _).alloc _).trans g10 | exact ((Grows.refl _).drew).trans g10))
    have U_10 := Lib.hid (U_9.out.keep (by first | exact g10 | exact ((Grows.refl _).alloc _).trans g10 | exact ((Grows.refl _).drew).trans g10))
    clear V_9 U_9
    clear g10
    go_wp2_with fail
    refine (HMS.out _ _ _ U_10.out).mono ?_
    rintro e w11 ⟨rfl, hm11, g11⟩
    have GB_11 : Hid (Grows (w.alloc (.cells #[.slice A n c] 26)) w11) := GB_10.out.mark g11 (fun k hk => by have h1 := NU.out k hk; have h2 := GB_4.out.size; omega)
    have V_11 : Hid (OwnS w11 w2.heap.size v0 xs) := V_10.out.far g11 (fun k hk e => by have h1 := NU.out k e; have h2 := NV.out k hk; have h3 := NN.out; omega)
    have M_11 := Lib.hid hm11
    clear g11 hm11 V_10 U_10
    go_wp2_with fail
    refine (HHS.out _ _ _ M_11.out).mono ?_
    rintro e w12 ⟨rfl, g12⟩
    have GB_12 : Hid (Grows (w.alloc (.cells #[.slice A n c] 26)) w12) := GB_11.out.trans (by first | exact g12 | exact ((Grows.refl _).alloc _).trans g12 | exact ((Grows.refl _).drew).trans g12)
    have V_12 := Lib.hid (V_11.out.keep (by first | exact g12 | exact ((Grows.refl _).alloc _).trans g12 | exact ((Grows.refl _).drew).trans g12))
    have M_12 := Lib.hid (M_11.out.keep (by first | exact g12 | exact ((Grows.refl _).alloc _).trans g12 | exact ((Grows.refl _).drew).trans g12))
    clear V_11 M_11
    clear g12
    have cA := (HB0.out.keep GB_12.out).cell
    have lA := (HB0.out.keep GB_12.out).lt
    go_wp2_with fail
    refine (HT.out _ (by first | exact (HBB.out.trans GB_12.out) | exact Grows.alloc (HBB.out.trans GB_12.out) _ | exact Grows.drew (HBB.out.trans GB_12.out))).mono ?_
    rintro e w13 ⟨b13, rfl, hb13, g13⟩
    clear cA lA
    have GB_13 : Hid (Grows (w.alloc (.cells #[.slice A n c] 26)) w13) := GB_12.out.trans (by first | exact g13 | exact ((Grows.refl _).alloc _).trans g13 | exact ((Grows.refl _).drew).trans g13)
    have V_13 := Lib.hid (V_12.out.keep (by first | exact g13 | exact ((Grows.refl _).alloc _).trans g13 | exact ((Grows.refl _).drew).trans g13))
    have M_13 := Lib.hid (M_12.out.keep (by first | exact g13 | exact ((Grows.refl _).alloc _).trans g13 | exact ((Grows.refl _).drew).trans g13))
    clear V_12 M_12
    clear g13
    obtain ⟨E, y, hbe, hd, hB9⟩ := HF.out _ _ _ hb13
    subst hbe
    clear hb13
    go_wp2_with fail
    refine (HI.out _ _ _ hd hB9).mono ?_
    rintro e w14 ⟨v2, rfl, hv2, g14⟩
    have GB_14 : Hid (Grows (w.alloc (.cells #[.slice A n c] 26)) w14) := GB_13.out.trans (by first | exact g14 | exact ((Grows.refl _).alloc _).trans g14 | exact ((Grows.refl _).drew).trans g14)
    have V_14 := Lib.hid (V_13.out.keep (by first | exact g14 | exact ((Grows.refl _).alloc _).trans g14 | exact ((Grows.refl _).drew).trans g14))
    have M_14 := Lib.hid (M_13.out.keep (by first | exact g14 | exact ((Grows.refl _).alloc _).trans g14 | exact ((Grows.refl _).drew).trans g14))
    clear V_13 M_13
    have Y_14 := Lib.hid hv2
    clear g14 hv2 hB9 hd
    go_wp2_with fail
    refine (HE.out _ _ _ _ _ Y_14.out V_14.out).mono ?_
    rintro e w15 ⟨rfl, g15⟩
    have GB_15 : Hid (Grows (w.alloc (.cells #[.slice A n c] 26)) w15) := GB_14.out.trans (by first | exact g15 | exact ((Grows.refl _).alloc _).trans g15 | exact ((Grows.refl _).drew).trans g15)
    have V_15 := Lib.hid (V_14.out.keep (by first | exact g15 | exact ((Grows.refl _).alloc _).trans g15 | exact ((Grows.refl _).drew).trans g15))
    have M_15 := Lib.hid (M_14.out.keep (by first | exact g15 | exact ((Grows.refl _).alloc _).trans g15 | exact ((Grows.refl _).drew).trans g15))
    clear V_14 M_14
    clear g15 Y_14
    go_wp2_with fail
    refine (HHS.out _ _ _ M_15.out).mono ?_
    rintro e w16 ⟨rfl, g16⟩
    have GB_16 : Hid (Grows (w.alloc (.cells #[.slice A n c] 26)) w16) := GB_15.out.trans (by first | exact g16 | exact ((Grows.refl _).alloc _).trans g16 | exact ((Grows.refl _).drew).trans g16)
    have V_16 := Lib.hid (V_15.out.keep (by first | exact g16 | exact ((Grows.refl _).alloc _).trans g16 | exact ((Grows.refl _).drew).trans g16))
    have M_16 := Lib.hid (M_15.out.keep (by first | exact g16 | exact ((Grows.refl _).alloc _).trans g16 | exact ((Grows.refl _).drew).trans g16))
    clear V_15 M_15
    go_wp2
    go_ret
    exact ⟨rfl, (HBB.out.trans GB_16.out).below⟩
  · rw [less_no (by omega)] at HZ
    clear hw hr hA hn
    go_enter Tryd.func10, Tryd.ntmps10
    go_wp2_with fail
    refine (HZ.out _ ((Grows.refl _).alloc _)).mono ?_
    rintro e w1 ⟨rfl, g1⟩
    go_wp2
    go_ret
    exact ⟨rfl, (((Grows.refl _).alloc _).trans g1).below⟩
end Go.Proofs.YtkeiaenacpmilaaDoor
