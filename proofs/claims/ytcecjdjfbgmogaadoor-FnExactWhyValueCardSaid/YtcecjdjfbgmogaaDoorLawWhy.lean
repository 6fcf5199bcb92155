/-
  The law of WhyValue, its own body walked. Conditions: sizes that an int holds.
-/
import Derived.Test.YtcecjdjfbgmogaaDoorStkM
import Derived.Test.YtcecjdjfbgmogaaDoorStkH
import Derived.Test.YtcecjdjfbgmogaaDoorWhy
namespace Go.Proofs.YtcecjdjfbgmogaaDoor
open Go.RowKit

theorem Tow.blocksW {w : World} {g : Nat} {sl : List (List Ent)} {vs : List Value} (h : Tow w g sl vs) : ∀ v ∈ vs, ∀ c, v.ownBlock = some c → g + 1 ≤ c ∧ c < w.heap.size := fun v hv c hc => by
  obtain ⟨i, hi, e⟩ := List.getElem_of_mem hv
  have h2 := h.2.1
  exact (h.2.2.2.1 i v (by omega) (by rw [List.getElem?_eq_getElem hi, e])).lt c hc
theorem sumW_wents (sl : List (List Ent)) : (sl.map List.length).sum ≤ (sl.map wents).sum := by
  induction sl with
  | nil => exact Nat.le_refl _
  | cons a t ih =>
    rw [List.map_cons, List.map_cons, List.sum_cons, List.sum_cons]
    have h : wents a = a.length + esum a a.length := rfl
    omega
theorem markStackW_any (R : World → Prop) (g c : Nat) (sl : List (List Ent)) (vs : List Value) (w : World) (hw : wstk sl ≤ 1048576) (hT : Tow w g sl vs) (h0 : R w) (hR : ∀ a b v, v ∈ vs → R a → Only v a b → R b) :
    Calls Tryd.prog 24 #[.slice (some ⟨g, 0, none⟩) sl.length c, .int .i64 1] w fun e w' => ∃ m : Nat, e = .returned (.int .i64 (m : Int)) ∧ R w' := by
  have h1 : wstk sl = sl.length + ssum sl sl.length := rfl
  have h2 : ssum sl sl.length = (sl.map wents).sum := by unfold ssum; rw [List.take_length]
  have h3 := sumW_wents sl
  have h := markLayerS_any R g c (sl.map List.length) vs w (by omega) (by rw [List.length_map]; omega) hT.q h0 hR
  rw [List.length_map] at h
  exact h


set_option maxRecDepth 100000 in
set_option maxHeartbeats 8000000 in
theorem lawWhy_any (A : Option Addr) (c : Nat) (sl : List (List Ent)) (s key : ByteArray) (w : World) (hn : sl.length ≤ maxLen) (hr : ∀ i (h : i < sl.length), Reach1 sl[i]) (hA : RawAt w A sl) (hs : s.size ≤ maxLen) (hk : key.size ≤ maxLen) :
    Calls Tryd.prog 5 #[.slice A sl.length c, .string s, .string key] w fun e w' => e = .returned (.bool true) ∧ Below w.heap.size w w' := by
  have HZ := Lib.hid (fun w1 (g : Grows w w1) => szLayerS_any A c sl 1048576 w1 (by omega) (by omega) hn hr (hA.keep g))
  unfold maxLen at hs hk
  by_cases h1 : 1048576 < s.size
  · clear hA hr hn HZ
    go_enter Tryd.func5, Tryd.ntmps5
    go_wp2
    go_ret
    exact ⟨rfl, (Grows.refl _).below⟩
  by_cases h2 : 1048576 < key.size
  · clear hA hr hn HZ
    go_enter Tryd.func5, Tryd.ntmps5
    go_wp2
    go_ret
    exact ⟨rfl, (Grows.refl _).below⟩
  by_cases hw : (wstk sl : Int) ≤ 1048576
  · obtain ⟨hn2, hf⟩ := sfits_of hw (by omega)
    rw [less_of hw] at HZ
    have HT := Lib.hid (fun w1 (g : Grows w w1) => toLayerT_any A c sl w1 hn2 hf (hA.keep g))
    have HV := Lib.hid (fun (g d : Nat) w1 (h : StackAt w1 (some ⟨g, 0, none⟩) sl) => specWhy_any (some ⟨g, 0, none⟩) d sl s key w1 hn2 hf h)
    have HI := Lib.hid (fun (g d : Nat) w1 (h : StackAt w1 (some ⟨g, 0, none⟩) sl) => implWhy_any (some ⟨g, 0, none⟩) d sl s key w1 hn2 hf h (by omega) (by omega))
    have HE := Lib.hid (fun (g g2 d d2 : Nat) w1 (h : StackAt w1 (some ⟨g, 0, none⟩) sl) (k : StackAt w1 (some ⟨g2, 0, none⟩) sl) => eqLayerS_any (some ⟨g, 0, none⟩) (some ⟨g2, 0, none⟩) d d2 sl w1 hn2 hf h k)
    have HMS := Lib.hid (fun (R : World → Prop) (g d : Nat) (vs : List Value) (w1 : World) hT h0 hR => markStackW_any R g d sl vs w1 (by omega) hT h0 hR)
    have h20 := whyL_5 sl s key
    obtain ⟨P, hP⟩ : ∃ P, whyL sl s key = P := ⟨_, rfl⟩
    rw [hP] at h20
    rw [hP] at HV HI
    have HEL := Lib.hid (fun (v u : Value) (b1 b2 : Nat) w1 (h1 : OwnI w1 b1 v P) (h2 : OwnI w1 b2 u P) => eqIntS_any v u b1 b2 P w1 (by omega) h1 h2)
    have HMG := Lib.hid (fun (v : Value) (b : Nat) (w1 : World) (h : OwnI w1 b v P) => markIntS_any v b P 1 w1 (by omega) (by omega) h)
    have HHG := Lib.hid (fun (v : Value) (b : Nat) (w1 : World) (h : OwnI w1 b v (markI 1 P.length)) => heldIntS_any v b P.length 1 w1 (by omega) (by omega) h)
    unfold IntsRet at HV HI
    obtain ⟨q, hq⟩ : ∃ q, (1 + P.length : Nat) = q := ⟨_, rfl⟩
    rw [hq] at HMG HHG
    obtain ⟨Y, hY⟩ : ∃ Y, markI 1 P.length = Y := ⟨_, rfl⟩
    rw [hY] at HMG HHG
    obtain ⟨m, hm⟩ : ∃ m, (1048576 : Int) - (wstk sl : Int) = m := ⟨_, rfl⟩
    rw [hm] at HZ
    have hm0 : 0 ≤ m := by omega
    clear hA hr hw hf hn hm hP hq hY
    obtain ⟨n, hnn⟩ : ∃ n, sl.length = n := ⟨_, rfl⟩
    rw [hnn] at HZ HT HV HI HE HMS ⊢
    clear hnn
    go_enter Tryd.func5, Tryd.ntmps5
    go_wp2_with fail
    refine (HZ.out _ (Grows.refl _)).mono ?_
    rintro e w1 ⟨rfl, g1⟩
    have T1 : Hid (Grows w w1) := g1
    clear g1
    go_wp2_with fail
    refine (HT.out _ T1.out).mono ?_
    rintro e w2 ⟨rfl, ⟨vsZa, tw⟩, gq⟩
    have T2 : Hid (Grows w w2) := T1.out.trans gq
    clear  T1
    clear gq
    have Za_2 := Lib.hid tw
    clear tw
    go_wp2_with fail
    refine (HV.out _ _ _ Za_2.out.stack).mono ?_
    rintro e w3 ⟨u, rfl, hu, gq⟩
    have T3 : Hid (Grows w w3) := T2.out.trans gq
    have Za_3 := Lib.hid (Za_2.out.keep gq)
    clear Za_2 T2
    clear gq
    have L4 : Hid (∀ c, u.ownBlock = some c → c < w3.heap.size) := fun c hc => (World.ownsRow.lt hu c hc).2
    obtain ⟨AO4, cO4, hu', _⟩ := OwnI.form hu
    obtain ⟨nO4, hn'⟩ : ∃ n', P.length = n' := ⟨_, rfl⟩
    rw [hn'] at hu'
    clear hn'
    subst hu'
    have O4_3 := Lib.hid hu
    clear hu
    clear Za_3
    have T4x := Lib.hid T3.out
    go_wp2_with fail
    refine (HT.out _ T3.out).mono ?_
    rintro e w4 ⟨rfl, ⟨vsZb, tw⟩, gq⟩
    have T4 : Hid (Grows w w4) := T3.out.trans gq
    have O4_4 := Lib.hid (O4_3.out.keep gq)
    clear O4_3 T3
    clear gq
    have Zb_4 := Lib.hid tw
    clear tw
    have BZ : Hid (∀ v ∈ vsZb, ∀ c, v.ownBlock = some c → w3.heap.size + 1 ≤ c ∧ c < w4.heap.size) := Zb_4.out.blocksW
    have sz5 : w3.heap.size < w4.heap.size := Zb_4.out.1
    have szw : w.heap.size ≤ w4.heap.size := T4.out.size
    go_wp2_with fail
    refine (HI.out _ _ _ Zb_4.out.stack).mono ?_
    rintro e w5 ⟨u, rfl, hu, gq⟩
    have sz4_5 : w4.heap.size ≤ w5.heap.size := gq.size
    have T5 : Hid (Grows w w5) := T4.out.trans gq
    have O4_5 := Lib.hid (O4_4.out.keep gq)
    have Zb_5 := Lib.hid (Zb_4.out.keep gq)
    clear O4_4 Zb_4 T4
    clear gq
    have L7 : Hid (∀ c, u.ownBlock = some c → w4.heap.size ≤ c ∧ c < w5.heap.size) := World.ownsRow.lt hu
    obtain ⟨AO7, cO7, hu', _⟩ := OwnI.form hu
    obtain ⟨nO7, hn'⟩ : ∃ n', P.length = n' := ⟨_, rfl⟩
    rw [hn'] at hu'
    clear hn'
    subst hu'
    have O7_5 := Lib.hid hu
    clear hu
    go_wp2_with fail
    refine (HEL.out _ _ _ _ _ O7_5.out O4_5.out).mono ?_
    rintro e w6 ⟨rfl, gq⟩
    have T6 : Hid (Grows w w6) := T5.out.trans gq
    have O4_6 := Lib.hid (O4_5.out.keep gq)
    have Zb_6 := Lib.hid (Zb_5.out.keep gq)
    have O7_6 := Lib.hid (O7_5.out.keep gq)
    clear O4_5 Zb_5 O7_5 T5
    clear gq
    go_wp2_with fail
    refine (HT.out _ T6.out).mono ?_
    rintro e w7 ⟨rfl, ⟨vsZc, tw⟩, gq⟩
    have T7 : Hid (Grows w w7) := T6.out.trans gq
    have O4_7 := Lib.hid (O4_6.out.keep gq)
    have Zb_7 := Lib.hid (Zb_6.out.keep gq)
    have O7_7 := Lib.hid (O7_6.out.keep gq)
    clear O4_6 Zb_6 O7_6 T6
    clear gq
    have Zc_7 := Lib.hid tw
    clear tw
    go_wp2_with fail
    refine (HE.out _ _ _ _ _ Zb_7.out.stack Zc_7.out.stack).mono ?_
    rintro e w8 ⟨rfl, gq⟩
    have T8 : Hid (Grows w w8) := T7.out.trans gq
    have O4_8 := Lib.hid (O4_7.out.keep gq)
    have Zb_8 := Lib.hid (Zb_7.out.keep gq)
    have O7_8 := Lib.hid (O7_7.out.keep gq)
    have Zc_8 := Lib.hid (Zc_7.out.keep gq)
    clear O4_7 Zb_7 O7_7 Zc_7 T7
    clear gq
    clear Zc_8
    have HRR : Hid (∀ a b v, v ∈ vsZb → (fun a => Grows w a ∧ OwnI a w2.heap.size (.slice AO4 nO4 cO4) P ∧ OwnI a w4.heap.size (.slice AO7 nO7 cO7) P) a → Only v a b → (fun a => Grows w a ∧ OwnI a w2.heap.size (.slice AO4 nO4 cO4) P ∧ OwnI a w4.heap.size (.slice AO7 nO7 cO7) P) b) := fun a b v hv ⟨r1, r2, r3⟩ ho => by
      have hbz := BZ.out v hv
      refine ⟨r1.mark ho (fun c hc => by have := T4x.out.size; have := hbz c hc; omega), r2.far ho (fun c hc e => by have h1 := L4.out c hc; have h2 := hbz c e; omega), r3.far ho (fun c hc e => by have h1 := (L7.out c hc).1; have h2 := hbz c e; omega)⟩
    go_wp2_with fail
    refine (HMS.out (fun a => Grows w a ∧ OwnI a w2.heap.size (.slice AO4 nO4 cO4) P ∧ OwnI a w4.heap.size (.slice AO7 nO7 cO7) P) _ _ _ _ Zb_8.out ⟨T8.out, O4_8.out, O7_8.out⟩ HRR.out).mono ?_
    rintro e w9 ⟨m1, rfl, r1, r2, r3⟩
    have T9 := Lib.hid r1
    have O4_9 := Lib.hid r2
    have O7_9 := Lib.hid r3
    clear r1 r2 r3 HRR Zb_8 O4_8 O7_8 T8
    have hm1 : 0 ≤ (m1 : Int) := by omega
    go_wp2_with fail
    refine (HEL.out _ _ _ _ _ O7_9.out O4_9.out).mono ?_
    rintro e w10 ⟨rfl, gq⟩
    have T10 : Hid (Grows w w10) := T9.out.trans gq
    have O4_10 := Lib.hid (O4_9.out.keep gq)
    have O7_10 := Lib.hid (O7_9.out.keep gq)
    clear O4_9 O7_9 T9
    clear gq
    go_wp2_with fail
    refine (HMG.out _ _ _ O7_10.out).mono ?_
    rintro e w11 ⟨rfl, hq7, ho⟩
    have T11 : Hid (Grows w w11) := T10.out.mark ho (fun c hc => by have := (L7.out c hc).1; omega)
    have Q7_11 := Lib.hid hq7
    have O4_11 := Lib.hid (O4_10.out.far ho (fun c hc e => by have h1 := L4.out c hc; have h2 := (L7.out c e).1; omega))
    clear hq7 ho O4_10 O7_10 T10
    have hq0 : 0 ≤ (q : Int) := by omega
    go_wp2_with fail
    refine (HHG.out _ _ _ Q7_11.out).mono ?_
    rintro e w12 ⟨rfl, gq⟩
    have T12 : Hid (Grows w w12) := T11.out.trans gq
    have O4_12 := Lib.hid (O4_11.out.keep gq)
    have Q7_12 := Lib.hid (Q7_11.out.keep gq)
    clear O4_11 Q7_11 T11
    clear gq
    go_wp2_with fail
    refine (HT.out _ T12.out).mono ?_
    rintro e w13 ⟨rfl, ⟨vsZd, tw⟩, gq⟩
    have T13 : Hid (Grows w w13) := T12.out.trans gq
    have O4_13 := Lib.hid (O4_12.out.keep gq)
    have Q7_13 := Lib.hid (Q7_12.out.keep gq)
    clear O4_12 Q7_12 T12
    clear gq
    have Zd_13 := Lib.hid tw
    clear tw
    go_wp2_with fail
    refine (HI.out _ _ _ Zd_13.out.stack).mono ?_
    rintro e w14 ⟨u, rfl, hu, gq⟩
    have T14 : Hid (Grows w w14) := T13.out.trans gq
    have O4_14 := Lib.hid (O4_13.out.keep gq)
    have Q7_14 := Lib.hid (Q7_13.out.keep gq)
    have Zd_14 := Lib.hid (Zd_13.out.keep gq)
    clear O4_13 Q7_13 Zd_13 T13
    clear gq
    obtain ⟨AOx, cOx, hu', _⟩ := OwnI.form hu
    obtain ⟨nOx, hn'⟩ : ∃ n', P.length = n' := ⟨_, rfl⟩
    rw [hn'] at hu'
    clear hn'
    subst hu'
    have Ox_14 := Lib.hid hu
    clear hu
    clear Zd_14
    go_wp2_with fail
    refine (HEL.out _ _ _ _ _ Ox_14.out O4_14.out).mono ?_
    rintro e w15 ⟨rfl, gq⟩
    have T15 : Hid (Grows w w15) := T14.out.trans gq
    have O4_15 := Lib.hid (O4_14.out.keep gq)
    have Q7_15 := Lib.hid (Q7_14.out.keep gq)
    have Ox_15 := Lib.hid (Ox_14.out.keep gq)
    clear O4_14 Q7_14 Ox_14 T14
    clear gq
    go_wp2_with fail
    refine (HHG.out _ _ _ Q7_15.out).mono ?_
    rintro e w16 ⟨rfl, gq⟩
    have T16 : Hid (Grows w w16) := T15.out.trans gq
    have O4_16 := Lib.hid (O4_15.out.keep gq)
    have Q7_16 := Lib.hid (Q7_15.out.keep gq)
    have Ox_16 := Lib.hid (Ox_15.out.keep gq)
    clear O4_15 Q7_15 Ox_15 T15
    clear gq
    go_wp2
    go_ret
    exact ⟨rfl, T16.out.below⟩
  · rw [less_no (by omega)] at HZ
    clear hA hr hw hn
    go_enter Tryd.func5, Tryd.ntmps5
    go_wp2_with fail
    refine (HZ.out _ (Grows.refl _)).mono ?_
    rintro e w1 ⟨rfl, g1⟩
    go_wp2
    go_ret
    exact ⟨rfl, g1.below⟩
end Go.Proofs.YtcecjdjfbgmogaaDoor
