/-
  The law of Flatten, its own body walked. Conditions: sizes that an int holds.
-/
import Derived.Test.YtnkggfcibbchdaaDoorStkM
import Derived.Test.YtnkggfcibbchdaaDoorFltI
import Derived.Test.YtnkggfcibbchdaaDoorFltS
namespace Go.Proofs.YtnkggfcibbchdaaDoor
open Go.RowKit

theorem Tow.blocks {w : World} {g : Nat} {sl : List (List Ent)} {vs : List Value} (h : Tow w g sl vs) : ∀ v ∈ vs, ∀ c, v.ownBlock = some c → g + 1 ≤ c ∧ c < w.heap.size := fun v hv c hc => by
  obtain ⟨i, hi, e⟩ := List.getElem_of_mem hv
  have h2 := h.2.1
  exact (h.2.2.2.1 i v (by omega) (by rw [List.getElem?_eq_getElem hi, e])).lt c hc
theorem sum_wents (sl : List (List Ent)) : (sl.map List.length).sum ≤ (sl.map wents).sum := by
  induction sl with
  | nil => exact Nat.le_refl _
  | cons a t ih =>
    rw [List.map_cons, List.map_cons, List.sum_cons, List.sum_cons]
    have h : wents a = a.length + esum a a.length := rfl
    omega
theorem markStack_any (R : World → Prop) (g c : Nat) (sl : List (List Ent)) (vs : List Value) (w : World) (hw : wstk sl ≤ 1048576) (hT : Tow w g sl vs) (h0 : R w) (hR : ∀ a b v, v ∈ vs → R a → Only v a b → R b) :
    Calls Tryd.prog 30 #[.slice (some ⟨g, 0, none⟩) sl.length c, .int .i64 1] w fun e w' => ∃ m : Nat, e = .returned (.int .i64 (m : Int)) ∧ R w' := by
  have h1 : wstk sl = sl.length + ssum sl sl.length := rfl
  have h2 : ssum sl sl.length = (sl.map wents).sum := by unfold ssum; rw [List.take_length]
  have h3 := sum_wents sl
  have h := markLayerS_any R g c (sl.map List.length) vs w (by omega) (by rw [List.length_map]; omega) hT.q h0 hR
  rw [List.length_map] at h
  exact h

set_option maxRecDepth 100000 in
set_option maxHeartbeats 8000000 in
theorem lawFlt_any (A : Option Addr) (c : Nat) (sl : List (List Ent)) (w : World) (hn : sl.length ≤ maxLen) (hr : ∀ i (h : i < sl.length), Reach1 sl[i]) (hA : RawAt w A sl) :
    Calls Tryd.prog 7 #[.slice A sl.length c] w fun e w' => e = .returned (.bool true) ∧ Below w.heap.size w w' := by
  have HZ := Lib.hid (fun w1 (g : Grows w w1) => szLayerS_any A c sl 1048576 w1 (by omega) (by omega) hn hr (hA.keep g))
  by_cases hw : (wstk sl : Int) ≤ 1048576
  · obtain ⟨hn2, hf⟩ := sfits_of hw (by omega)
    rw [less_of hw] at HZ
    have HT := Lib.hid (fun w1 (g : Grows w w1) => toLayerT_any A c sl w1 hn2 hf (hA.keep g))
    have HV := Lib.hid (fun (g d : Nat) w1 (h : StackAt w1 (some ⟨g, 0, none⟩) sl) => specFlatten_any (some ⟨g, 0, none⟩) d sl w1 hn2 hf h)
    have HI := Lib.hid (fun (g d : Nat) w1 (h : StackAt w1 (some ⟨g, 0, none⟩) sl) => implFlatten_any (some ⟨g, 0, none⟩) d sl w1 hn2 hf h)
    have HE := Lib.hid (fun (g g2 d d2 : Nat) w1 (h : StackAt w1 (some ⟨g, 0, none⟩) sl) (k : StackAt w1 (some ⟨g2, 0, none⟩) sl) => eqLayerS_any (some ⟨g, 0, none⟩) (some ⟨g2, 0, none⟩) d d2 sl w1 hn2 hf h k)
    have HMS := Lib.hid (fun (R : World → Prop) (g d : Nat) (vs : List Value) (w1 : World) hT h0 hR => markStack_any R g d sl vs w1 (by omega) hT h0 hR)
    have h20 := flatL_20 sl
    obtain ⟨P, hP⟩ : ∃ P, flatL sl = P := ⟨_, rfl⟩
    obtain ⟨β, hβ⟩ : ∃ β, flatB sl = β := ⟨_, rfl⟩
    rw [hP] at h20
    rw [hP, hβ] at HV HI
    have HEL := Lib.hid (fun (v u : Value) (b1 b2 : Nat) w1 (h1 : OwnE w1 b1 v P) (h2 : OwnE w1 b2 u P) => eqLayer_own v u b1 b2 P w1 (by omega) h1 h2)
    have HMG := Lib.hid (fun (v : Value) (b : Nat) (w1 : World) (h : OwnE w1 b v P) => markLayer_own v b P.length 1 _ w1 (by omega) (by omega) h.row)
    have HHG := Lib.hid (fun (v : Value) (b : Nat) (w1 : World) (h : OwnQ w1 b v P.length (qcells 1 P.length)) => heldLayer_own v b P.length 1 w1 (by omega) (by omega) h)
    unfold ResEB at HV HI
    obtain ⟨q, hq⟩ : ∃ q, (1 + P.length * 4 : Nat) = q := ⟨_, rfl⟩
    rw [hq] at HMG HHG
    obtain ⟨m, hm⟩ : ∃ m, (1048576 : Int) - (wstk sl : Int) = m := ⟨_, rfl⟩
    rw [hm] at HZ
    have hm0 : 0 ≤ m := by omega
    clear hA hr hw hf hn hm hP hβ hq
    obtain ⟨n, hnn⟩ : ∃ n, sl.length = n := ⟨_, rfl⟩
    rw [hnn] at HZ HT HV HI HE HMS ⊢
    clear hnn
    go_enter Tryd.func7, Tryd.ntmps7
    go_wp2_with fail
    refine (HZ.out _ (Grows.refl _)).mono ?_
    rintro e w1 ⟨rfl, g1⟩
    have T1 : Hid (Grows w w1) := g1
    clear g1
    go_wp2_with fail
    refine (HT.out _ T1.out).mono ?_
    rintro e w2 ⟨rfl, ⟨vsZa, tw⟩, gq⟩
    have T2 : Hid (Grows w w2) := T1.out.trans gq
    clear  T1
    clear gq
    have Za_2 := Lib.hid tw
    clear tw
    go_wp2_with fail
    refine (HV.out _ _ _ Za_2.out.stack).mono ?_
    rintro e w3 ⟨u, rfl, hu, gq⟩
    have T3 : Hid (Grows w w3) := T2.out.trans gq
    have Za_3 := Lib.hid (Za_2.out.keep gq)
    clear Za_2 T2
    clear gq
    have L4 : Hid (∀ c, u.ownBlock = some c → c < w3.heap.size) := fun c hc => (hu.lt c hc).2
    obtain ⟨AO4, nO4, cO4, hu'⟩ := OwnE.form3 hu
    subst hu'
    have O4_3 := Lib.hid hu
    clear hu
    clear Za_3
    go_upto_region 6 with (fail)
    have X4_4 : Hid (Box (w3.alloc (.cells #[(.slice AO4 nO4 cO4)] 25)) w3.heap.size (.slice AO4 nO4 cO4) 25) := heap_alloc_new w3 _
    have gq : Grows w3 (w3.alloc (.cells #[(.slice AO4 nO4 cO4)] 25)) := (Grows.refl _).alloc _
    obtain ⟨w4, hw4⟩ : ∃ w', (w3.alloc (.cells #[(.slice AO4 nO4 cO4)] 25)) = w' := ⟨_, rfl⟩
    rw [hw4] at X4_4 gq ⊢
    clear hw4
    have T4 : Hid (Grows w w4) := T3.out.trans gq
    have O4_4 := Lib.hid (O4_3.out.keep gq)
    clear O4_3 T3
    clear gq
    have T4x := Lib.hid T4.out
    have sz4 : w3.heap.size < w4.heap.size := X4_4.out.lt
    go_wp2_with fail
    refine (HT.out _ T4.out).mono ?_
    rintro e w5 ⟨rfl, ⟨vsZb, tw⟩, gq⟩
    have T5 : Hid (Grows w w5) := T4.out.trans gq
    have O4_5 := Lib.hid (O4_4.out.keep gq)
    have X4_5 := Lib.hid (X4_4.out.keep gq)
    clear O4_4 X4_4 T4
    clear gq
    have Zb_5 := Lib.hid tw
    clear tw
    have BZ : Hid (∀ v ∈ vsZb, ∀ c, v.ownBlock = some c → w4.heap.size + 1 ≤ c ∧ c < w5.heap.size) := Zb_5.out.blocks
    have sz5 : w4.heap.size < w5.heap.size := Zb_5.out.1
    have szw : w.heap.size ≤ w5.heap.size := T5.out.size
    go_wp2_with fail
    refine (HI.out _ _ _ Zb_5.out.stack).mono ?_
    rintro e w6 ⟨u, rfl, hu, gq⟩
    have sz5_6 : w5.heap.size ≤ w6.heap.size := gq.size
    have T6 : Hid (Grows w w6) := T5.out.trans gq
    have O4_6 := Lib.hid (O4_5.out.keep gq)
    have X4_6 := Lib.hid (X4_5.out.keep gq)
    have Zb_6 := Lib.hid (Zb_5.out.keep gq)
    clear O4_5 X4_5 Zb_5 T5
    clear gq
    have L7 : Hid (∀ c, u.ownBlock = some c → w5.heap.size ≤ c ∧ c < w6.heap.size) := hu.lt
    obtain ⟨AO7, nO7, cO7, hu'⟩ := OwnE.form3 hu
    subst hu'
    have O7_6 := Lib.hid hu
    clear hu
    go_upto_region 8 with (fail)
    have X7_7 : Hid (Box (w6.alloc (.cells #[(.slice AO7 nO7 cO7)] 25)) w6.heap.size (.slice AO7 nO7 cO7) 25) := heap_alloc_new w6 _
    have gq : Grows w6 (w6.alloc (.cells #[(.slice AO7 nO7 cO7)] 25)) := (Grows.refl _).alloc _
    obtain ⟨w7, hw7⟩ : ∃ w', (w6.alloc (.cells #[(.slice AO7 nO7 cO7)] 25)) = w' := ⟨_, rfl⟩
    rw [hw7] at X7_7 gq ⊢
    clear hw7
    have T7 : Hid (Grows w w7) := T6.out.trans gq
    have O4_7 := Lib.hid (O4_6.out.keep gq)
    have X4_7 := Lib.hid (X4_6.out.keep gq)
    have Zb_7 := Lib.hid (Zb_6.out.keep gq)
    have O7_7 := Lib.hid (O7_6.out.keep gq)
    clear O4_6 X4_6 Zb_6 O7_6 T6
    clear gq
    have hne : (β != β) = false := bne_self_eq_false β
    have cX7 := X7_7.out.cell
    have cX4 := X4_7.out.cell
    go_wp2_with fail
    refine (HEL.out _ _ _ _ _ O7_7.out O4_7.out).mono ?_
    rintro e w8 ⟨rfl, gq⟩
    clear cX7
    clear cX4
    have T8 : Hid (Grows w w8) := T7.out.trans gq
    have O4_8 := Lib.hid (O4_7.out.keep gq)
    have X4_8 := Lib.hid (X4_7.out.keep gq)
    have Zb_8 := Lib.hid (Zb_7.out.keep gq)
    have O7_8 := Lib.hid (O7_7.out.keep gq)
    have X7_8 := Lib.hid (X7_7.out.keep gq)
    clear O4_7 X4_7 Zb_7 O7_7 X7_7 T7
    clear gq
    go_wp2_with fail
    refine (HT.out _ T8.out).mono ?_
    rintro e w9 ⟨rfl, ⟨vsZc, tw⟩, gq⟩
    have T9 : Hid (Grows w w9) := T8.out.trans gq
    have O4_9 := Lib.hid (O4_8.out.keep gq)
    have X4_9 := Lib.hid (X4_8.out.keep gq)
    have Zb_9 := Lib.hid (Zb_8.out.keep gq)
    have O7_9 := Lib.hid (O7_8.out.keep gq)
    have X7_9 := Lib.hid (X7_8.out.keep gq)
    clear O4_8 X4_8 Zb_8 O7_8 X7_8 T8
    clear gq
    have Zc_9 := Lib.hid tw
    clear tw
    go_wp2_with fail
    refine (HE.out _ _ _ _ _ Zb_9.out.stack Zc_9.out.stack).mono ?_
    rintro e w10 ⟨rfl, gq⟩
    have T10 : Hid (Grows w w10) := T9.out.trans gq
    have O4_10 := Lib.hid (O4_9.out.keep gq)
    have X4_10 := Lib.hid (X4_9.out.keep gq)
    have Zb_10 := Lib.hid (Zb_9.out.keep gq)
    have O7_10 := Lib.hid (O7_9.out.keep gq)
    have X7_10 := Lib.hid (X7_9.out.keep gq)
    have Zc_10 := Lib.hid (Zc_9.out.keep gq)
    clear O4_9 X4_9 Zb_9 O7_9 X7_9 Zc_9 T9
    clear gq
    clear Zc_10
    have HRR : Hid (∀ a b v, v ∈ vsZb → (fun a => Grows w a ∧ OwnE a w2.heap.size (.slice AO4 nO4 cO4) P ∧ Box a w3.heap.size (.slice AO4 nO4 cO4) 25 ∧ OwnE a w5.heap.size (.slice AO7 nO7 cO7) P ∧ Box a w6.heap.size (.slice AO7 nO7 cO7) 25) a → Only v a b → (fun a => Grows w a ∧ OwnE a w2.heap.size (.slice AO4 nO4 cO4) P ∧ Box a w3.heap.size (.slice AO4 nO4 cO4) 25 ∧ OwnE a w5.heap.size (.slice AO7 nO7 cO7) P ∧ Box a w6.heap.size (.slice AO7 nO7 cO7) 25) b) := fun a b v hv ⟨r1, r2, r3, r4, r5⟩ ho => by
      have hbz := BZ.out v hv
      refine ⟨r1.mark ho (fun c hc => by have := T4x.out.size; have := hbz c hc; omega), r2.far ho (fun c hc e => by have h1 := L4.out c hc; have h2 := hbz c e; omega), r3.far ho (fun e => by have h2 := hbz _ e; omega), r4.far ho (fun c hc e => by have h1 := (L7.out c hc).1; have h2 := hbz c e; omega), r5.far ho (fun e => by have h2 := hbz _ e; omega)⟩
    go_wp2_with fail
    refine (HMS.out (fun a => Grows w a ∧ OwnE a w2.heap.size (.slice AO4 nO4 cO4) P ∧ Box a w3.heap.size (.slice AO4 nO4 cO4) 25 ∧ OwnE a w5.heap.size (.slice AO7 nO7 cO7) P ∧ Box a w6.heap.size (.slice AO7 nO7 cO7) 25) _ _ _ _ Zb_10.out ⟨T10.out, O4_10.out, X4_10.out, O7_10.out, X7_10.out⟩ HRR.out).mono ?_
    rintro e w11 ⟨m1, rfl, r1, r2, r3, r4, r5⟩
    have T11 := Lib.hid r1
    have O4_11 := Lib.hid r2
    have X4_11 := Lib.hid r3
    have O7_11 := Lib.hid r4
    have X7_11 := Lib.hid r5
    clear r1 r2 r3 r4 r5 HRR Zb_10 O4_10 X4_10 O7_10 X7_10 T10
    have hm1 : 0 ≤ (m1 : Int) := by omega
    have cX7 := X7_11.out.cell
    have cX4 := X4_11.out.cell
    go_wp2_with fail
    refine (HEL.out _ _ _ _ _ O7_11.out O4_11.out).mono ?_
    rintro e w12 ⟨rfl, gq⟩
    clear cX7
    clear cX4
    have T12 : Hid (Grows w w12) := T11.out.trans gq
    have O4_12 := Lib.hid (O4_11.out.keep gq)
    have X4_12 := Lib.hid (X4_11.out.keep gq)
    have O7_12 := Lib.hid (O7_11.out.keep gq)
    have X7_12 := Lib.hid (X7_11.out.keep gq)
    clear O4_11 X4_11 O7_11 X7_11 T11
    clear gq
    have cX7 := X7_12.out.cell
    go_wp2_with fail
    refine (HMG.out _ _ _ O7_12.out).mono ?_
    rintro e w13 ⟨rfl, hq7, ho⟩
    have T13 : Hid (Grows w w13) := T12.out.mark ho (fun c hc => by have := (L7.out c hc).1; omega)
    have Q7_13 := Lib.hid hq7
    have O4_13 := Lib.hid (O4_12.out.far ho (fun c hc e => by have h1 := L4.out c hc; have h2 := (L7.out c e).1; omega))
    have X4_13 := Lib.hid (X4_12.out.far ho (fun e => by have h2 := (L7.out _ e).1; omega))
    have X7_13 := Lib.hid (X7_12.out.far ho (fun e => by have h2 := (L7.out _ e).2; omega))
    clear hq7 ho cX7 O4_12 X4_12 X7_12 O7_12 T12
    have hq0 : 0 ≤ (q : Int) := by omega
    have cX7 := X7_13.out.cell
    go_wp2_with fail
    refine (HHG.out _ _ _ Q7_13.out).mono ?_
    rintro e w14 ⟨rfl, gq⟩
    clear cX7
    have T14 : Hid (Grows w w14) := T13.out.trans gq
    have O4_14 := Lib.hid (O4_13.out.keep gq)
    have X4_14 := Lib.hid (X4_13.out.keep gq)
    have X7_14 := Lib.hid (X7_13.out.keep gq)
    have Q7_14 := Lib.hid (Q7_13.out.keep gq)
    clear O4_13 X4_13 X7_13 Q7_13 T13
    clear gq
    go_wp2_with fail
    refine (HT.out _ T14.out).mono ?_
    rintro e w15 ⟨rfl, ⟨vsZd, tw⟩, gq⟩
    have T15 : Hid (Grows w w15) := T14.out.trans gq
    have O4_15 := Lib.hid (O4_14.out.keep gq)
    have X4_15 := Lib.hid (X4_14.out.keep gq)
    have X7_15 := Lib.hid (X7_14.out.keep gq)
    have Q7_15 := Lib.hid (Q7_14.out.keep gq)
    clear O4_14 X4_14 X7_14 Q7_14 T14
    clear gq
    have Zd_15 := Lib.hid tw
    clear tw
    go_wp2_with fail
    refine (HI.out _ _ _ Zd_15.out.stack).mono ?_
    rintro e w16 ⟨u, rfl, hu, gq⟩
    have T16 : Hid (Grows w w16) := T15.out.trans gq
    have O4_16 := Lib.hid (O4_15.out.keep gq)
    have X4_16 := Lib.hid (X4_15.out.keep gq)
    have X7_16 := Lib.hid (X7_15.out.keep gq)
    have Q7_16 := Lib.hid (Q7_15.out.keep gq)
    have Zd_16 := Lib.hid (Zd_15.out.keep gq)
    clear O4_15 X4_15 X7_15 Q7_15 Zd_15 T15
    clear gq
    obtain ⟨AOx, nOx, cOx, hu'⟩ := OwnE.form3 hu
    subst hu'
    have Ox_16 := Lib.hid hu
    clear hu
    clear Zd_16
    go_upto_region 25 with (fail)
    have X12_17 : Hid (Box (w16.alloc (.cells #[(.slice AOx nOx cOx)] 25)) w16.heap.size (.slice AOx nOx cOx) 25) := heap_alloc_new w16 _
    have gq : Grows w16 (w16.alloc (.cells #[(.slice AOx nOx cOx)] 25)) := (Grows.refl _).alloc _
    obtain ⟨w17, hw17⟩ : ∃ w', (w16.alloc (.cells #[(.slice AOx nOx cOx)] 25)) = w' := ⟨_, rfl⟩
    rw [hw17] at X12_17 gq ⊢
    clear hw17
    have T17 : Hid (Grows w w17) := T16.out.trans gq
    have O4_17 := Lib.hid (O4_16.out.keep gq)
    have X4_17 := Lib.hid (X4_16.out.keep gq)
    have X7_17 := Lib.hid (X7_16.out.keep gq)
    have Q7_17 := Lib.hid (Q7_16.out.keep gq)
    have Ox_17 := Lib.hid (Ox_16.out.keep gq)
    clear O4_16 X4_16 X7_16 Q7_16 Ox_16 T16
    clear gq
    have cX12 := X12_17.out.cell
    have cX4 := X4_17.out.cell
    go_wp2_with fail
    refine (HEL.out _ _ _ _ _ Ox_17.out O4_17.out).mono ?_
    rintro e w18 ⟨rfl, gq⟩
    clear cX12
    clear cX4
    have T18 : Hid (Grows w w18) := T17.out.trans gq
    have O4_18 := Lib.hid (O4_17.out.keep gq)
    have X4_18 := Lib.hid (X4_17.out.keep gq)
    have X7_18 := Lib.hid (X7_17.out.keep gq)
    have Q7_18 := Lib.hid (Q7_17.out.keep gq)
    have Ox_18 := Lib.hid (Ox_17.out.keep gq)
    have X12_18 := Lib.hid (X12_17.out.keep gq)
    clear O4_17 X4_17 X7_17 Q7_17 Ox_17 X12_17 T17
    clear gq
    have cX7 := X7_18.out.cell
    go_wp2_with fail
    refine (HHG.out _ _ _ Q7_18.out).mono ?_
    rintro e w19 ⟨rfl, gq⟩
    clear cX7
    have T19 : Hid (Grows w w19) := T18.out.trans gq
    have O4_19 := Lib.hid (O4_18.out.keep gq)
    have X4_19 := Lib.hid (X4_18.out.keep gq)
    have X7_19 := Lib.hid (X7_18.out.keep gq)
    have Q7_19 := Lib.hid (Q7_18.out.keep gq)
    have Ox_19 := Lib.hid (Ox_18.out.keep gq)
    have X12_19 := Lib.hid (X12_18.out.keep gq)
    clear O4_18 X4_18 X7_18 Q7_18 Ox_18 X12_18 T18
    clear gq
    go_wp2
    go_ret
    exact ⟨rfl, T19.out.below⟩
  · rw [less_no (by omega)] at HZ
    clear hA hr hw hn
    go_enter Tryd.func7, Tryd.ntmps7
    go_wp2_with fail
    refine (HZ.out _ (Grows.refl _)).mono ?_
    rintro e w1 ⟨rfl, g1⟩
    go_wp2
    go_ret
    exact ⟨rfl, g1.below⟩
end Go.Proofs.YtnkggfcibbchdaaDoor
