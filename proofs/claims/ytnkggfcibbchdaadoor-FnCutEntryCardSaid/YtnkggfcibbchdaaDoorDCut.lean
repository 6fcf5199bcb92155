/-
  The drawn law of CutEntry: whatever its bytes, it returns true. Condition: no more bytes than a slice may have.
-/
import Derived.Test.YtnkggfcibbchdaaDoorDrwC
import Derived.Test.YtnkggfcibbchdaaDoorOneL
import Derived.Test.YtnkggfcibbchdaaDoorCutS
import Derived.Test.YtnkggfcibbchdaaDoorPutF
import Derived.Test.YtnkggfcibbchdaaDoorMrgX
import Derived.Test.YtnkggfcibbchdaaDoorLayH
namespace Go.Proofs.YtnkggfcibbchdaaDoor
open Go.RowKit

theorem cut_vlayer {K : List Ent} (hv : vlayer K = true) (s key : ByteArray) : vlayer (K.filter (notAt s key)) = true := by
  have h1 := vlayer_vent hv
  have h2 := vlayer_20 hv
  have h3 := List.length_filter_le (notAt s key) K
  unfold vlayer okE
  rw [distE_filter _ _ (vlayer_dist hv), decide_eq_true (show (K.filter (notAt s key)).length ≤ 20 by omega), Bool.and_true, Bool.and_true, List.all_eq_true]
  exact fun x hx => h1 x (List.mem_filter.1 hx).1
theorem cut_fresh {K : List Ent} {s key : ByteArray} {e : Ent} (ho : e.of s key = true) : freshE (K.filter (notAt s key)) e = true := by
  obtain ⟨rfl, rfl⟩ := (of_iff e s key).1 ho
  unfold freshE
  rw [List.all_eq_true]
  intro x hx
  exact (List.mem_filter.1 hx).2
theorem findC_dist : ∀ (es : List Ent), distE es = true → ∀ e ∈ es, es.find? (fun x => x.of e.s e.k) = some e := by
  intro es
  induction es with
  | nil => intro _ e he; cases he
  | cons a t ih =>
    intro h e he
    rw [distE, Bool.and_eq_true] at h
    rcases List.mem_cons.1 he with rfl | he
    · rw [List.find?_cons_of_pos (p := fun x : Ent => x.of e.s e.k) ((of_iff e e.s e.k).2 ⟨rfl, rfl⟩)]
    · have h1 := h.1
      rw [List.all_eq_true] at h1
      have h2 := h1 e he
      rw [List.find?_cons_of_neg (p := fun x : Ent => x.of e.s e.k) (by
        intro h3
        rw [h3] at h2
        cases h2)]
      exact ih h.2 e he
theorem cut_back {K : List Ent} (hv : vlayer K = true) {s key : ByteArray} {e : Ent} (he : e ∈ K) (ho : e.of s key = true) :
    putB (K.filter (notAt s key)) e = true ∧ sameL (putE (K.filter (notAt s key)) e) K = true := by
  have hP := cut_vlayer hv s key
  have hfr := cut_fresh (K := K) ho
  have hidx : entIdx (K.filter (notAt s key)) e.s e.k < 0 := by
    have h1 := fresh_idx (K.filter (notAt s key)) e
    have h2 := any_fresh (K.filter (notAt s key)) e
    unfold freshIn at h1
    rw [← h2, hfr] at h1
    exact of_decide_eq_true h1.symm
  have hR : putR (K.filter (notAt s key)) e = K.filter (notAt s key) ++ [e] := by
    unfold putR
    rw [if_neg (by omega)]
  have hlen : (K.filter (notAt s key)).length + 1 ≤ 20 := by
    have h1 := vlayer_20 hv
    have h2 := List.length_filter_le (notAt s key) K
    have h3 : (K.filter (notAt s key)).length ≠ K.length := fun h => by
      have h4 := cutLen.1 h
      rw [← Bool.not_eq_true, List.any_eq_true] at h4
      exact h4 ⟨e, he, ho⟩
    omega
  have hV : vlayer (K.filter (notAt s key) ++ [e]) = true := by
    have h1 := hP
    unfold vlayer at h1
    rw [Bool.and_eq_true] at h1
    unfold vlayer
    rw [okE_snoc, h1.1, vlayer_vent hv e he, hfr, decide_eq_true (show (K.filter (notAt s key) ++ [e]).length ≤ 20 by simp; omega)]
    rfl
  have hE : putE (K.filter (notAt s key)) e = K.filter (notAt s key) ++ [e] := by
    unfold putE chkE
    rw [if_pos hP, hR, if_pos hV]
  refine ⟨by unfold putB; rw [hP, hR, hV]; rfl, ?_⟩
  unfold sameL
  rw [hE, hV, hv]
  refine sameE_of (vlayer_keysM hV) (vlayer_keysM hv) (fun x => ?_)
  rw [List.mem_append, List.mem_singleton, List.mem_filter]
  constructor
  · rintro (h | rfl)
    · exact h.1
    · exact he
  · intro hx
    by_cases h : x.of s key = true
    · right
      obtain ⟨a1, a2⟩ := (of_iff x s key).1 h
      obtain ⟨b1, b2⟩ := (of_iff e s key).1 ho
      have f1 := findC_dist K (vlayer_dist hv) x hx
      have f2 := findC_dist K (vlayer_dist hv) e he
      rw [a1, a2] at f1
      rw [b1, b2, f1] at f2
      injection f2
    · left
      refine ⟨hx, ?_⟩
      unfold notAt
      have h' : x.of s key = false := by simpa using h
      rw [h']
      rfl
theorem cutB_iff {K : List Ent} {s key : ByteArray} (h : cutB K s key = true) : vlayer K = true ∧ K.any (fun x => x.of s key) = true ∧ cutL K s key = K.filter (notAt s key) := by
  have h1 := h
  unfold cutB at h1
  rw [Bool.and_eq_true] at h1
  refine ⟨h1.1, h1.2, ?_⟩
  unfold cutL
  rw [if_pos h]
theorem cutL_fit {K : List Ent} (hf : EFit K) (s key : ByteArray) : EFit (cutL K s key) := by
  unfold cutL
  split
  · refine ⟨Nat.le_trans (List.length_filter_le _ _) hf.1, fun i hi => ?_⟩
    have hm : (K.filter (notAt s key))[i] ∈ K := (List.mem_filter.1 (List.getElem_mem hi)).1
    obtain ⟨j, hj, e⟩ := List.getElem_of_mem hm
    rw [← e]
    exact hf.2 j hj
  · exact ⟨Nat.zero_le _, fun _ h => absurd h (Nat.not_lt_zero _)⟩
theorem putE_fit (P : List Ent) (e : Ent) : EFit (putE P e) := by
  unfold putE
  split
  · unfold chkE
    split
    · rename_i h
      refine ⟨by have := vlayer_20 h; omega, fun i hi => ?_⟩
      have := ent_fits' (vlayer_vent h (putR P e)[i] (List.getElem_mem hi))
      exact ⟨by omega, by omega, by omega⟩
    · exact ⟨Nat.zero_le _, fun _ h => absurd h (Nat.not_lt_zero _)⟩
  · exact ⟨Nat.zero_le _, fun _ h => absurd h (Nat.not_lt_zero _)⟩
theorem implCut_own (v : Value) (b : Nat) (es : List Ent) (s key : ByteArray) (w : World) (hf : EFit es) (h : OwnE w b v es) :
    Calls Tryd.prog 20 #[.agg #[v], .string s, .string key] w (ResEB (cutL es s key) (cutB es s key) w) := by
  obtain ⟨A, c, rfl, _, hA⟩ := h.formC
  exact implCut_any A c es s key w hf hA
theorem specCut_own (v : Value) (b : Nat) (es : List Ent) (s key : ByteArray) (w : World) (hf : EFit es) (h : OwnE w b v es) :
    Calls Tryd.prog 21 #[.agg #[v], .string s, .string key] w (ResEB (cutL es s key) (cutB es s key) w) := by
  obtain ⟨A, c, rfl, hc, hA⟩ := h.formC
  exact specCut_any A c es s key w hc hf hA
theorem implPut_own (v : Value) (b : Nat) (es : List Ent) (e : Ent) (w : World) (hf : EFit es) (he : e.fits) (h : OwnE w b v es) :
    Calls Tryd.prog 22 #[.agg #[v], e.agg] w (ResEB (putE es e) (putB es e) w) := by
  obtain ⟨A, c, rfl, hc, hA⟩ := h.formC
  exact implPutE_any A c es e w hc hf he hA
theorem implSameC_own (v u : Value) (b1 b2 : Nat) (xs bs : List Ent) (w : World) (hf : EFit xs) (hg : EFit bs) (h1 : OwnE w b1 v xs) (h2 : OwnE w b2 u bs) :
    Calls Tryd.prog 23 #[.agg #[v], .agg #[u]] w fun e w' => e = .returned (.bool (sameL xs bs)) ∧ Grows w w' := by
  obtain ⟨A, c, rfl, hc, hA⟩ := h1.formC
  obtain ⟨B, d, rfl, hd, hB⟩ := h2.formC
  exact implSame_any A c xs B d bs w hf hA hg hB

set_option maxRecDepth 100000 in
set_option maxHeartbeats 8000000 in
theorem dCut_any (A : Option Addr) (n c : Nat) (w : World) (hn : n ≤ maxLen) (hc : n ≤ c) (h : BytesAt w A n) :
    Calls Tryd.prog 5 #[.slice A n c] w fun e w' => e = .returned (.bool true) ∧ Below w.heap.size w w' := by
  by_cases hbig : 1048576 < n
  · clear h
    unfold maxLen at hn
    go_enter Tryd.func5, Tryd.ntmps5
    go_wp2
    go_ret
    exact ⟨rfl, (Grows.refl _).below⟩
  · have HD := Lib.hid (DrawCutEntry_any A n c w hn hc h)
    clear h
    unfold maxLen at hn
    go_enter Tryd.func5, Tryd.ntmps5
    go_wp2_with fail
    refine (HD.out).mono ?_
    rintro e w1 ⟨v, K, s, key, rfl, ⟨hS, hK⟩, hO, ⟨hs0, hk0⟩, g1⟩
    obtain ⟨A0, n0, c0, rfl⟩ := hO.form3
    have hf := hS.fit hK
    have hs : s.size ≤ 1048576 := by omega
    have hk : key.size ≤ 1048576 := by omega
    obtain ⟨P, hP⟩ : ∃ P, cutL K s key = P := ⟨_, rfl⟩
    obtain ⟨β, hβ⟩ : ∃ β, cutB K s key = β := ⟨_, rfl⟩
    have hfP : EFit P := hP ▸ cutL_fit hf s key
    have HB1 : Hid (β = true → ∀ e ∈ K, e.of s key = true → putB P e = true ∧ sameL (putE P e) K = true) := fun e x hx ho => by
      obtain ⟨h1, h2, h3⟩ := cutB_iff (hβ.trans e)
      rw [← hP, h3]
      exact cut_back h1 hx ho
    have HB2 : Hid (β = true → tellB [P] s key = false) := fun e => by
      obtain ⟨h1, h2, h3⟩ := cutB_iff (hβ.trans e)
      rw [← hP, h3, (tell_yes (by rw [vstack_one]; exact cut_vlayer h1 s key) s key).2, told_cut h1]
      rfl
    have HB3 : Hid (β = true → ¬ ∀ i (h : i < K.length), K[i].of s key = false) := fun e hno => by
      obtain ⟨h1, h2, h3⟩ := cutB_iff (hβ.trans e)
      rw [List.any_eq_true] at h2
      obtain ⟨x, hx, ho⟩ := h2
      obtain ⟨i, hi, rfl⟩ := List.getElem_of_mem hx
      rw [hno i hi] at ho
      cases ho
    have HSH := Lib.hid (fun x (hx : x ∈ K) => (show x.fits by have := hS x hx; unfold Ent.short at this; exact ⟨by omega, by omega, by omega⟩))
    have HPF := Lib.hid (fun e => show (putE P e).length ≤ P.length + 1 from putE_le P e)
    have HC1 := Lib.hid (fun (v : Value) (b : Nat) (w2 : World) (h1 : OwnE w2 b v K) => implCut_own v b K s key w2 hf h1)
    have HC2 := Lib.hid (fun (v : Value) (b : Nat) (w2 : World) (h1 : OwnE w2 b v K) => specCut_own v b K s key w2 hf h1)
    have HR1 := Lib.hid (fun (v : Value) (b g : Nat) (w2 : World) (h1 : OwnE w2 b v P) (hc : w2.cell? ⟨g, 0, none⟩ = some v) (hg2 : g < w2.heap.size) => implRes1_own v b g P s key w2 hfP h1 hc hg2 hs hk)
    have HPU := Lib.hid (fun (v : Value) (b : Nat) (e : Ent) (w2 : World) (he : e.fits) (h1 : OwnE w2 b v P) => implPut_own v b P e w2 hfP he h1)
    have HSA := Lib.hid (fun (v u : Value) (b1 b2 : Nat) (e : Ent) (w2 : World) (hfe : EFit (putE P e)) (h1 : OwnE w2 b1 v (putE P e)) (h2 : OwnE w2 b2 u K) => implSameC_own v u b1 b2 (putE P e) K w2 hfe hf h1 h2)
    have HPE := Lib.hid (fun (e : Ent) => putE_fit P e)
    rw [hP, hβ] at HC1 HC2
    unfold ResEB at HC1 HC2 HPU
    have hP20 : P.length ≤ 1048576 := hfP.1
    obtain ⟨m, hm⟩ : ∃ m, K.length = m := ⟨_, rfl⟩
    have HM := Lib.hid hm
    have hm1 : m ≤ 101 := by omega
    obtain ⟨A9, c9, he9, hE9⟩ := hO.form
    injection he9 with h91 h92 h93
    subst h91
    rw [hm] at h92
    subst h92
    have O0_1 := Lib.hid hO
    have E0_1 := Lib.hid hE9
    have T1 : Hid (Grows w1 w1) := Grows.refl _
    have HG1 := Lib.hid g1
    obtain ⟨τ, hτ⟩ : ∃ τ, tellS [P] s key = τ := ⟨_, rfl⟩
    obtain ⟨π, hπ⟩ : ∃ π, tellB [P] s key = π := ⟨_, rfl⟩
    rw [hτ, hπ] at HR1
    rw [hπ] at HB2
    clear hS hO hE9 g1 hf HD hfP hP hβ h93 hm hK hτ hπ
    go_upto_region 4 with (fail)
    have X3_2 : Hid (Box (w1.alloc (.cells #[.slice A0 n0 c0] 25)) w1.heap.size (.slice A0 n0 c0) 25) := heap_alloc_new w1 _
    have gq : Grows w1 (w1.alloc (.cells #[.slice A0 n0 c0] 25)) := (Grows.refl _).alloc _
    obtain ⟨w2, hw2⟩ : ∃ w', (w1.alloc (.cells #[.slice A0 n0 c0] 25)) = w' := ⟨_, rfl⟩
    rw [hw2] at X3_2 gq ⊢
    clear hw2
    have T2 : Hid (Grows w1 w2) := T1.out.trans gq
    have O0_2 := Lib.hid (O0_1.out.keep gq)
    have E0_2 := Lib.hid (E0_1.out.keep gq)
    clear O0_1 E0_1 T1
    clear gq
    have cX3 := X3_2.out.cell
    go_wp2_with fail
    refine (HC1.out _ _ _ O0_2.out).mono ?_
    rintro e w3 ⟨u, rfl, hu, gq⟩
    clear cX3
    have T3 : Hid (Grows w1 w3) := T2.out.trans gq
    have O0_3 := Lib.hid (O0_2.out.keep gq)
    have E0_3 := Lib.hid (E0_2.out.keep gq)
    have X3_3 := Lib.hid (X3_2.out.keep gq)
    clear O0_2 E0_2 X3_2 T2
    clear gq
    obtain ⟨AO4, nO4, cO4, hu'⟩ := OwnE.form3 hu
    subst hu'
    have O4_3 := Lib.hid hu
    clear hu
    go_upto_region 5 with (fail)
    have X5_4 : Hid (Box (w3.alloc (.cells #[(.slice AO4 nO4 cO4)] 25)) w3.heap.size (.slice AO4 nO4 cO4) 25) := heap_alloc_new w3 _
    have gq : Grows w3 (w3.alloc (.cells #[(.slice AO4 nO4 cO4)] 25)) := (Grows.refl _).alloc _
    obtain ⟨w4, hw4⟩ : ∃ w', (w3.alloc (.cells #[(.slice AO4 nO4 cO4)] 25)) = w' := ⟨_, rfl⟩
    rw [hw4] at X5_4 gq ⊢
    clear hw4
    have T4 : Hid (Grows w1 w4) := T3.out.trans gq
    have O0_4 := Lib.hid (O0_3.out.keep gq)
    have E0_4 := Lib.hid (E0_3.out.keep gq)
    have X3_4 := Lib.hid (X3_3.out.keep gq)
    have O4_4 := Lib.hid (O4_3.out.keep gq)
    clear O0_3 E0_3 X3_3 O4_3 T3
    clear gq
    obtain ⟨b_X5, hbb⟩ : ∃ b, w3.heap.size = b := ⟨_, rfl⟩
    rw [hbb] at X5_4 ⊢
    clear hbb
    have cX3 := X3_4.out.cell
    go_wp2_with fail
    refine (HC2.out _ _ _ O0_4.out).mono ?_
    rintro e w5 ⟨u, rfl, hu, gq⟩
    clear cX3
    have T5 : Hid (Grows w1 w5) := T4.out.trans gq
    have O0_5 := Lib.hid (O0_4.out.keep gq)
    have E0_5 := Lib.hid (E0_4.out.keep gq)
    have X3_5 := Lib.hid (X3_4.out.keep gq)
    have O4_5 := Lib.hid (O4_4.out.keep gq)
    have X5_5 := Lib.hid (X5_4.out.keep gq)
    clear O0_4 E0_4 X3_4 O4_4 X5_4 T4
    clear gq
    obtain ⟨AO5, nO5, cO5, hu'⟩ := OwnE.form3 hu
    subst hu'
    have O5_5 := Lib.hid hu
    clear hu
    go_upto_region 6 with (fail)
    have X7_6 : Hid (Box (w5.alloc (.cells #[(.slice AO5 nO5 cO5)] 25)) w5.heap.size (.slice AO5 nO5 cO5) 25) := heap_alloc_new w5 _
    have gq : Grows w5 (w5.alloc (.cells #[(.slice AO5 nO5 cO5)] 25)) := (Grows.refl _).alloc _
    obtain ⟨w6, hw6⟩ : ∃ w', (w5.alloc (.cells #[(.slice AO5 nO5 cO5)] 25)) = w' := ⟨_, rfl⟩
    rw [hw6] at X7_6 gq ⊢
    clear hw6
    have T6 : Hid (Grows w1 w6) := T5.out.trans gq
    have O0_6 := Lib.hid (O0_5.out.keep gq)
    have E0_6 := Lib.hid (E0_5.out.keep gq)
    have X3_6 := Lib.hid (X3_5.out.keep gq)
    have O4_6 := Lib.hid (O4_5.out.keep gq)
    have X5_6 := Lib.hid (X5_5.out.keep gq)
    have O5_6 := Lib.hid (O5_5.out.keep gq)
    clear O0_5 E0_5 X3_5 O4_5 X5_5 O5_5 T5
    clear gq
    obtain ⟨b_X7, hbb⟩ : ∃ b, w5.heap.size = b := ⟨_, rfl⟩
    rw [hbb] at X7_6 ⊢
    clear hbb
    have cX5 := X5_6.out.cell
    have cX7 := X7_6.out.cell
    go_wp2_with fail
    refine (equalLayer_own _ _ _ _ P _ hP20 O4_6.out O5_6.out).mono ?_
    rintro e w7 ⟨rfl, gq⟩
    clear cX5
    clear cX7
    have T7 : Hid (Grows w1 w7) := T6.out.trans gq
    have O0_7 := Lib.hid (O0_6.out.keep gq)
    have E0_7 := Lib.hid (E0_6.out.keep gq)
    have X3_7 := Lib.hid (X3_6.out.keep gq)
    have O4_7 := Lib.hid (O4_6.out.keep gq)
    have X5_7 := Lib.hid (X5_6.out.keep gq)
    have O5_7 := Lib.hid (O5_6.out.keep gq)
    have X7_7 := Lib.hid (X7_6.out.keep gq)
    clear O0_6 E0_6 X3_6 O4_6 X5_6 O5_6 X7_6 T6
    clear gq
    rcases β with _ | _
    · have cX5 := X5_7.out.cell
      have cX7 := X7_7.out.cell
      go_wp2_with fail
      refine (equalLayer_own _ _ _ _ P _ hP20 O4_7.out O5_7.out).mono ?_
      rintro e w8 ⟨rfl, gq⟩
      clear cX5
      clear cX7
      have T8 : Hid (Grows w1 w8) := T7.out.trans gq
      have O0_8 := Lib.hid (O0_7.out.keep gq)
      have E0_8 := Lib.hid (E0_7.out.keep gq)
      have X3_8 := Lib.hid (X3_7.out.keep gq)
      have O4_8 := Lib.hid (O4_7.out.keep gq)
      have X5_8 := Lib.hid (X5_7.out.keep gq)
      have O5_8 := Lib.hid (O5_7.out.keep gq)
      have X7_8 := Lib.hid (X7_7.out.keep gq)
      clear O0_7 E0_7 X3_7 O4_7 X5_7 O5_7 X7_7 T7
      clear gq
      go_wp2
      go_ret
      exact ⟨rfl, (HG1.out.trans T8.out).below⟩
    · clear X7_7 O5_7 HC1 HC2
      have hpi : π = false := HB2.out (by simp)
      subst hpi
      go_upto_region 8 with (fail)
      have cX5 := X5_7.out.cell
      go_wp2_with fail
      refine (oneL_any AO4 nO4 cO4 _).mono ?_
      rintro e w8 ⟨ga, rfl, hca, _, hga, gq⟩
      clear cX5
      have T8 : Hid (Grows w1 w8) := T7.out.trans gq
      have O0_8 := Lib.hid (O0_7.out.keep gq)
      have E0_8 := Lib.hid (E0_7.out.keep gq)
      have X3_8 := Lib.hid (X3_7.out.keep gq)
      have O4_8 := Lib.hid (O4_7.out.keep gq)
      have X5_8 := Lib.hid (X5_7.out.keep gq)
      clear O0_7 E0_7 X3_7 O4_7 X5_7 T7
      clear gq
      go_wp2_with fail
      refine (HR1.out _ _ ga _ O4_8.out hca hga).mono ?_
      rintro e w9 ⟨rfl, gq⟩
      clear hca hga
      have T9 : Hid (Grows w1 w9) := T8.out.trans gq
      have O0_9 := Lib.hid (O0_8.out.keep gq)
      have E0_9 := Lib.hid (E0_8.out.keep gq)
      have X3_9 := Lib.hid (X3_8.out.keep gq)
      have O4_9 := Lib.hid (O4_8.out.keep gq)
      have X5_9 := Lib.hid (X5_8.out.keep gq)
      clear O0_8 E0_8 X3_8 O4_8 X5_8 T8
      clear gq
      go_wp2_with fail
      go_loopw [12] (fun i wr => ∃ k : Nat, k ≤ n0 ∧ i = .int .i64 k ∧ Hid (∀ i (h : i < K.length), i < k → K[i].of s key = false) ∧ Hid (Grows w9 wr)) (fun i _ => n0 - (intOf i).toNat)
      case atStart => exact ⟨0, Nat.zero_le _, rfl, fun i _ h => absurd h (Nat.not_lt_zero _), Grows.refl _⟩
      case round =>
        obtain ⟨k, hk0', rfl, HNO, HG⟩ := hrel
        have x3 := (X3_9.out.keep HG.out).cell
        by_cases hlt : k < n0
        · obtain ⟨b, o, rfl, hb, hc⟩ := E0_9.out (by rw [HM.out]; omega)
          have hk2 : k < K.length := by rw [HM.out]; exact hlt
          have hat := (hc k hk2).keep hb HG.out
          have hmem : K[k] ∈ K := List.getElem_mem hk2
          have hfx := HSH.out _ hmem
          have HBK := Lib.hid (fun e => HB1.out e K[k] hmem)
          have HNX : Hid (K[k].of s key = false → ∀ i (h : i < K.length), i < k + 1 → K[i].of s key = false) := fun h0 i hi hik => by
            by_cases e : i = k
            · subst e; exact h0
            · exact HNO.out i hi (by omega)
          obtain ⟨⟨es, ek, eo, ev⟩, hx⟩ : ∃ x, K[k] = x := ⟨_, rfl⟩
          rw [hx] at hat hfx HBK HNX
          have hofx : Ent.of ⟨es, ek, eo, ev⟩ s key = ((es.toList == s.toList) && (ek.toList == key.toList)) := rfl
          obtain ⟨y0, y1, y2, y3⟩ := hat
          simp only at y0 y1 y2 y3
          have HFX := Lib.hid hfx
          clear hc hx hmem hfx
          go_upto_region 13 with (fail)
          have E1 : Hid (BoxE (wr.alloc (.cells #[.string es, .string ek, .int .i64 eo, .string ev] 36)) wr.heap.size ⟨es, ek, eo, ev⟩ 36) := BoxE.new wr ⟨es, ek, eo, ev⟩ _
          have Gr : Hid (Grows w9 (wr.alloc (.cells #[.string es, .string ek, .int .i64 eo, .string ev] 36))) := HG.out.alloc _
          obtain ⟨wa, hwa⟩ : ∃ wa, wr.alloc (.cells #[.string es, .string ek, .int .i64 eo, .string ev] 36) = wa := ⟨_, rfl⟩
          rw [hwa] at E1 Gr ⊢
          clear hwa y0 y1 y2 y3 x3
          obtain ⟨be, hbe⟩ : ∃ be, wr.heap.size = be := ⟨_, rfl⟩
          rw [hbe] at E1 ⊢
          clear hbe
          have t0 := E1.out.at0
          have t1 := E1.out.at1
          have t2 := E1.out.at2
          have t3 := E1.out.at3
          simp only at t0 t1 t2 t3
          by_cases hs1 : (es.toList == s.toList) = true
          · by_cases hs2 : (ek.toList == key.toList) = true
            · obtain ⟨hpb, hsl⟩ := HBK.out (by simp) (by rw [hofx, hs1, hs2]; rfl)
              have HSL := Lib.hid hsl
              have HPUX := Lib.hid (fun v b w2 h1 => HPU.out v b ⟨es, ek, eo, ev⟩ w2 HFX.out h1)
              have HSAX := Lib.hid (fun v u b1 b2 w2 h1 h2 => HSA.out v u b1 b2 ⟨es, ek, eo, ev⟩ w2 (HPE.out _) h1 h2)
              rw [hpb] at HPUX
              rw [hsl] at HSAX
              unfold Ent.agg at HPUX
              simp only at HPUX
              obtain ⟨R, hR⟩ : ∃ R, putE P ⟨es, ek, eo, ev⟩ = R := ⟨_, rfl⟩
              rw [hR] at HPUX HSAX
              have x5 := (X5_9.out.keep Gr.out).cell
              clear hpb hsl HSL hR hofx
              go_wp2_with fail
              refine (HPUX.out _ _ _ (O4_9.out.keep Gr.out)).mono ?_
              rintro e wb ⟨u, rfl, hu, gq⟩
              have Gb : Hid (Grows w9 wb) := Gr.out.trans gq
              obtain ⟨A7, n7, c7, rfl⟩ := hu.form3
              have HU := Lib.hid hu
              clear gq hu t0 t1 t2 t3 x5
              go_upto_region 15 with (fail)
              have X14 : Hid (Box (wb.alloc (.cells #[.slice A7 n7 c7] 25)) wb.heap.size (.slice A7 n7 c7) 25) := heap_alloc_new wb _
              have Gc : Hid (Grows w9 (wb.alloc (.cells #[.slice A7 n7 c7] 25))) := Gb.out.alloc _
              have HU2 := Lib.hid (HU.out.keep ((Grows.refl wb).alloc (.cells #[.slice A7 n7 c7] 25)))
              obtain ⟨wc, hwc⟩ : ∃ wc, wb.alloc (.cells #[.slice A7 n7 c7] 25) = wc := ⟨_, rfl⟩
              rw [hwc] at X14 Gc HU2 ⊢
              clear hwc
              have xa := X14.out.cell
              have xb := (X3_9.out.keep Gc.out).cell
              go_wp2_with fail
              refine (HSAX.out _ _ _ _ _ HU2.out (O0_9.out.keep Gc.out)).mono ?_
              rintro e wd ⟨rfl, gq⟩
              have Gd : Hid (Grows w wd) := HG1.out.trans (T9.out.trans (Gc.out.trans gq))
              clear gq
              go_wp2
              go_ret
              exact ⟨rfl, Gd.out.below⟩
            · have hs2' : (ek.toList == key.toList) = false := by simpa using hs2
              have HN2 : Hid (∀ i (h : i < K.length), i < k + 1 → K[i].of s key = false) := HNX.out (by rw [hofx, hs1, hs2']; rfl)
              clear hs2
              go_wp2
              go_roundw
              case rel => exact ⟨k + 1, by omega, by go_num, HN2, Gr⟩
              case measure => (simp [intOf]; try omega)
          · have hs1' : (es.toList == s.toList) = false := by simpa using hs1
            have HN2 : Hid (∀ i (h : i < K.length), i < k + 1 → K[i].of s key = false) := HNX.out (by rw [hofx, hs1']; rfl)
            clear hs1
            go_wp2
            go_roundw
            case rel => exact ⟨k + 1, by omega, by go_num, HN2, Gr⟩
            case measure => (simp [intOf]; try omega)
        · exact absurd (fun i hi => HNO.out i hi (by have := HM.out; omega)) (HB3.out (by simp))
end Go.Proofs.YtnkggfcibbchdaaDoor
