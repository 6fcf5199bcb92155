/-
  The drawn law of Flatten and MergeLayers: whatever its bytes, it returns true. Condition: no more bytes than a slice may have.
-/
import Derived.Test.YtddecipodofliaaDoorStkG
import Derived.Test.YtddecipodofliaaDoorFlmX
import Derived.Test.YtddecipodofliaaDoorFltS
import Derived.Test.YtddecipodofliaaDoorMrgM
import Derived.Test.YtddecipodofliaaDoorMrgI
import Derived.Test.YtddecipodofliaaDoorLayH
namespace Go.Proofs.YtddecipodofliaaDoor
open Go.RowKit

theorem implMrgF_own (v u : Value) (b1 b2 : Nat) (xs bs : List Ent) (w : World) (hf : EFit xs) (hg : EFit bs) (h1 : OwnE w b1 v xs) (h2 : OwnE w b2 u bs) :
    Calls Tryd.prog 10 #[.agg #[v], .agg #[u]] w (ResEB (mergeL xs bs) (mergeB xs bs) w) := by
  obtain ⟨A, c, rfl, hc, hA⟩ := h1.formC
  obtain ⟨B, d, rfl, hd, hB⟩ := h2.formC
  exact implMrg_any A c xs B d bs w hc hd hf hA hg hB
theorem implSameF_own (v u : Value) (b1 b2 : Nat) (xs bs : List Ent) (w : World) (hf : EFit xs) (hg : EFit bs) (h1 : OwnE w b1 v xs) (h2 : OwnE w b2 u bs) :
    Calls Tryd.prog 12 #[.agg #[v], .agg #[u]] w fun e w' => e = .returned (.bool (sameL xs bs)) ∧ Grows w w' := by
  obtain ⟨A, c, rfl, hc, hA⟩ := h1.formC
  obtain ⟨B, d, rfl, hd, hB⟩ := h2.formC
  exact implSame_any A c xs B d bs w hf hA hg hB
theorem fit_consF {x : List Ent} {sl : List (List Ent)} (h1 : EFit x) (h2 : ∀ l ∈ sl, EFit l) : ∀ l ∈ x :: sl, EFit l := fun l hl => by
  rcases List.mem_cons.1 hl with h | h
  · rw [h]; exact h1
  · exact h2 l h
theorem mergeF_fit (xs bs : List Ent) : EFit (mergeL xs bs) := by
  unfold mergeL
  split
  · rename_i h
    unfold chkE
    split
    · exact mergeR_fit h.1 h.2
    · exact ⟨Nat.zero_le _, fun _ h => absurd h (Nat.not_lt_zero _)⟩
  · exact ⟨Nat.zero_le _, fun _ h => absurd h (Nat.not_lt_zero _)⟩
theorem implFlt_stk (v : Value) (b : Nat) (sl : List (List Ent)) (w : World) (h6 : sl.length ≤ 6) (hf : ∀ l ∈ sl, EFit l) (h : Stk w b v sl) :
    Calls Tryd.prog 7 #[v] w (ResEB (flatL sl) (flatB sl) w) := by
  obtain ⟨A, c, rfl, hA⟩ := h.form
  exact implFlatten_any A c sl w (by omega) hf hA
theorem specFlt_stk (v : Value) (b : Nat) (sl : List (List Ent)) (w : World) (h6 : sl.length ≤ 6) (hf : ∀ l ∈ sl, EFit l) (h : Stk w b v sl) :
    Calls Tryd.prog 8 #[v] w (ResEB (flatL sl) (flatB sl) w) := by
  obtain ⟨A, c, rfl, hA⟩ := h.form
  exact specFlatten_any A c sl w (by omega) hf hA
theorem fltOn (x : List Ent) (sl : List (List Ent)) (m : Nat) (hm : m = sl.length) (hx : EFit x) (h6 : sl.length ≤ 6) (hf : ∀ l ∈ sl, EFit l) (A : Option Addr) (c : Nat) (w : World) (hA : StackAt w A (x :: sl)) :
    Calls Tryd.prog 7 #[.slice A (m + 1) c] w (ResEB (flatL (x :: sl)) (flatB (x :: sl)) w) := by
  subst hm
  exact implFlatten_any A c (x :: sl) w (by rw [List.length_cons]; omega) (fit_consF hx hf) hA
theorem Stk.open_ {w : World} {b : Nat} {A0 : Option Addr} {n0 c0 : Nat} {sl : List (List Ent)} (h : Stk w b (.slice A0 n0 c0) sl) (hpos : 0 < sl.length) : ∃ g, A0 = some ⟨g, 0, none⟩ ∧ n0 = sl.length ∧ n0 ≤ c0 ∧ c0 ≤ maxLen := by
  obtain ⟨vs, h1, h2, _⟩ := h
  rcases h1.2 with ⟨hv, h0⟩ | ⟨g, cap, cur, hv, _, _, hle, hmx, _⟩
  · omega
  · injection hv with e1 e2 e3
    subst e3
    exact ⟨g, e1, by omega, by omega, hmx⟩
theorem Stk.at_ {w : World} {b g n0 c0 : Nat} {sl : List (List Ent)} (h : Stk w b (.slice (some ⟨g, 0, none⟩) n0 c0) sl) (i : Nat) (hi : i < sl.length) : ∃ A c, w.cell? ⟨g, i, none⟩ = some (.slice A sl[i].length c) ∧ OwnE w b (.slice A sl[i].length c) sl[i] := by
  obtain ⟨_, _, hn, _⟩ := h.open_ (by omega)
  obtain ⟨vs, h1, h2, h3⟩ := h
  rw [hn, ← h2] at h1
  have hu : vs[i]? = some (vs[i]'(by omega)) := List.getElem?_eq_getElem _
  have h8 := h3 i _ hi hu
  have hc := World.ownsRow.cellAt h1 i (by omega)
  obtain ⟨A', c', e, _⟩ := h8.formC
  rw [e] at hu h8
  exact ⟨A', c', hc.trans hu, h8⟩
theorem oneF_any (A : Option Addr) (n c : Nat) (w : World) :
    Calls Tryd.prog 11 #[.agg #[.slice A n c]] w fun r w' => ∃ g, r = .returned (.slice (some ⟨g, 0, none⟩) 1 1) ∧ OwnRL w' w.heap.size (.slice (some ⟨g, 0, none⟩) 1 1) [.slice A n c] ∧ Grows w w' := by
  have BX : Hid (OwnRL ((w.alloc (.cells #[.slice A n c] 27)).alloc (.cells #[.slice A n c] 27)) w.heap.size (.slice (some ⟨(w.alloc (.cells #[.slice A n c] 27)).heap.size, 0, none⟩) 1 1) [.slice A n c]) := World.ownsRow_lit (w.alloc (.cells #[.slice A n c] 27)) #[.slice A n c] 1 (by simp) (by unfold maxLen; omega) rfl
  have G : Hid (Grows w ((w.alloc (.cells #[.slice A n c] 27)).alloc (.cells #[.slice A n c] 27))) := ((Grows.refl w).alloc _).alloc _
  rw [World.size_alloc] at BX
  go_enter Tryd.func11, Tryd.ntmps11
  go_wp2
  go_ret
  exact ⟨w.heap.size + 1, by simp, BX.out, G.out⟩
theorem appTail {w : World} {ops : Array Oper} {rest : List Oper} {o : Oper} {a : Act} {Q : Exit → Act → World → Prop} (hgd : o.guard = none) (s x : Operand)
    (ho : o.op = .call { callee := .builtin .append, args := #[s, x], argTypes := #[23, 23] })
    (base g0 : Nat) (A0 : Option Addr) (n0 c0 : Nat) (X : List Ent) (hs : a.eval s = .slice (some ⟨g0, 0, none⟩) 1 1) (hown : OwnRL w base (.slice (some ⟨g0, 0, none⟩) 1 1) [.slice A0 n0 c0]) (bx : Nat) (hX : OwnE w bx (.slice A0 n0 c0) X)
    (b2 g n cap : Nat) (p q : List Ent) (sl : List (List Ent)) (ad : Option Addr) (m cx : Nat) (hm : m = sl.length) (had : 0 < m → ad = some ⟨g, 2, none⟩) (hx : a.eval x = .slice ad m cx) (hst : Stk w b2 (.slice (some ⟨g, 0, none⟩) n cap) (p :: q :: sl)) (h6 : sl.length ≤ 6) (hbase : base ≤ w.heap.size)
    (h : ∀ A' c' w', Hid (StackAt w' A' (X :: sl)) → Hid (w.grownBy w' (some g0)) → wpList Tryd.prog ops Q rest (a.put o.dst (.slice A' (m + 1) c')) w') : wpList Tryd.prog ops Q (o :: rest) a w := by
  obtain ⟨i0, hi, hz0, hz1, hz2⟩ := info_parts infoLayG
  obtain ⟨_, _, hnn, _⟩ := hst.open_ (by simp)
  obtain ⟨vs, h1, h2, h3⟩ := hst
  have hvl : vs.length = sl.length + 2 := by rw [h2]; rfl
  rw [hnn, ← h2] at h1
  subst hm
  rcases Nat.eq_zero_or_pos sl.length with hm0 | hm0
  · have hsl : sl = [] := List.eq_nil_of_length_eq_zero hm0
    subst hsl
    refine wpList_plain hgd fun KK hKK => ?_
    have hr := run_append_nothing (P := Tryd.prog) w 23 23 o.type 27 i0 Tryd.underlying23 hi (some ⟨g0, 0, none⟩) 1 1 (Nat.le_refl _) (.slice ad 0 cx) (by
      rcases ad with _ | ad
      · exact Src.ofNil w Tryd.underlying23 cx
      · exact Src.ofSlice w Tryd.underlying23 ad 0 cx [] (by simp) (fun j u hj => by simp at hj) (fun u hu => by cases hu))
    have hx' : a.eval x = .slice ad 0 cx := hx
    unfold Oper.wp execOp
    simp only [ho, resolve, invoke, builtin, Sem.run_bind, Sem.run_pure, Result.andThen_ok, List.map_toArray, List.map_cons, List.map_nil, hs, hx', hr]
    refine hKK _ _ (h _ 1 w ?_ (World.grownBy.refl _ _))
    intro _
    refine ⟨g0, 0, rfl, (hown.lt g0 rfl).2, fun i hi => ?_⟩
    have hi0 : i = 0 := by simp at hi; exact hi
    subst hi0
    have hc := World.ownsRow.cellAt hown 0 (by simp)
    obtain ⟨A', c', e, q1, q2⟩ := hX.formC
    exact ⟨A', c', by rw [Nat.zero_add, hc, e]; rfl, q1, q2⟩
  · have had' := had hm0
    subst had'
    refine wpList_append_lies _ hgd s x 23 ho base 27 i0 (.agg #[.slice none 0 0]) 1 24 Tryd.underlying23 hi hz0 hz1 hz2 rfl (by decide) _ 1 [.slice A0 n0 c0] hs hown ⟨g, 2, none⟩ sl.length cx (vs.drop 2) hx (by rw [List.length_drop]; omega) (fun j u hj => ?_) (fun u hu => ?_) hm0 (by unfold maxLen; omega) (by omega) hbase _ rfl ?_
    · rw [List.getElem?_drop] at hj
      have hjl : 2 + j < vs.length := by
        rcases Nat.lt_or_ge (2 + j) vs.length with h9 | h9
        · exact h9
        · rw [List.getElem?_eq_none h9] at hj; cases hj
      have h8 := World.ownsRow.cellAt h1 (2 + j) (by omega)
      rw [hj] at h8
      rcases j with _ | j <;> simpa [Addr.add] using h8
    · have hu2 := List.mem_of_mem_drop hu
      obtain ⟨i, hil, hi2⟩ := List.mem_iff_getElem.1 hu2
      have h8 := h3 i u (by omega) (by rw [List.getElem?_eq_getElem hil, hi2])
      obtain ⟨A', c', e, _⟩ := h8.formC
      rw [e]
      rfl
    · intro g' cap' w' k1 k2 _ k4
      have hl : 1 + sl.length = sl.length + 1 := by omega
      rw [hl] at k1 ⊢
      refine h _ _ w' ?_ k2
      have hA0 := hX.far k2 (fun k hk e => apartRE hown hX k hk e)
      intro _
      refine ⟨g', 0, rfl, k4, fun i hi => ?_⟩
      have hc := World.ownsRow.cellAt k1 i (by rw [List.length_cons] at hi; omega)
      rcases i with _ | i
      · obtain ⟨A', c', e, q1, q2⟩ := hA0.formC
        exact ⟨A', c', by rw [Nat.zero_add, hc, e]; rfl, q1, q2⟩
      · have hi' : i < sl.length := by rw [List.length_cons] at hi; omega
        have hu : vs[i + 2]? = some (vs[i + 2]'(by omega)) := List.getElem?_eq_getElem _
        have h8 := h3 (i + 2) _ (by simp; omega) hu
        obtain ⟨A', c', e, q1, q2⟩ := (h8.far k2 (fun k hk e => apartRE hown h8 k hk e)).formC
        rw [e] at hu
        refine ⟨A', c', ?_, q1, q2⟩
        rw [Nat.zero_add, hc, List.singleton_append, List.getElem?_cons_succ, List.getElem?_drop, Nat.add_comm 2 i]
        exact hu

set_option maxRecDepth 100000 in
set_option maxHeartbeats 8000000 in
theorem dFlm_any (A : Option Addr) (n c : Nat) (w : World) (hn : n ≤ maxLen) (hc : n ≤ c) (h : BytesAt w A n) :
    Calls Tryd.prog 3 #[.slice A n c] w fun e w' => e = .returned (.bool true) ∧ Below w.heap.size w w' := by
  by_cases hbig : 1048576 < n
  · clear h
    unfold maxLen at hn
    go_enter Tryd.func3, Tryd.ntmps3
    go_wp2
    go_ret
    exact ⟨rfl, (Grows.refl _).below⟩
  · have HD := Lib.hid (DrawFlatten_any A n c w hn hc h)
    clear h
    unfold maxLen at hn
    go_enter Tryd.func3, Tryd.ntmps3
    go_wp2_with fail
    refine (HD.out).mono ?_
    rintro e w1 ⟨v, sl, rfl, hS, hO, g1⟩
    have hf := hS.fit
    have hn6 := hS.1
    have HF := Lib.hid hf
    have HI := Lib.hid (fun v b w2 (h : Stk w2 b v sl) => implFlt_stk v b sl w2 hn6 hf h)
    have HV := Lib.hid (fun v b w2 (h : Stk w2 b v sl) => specFlt_stk v b sl w2 hn6 hf h)
    have hfP := flatL_fit sl
    obtain ⟨P, hP⟩ : ∃ P, flatL sl = P := ⟨_, rfl⟩
    obtain ⟨β, hβ⟩ : ∃ β, flatB sl = β := ⟨_, rfl⟩
    have HP := Lib.hid hP
    have HB := Lib.hid hβ
    rw [hP] at HI HV hfP
    rw [hβ] at HI HV
    unfold ResEB at HI HV
    have hP20 : P.length ≤ 1048576 := hfP.1
    have HFP := Lib.hid hfP
    obtain ⟨A0, c0, rfl, _⟩ := hO.form
    obtain ⟨n0, hn0⟩ : ∃ n0, sl.length = n0 := ⟨_, rfl⟩
    have HN := Lib.hid hn0
    rw [hn0] at hn6 hO ⊢
    have S0_1 := Lib.hid hO
    have T1 : Hid (Grows w1 w1) := Grows.refl _
    have HG1 := Lib.hid g1
    clear hS hO g1 hf HD hP hβ hn0 hfP
    go_wp2_with fail
    refine (HI.out _ _ _ S0_1.out).mono ?_
    rintro e w2 ⟨u, rfl, hu, gq⟩
    have T2 : Hid (Grows w1 w2) := T1.out.trans gq
    have S0_2 := Lib.hid (S0_1.out.keep gq)
    clear S0_1 T1
    clear gq
    obtain ⟨AO4, nO4, cO4, hu'⟩ := OwnE.form3 hu
    subst hu'
    have O4_2 := Lib.hid hu
    clear hu
    go_upto_region 5 with (fail)
    have X5_3 : Hid (Box (w2.alloc (.cells #[(.slice AO4 nO4 cO4)] 27)) w2.heap.size (.slice AO4 nO4 cO4) 27) := heap_alloc_new w2 _
    have gq : Grows w2 (w2.alloc (.cells #[(.slice AO4 nO4 cO4)] 27)) := (Grows.refl _).alloc _
    obtain ⟨w3, hw3⟩ : ∃ w', (w2.alloc (.cells #[(.slice AO4 nO4 cO4)] 27)) = w' := ⟨_, rfl⟩
    rw [hw3] at X5_3 gq ⊢
    clear hw3
    have T3 : Hid (Grows w1 w3) := T2.out.trans gq
    have S0_3 := Lib.hid (S0_2.out.keep gq)
    have O4_3 := Lib.hid (O4_2.out.keep gq)
    clear S0_2 O4_2 T2
    clear gq
    obtain ⟨b_X5, hbb⟩ : ∃ b, w2.heap.size = b := ⟨_, rfl⟩
    rw [hbb] at X5_3 ⊢
    clear hbb
    go_wp2_with fail
    refine (HV.out _ _ _ S0_3.out).mono ?_
    rintro e w4 ⟨u, rfl, hu, gq⟩
    have T4 : Hid (Grows w1 w4) := T3.out.trans gq
    have S0_4 := Lib.hid (S0_3.out.keep gq)
    have O4_4 := Lib.hid (O4_3.out.keep gq)
    have X5_4 := Lib.hid (X5_3.out.keep gq)
    clear S0_3 O4_3 X5_3 T3
    clear gq
    obtain ⟨AO5, nO5, cO5, hu'⟩ := OwnE.form3 hu
    subst hu'
    have O5_4 := Lib.hid hu
    clear hu
    go_upto_region 6 with (fail)
    have X7_5 : Hid (Box (w4.alloc (.cells #[(.slice AO5 nO5 cO5)] 27)) w4.heap.size (.slice AO5 nO5 cO5) 27) := heap_alloc_new w4 _
    have gq : Grows w4 (w4.alloc (.cells #[(.slice AO5 nO5 cO5)] 27)) := (Grows.refl _).alloc _
    obtain ⟨w5, hw5⟩ : ∃ w', (w4.alloc (.cells #[(.slice AO5 nO5 cO5)] 27)) = w' := ⟨_, rfl⟩
    rw [hw5] at X7_5 gq ⊢
    clear hw5
    have T5 : Hid (Grows w1 w5) := T4.out.trans gq
    have S0_5 := Lib.hid (S0_4.out.keep gq)
    have O4_5 := Lib.hid (O4_4.out.keep gq)
    have X5_5 := Lib.hid (X5_4.out.keep gq)
    have O5_5 := Lib.hid (O5_4.out.keep gq)
    clear S0_4 O4_4 X5_4 O5_4 T4
    clear gq
    obtain ⟨b_X7, hbb⟩ : ∃ b, w4.heap.size = b := ⟨_, rfl⟩
    rw [hbb] at X7_5 ⊢
    clear hbb
    have cX5 := X5_5.out.cell
    have cX7 := X7_5.out.cell
    go_wp2_with fail
    refine (equalLayer_own _ _ _ _ P _ hP20 O4_5.out O5_5.out).mono ?_
    rintro e w6 ⟨rfl, gq⟩
    clear cX5
    clear cX7
    have T6 : Hid (Grows w1 w6) := T5.out.trans gq
    have S0_6 := Lib.hid (S0_5.out.keep gq)
    have O4_6 := Lib.hid (O4_5.out.keep gq)
    have X5_6 := Lib.hid (X5_5.out.keep gq)
    have O5_6 := Lib.hid (O5_5.out.keep gq)
    have X7_6 := Lib.hid (X7_5.out.keep gq)
    clear S0_5 O4_5 X5_5 O5_5 X7_5 T5
    clear gq
    rcases β with _ | _
    · have cX5 := X5_6.out.cell
      have cX7 := X7_6.out.cell
      go_wp2_with fail
      refine (equalLayer_own _ _ _ _ P _ hP20 O4_6.out O5_6.out).mono ?_
      rintro e w7 ⟨rfl, gq⟩
      clear cX5
      clear cX7
      have T7 : Hid (Grows w1 w7) := T6.out.trans gq
      have S0_7 := Lib.hid (S0_6.out.keep gq)
      have O4_7 := Lib.hid (O4_6.out.keep gq)
      have X5_7 := Lib.hid (X5_6.out.keep gq)
      have O5_7 := Lib.hid (O5_6.out.keep gq)
      have X7_7 := Lib.hid (X7_6.out.keep gq)
      clear S0_6 O4_6 X5_6 O5_6 X7_6 T6
      clear gq
      go_wp2
      go_ret
      exact ⟨rfl, (HG1.out.trans T7.out).below⟩
    · clear X7_6 O5_6 HI HV
      by_cases h2 : n0 < 2
      · go_wp2
        go_ret
        exact ⟨rfl, (HG1.out.trans T6.out).below⟩
      · obtain ⟨g0, rfl, hne0, hcap, hmx⟩ := S0_6.out.open_ (by rw [HN.out]; omega)
        clear hne0
        rcases sl with _ | ⟨a, _ | ⟨b, rest⟩⟩
        · have := HN.out; simp at this; omega
        · have := HN.out; simp at this; omega
        have hn0 : n0 = rest.length + 2 := HN.out.symm
        obtain ⟨m, hm⟩ : ∃ m, rest.length = m := ⟨_, rfl⟩
        rw [hm] at hn0
        have HN0 := Lib.hid hn0
        clear hn0
        obtain ⟨Aa, ca, hca, hoa⟩ := S0_6.out.at_ 0 (by simp)
        obtain ⟨Ab, cb, hcb, hob⟩ := S0_6.out.at_ 1 (by simp)
        simp only [List.getElem_cons_zero, List.getElem_cons_succ] at hca hcb hoa hob
        have hfa := HF.out a (by simp)
        have hfb := HF.out b (by simp)
        have hfr : ∀ l ∈ rest, EFit l := fun l hl => HF.out l (by simp [hl])
        have HFM := Lib.hid (fun hmb => flat_merge (a := a) (b := b) (rest := rest) HB.out hmb)
        rw [HP.out] at HFM
        have hmf := mergeF_fit a b
        obtain ⟨μ, hμ⟩ : ∃ μ, mergeB a b = μ := ⟨_, rfl⟩
        obtain ⟨M, hM⟩ : ∃ M, mergeL a b = M := ⟨_, rfl⟩
        have HMG := Lib.hid (fun (v u : Value) (b1 b2 : Nat) (w2 : World) (h1 : OwnE w2 b1 v a) (h2 : OwnE w2 b2 u b) => implMrgF_own v u b1 b2 a b w2 hfa hfb h1 h2)
        rw [hM] at hmf HMG HFM
        rw [hμ] at HMG HFM
        have HF2 := Lib.hid (fun (A : Option Addr) (c : Nat) (w : World) h => fltOn M rest (n0 - 2) (by have h1 := HN0.out; omega) hmf (by have := HN0.out; omega) hfr A c w h)
        have hff := flatL_fit (M :: rest)
        obtain ⟨F, hF⟩ : ∃ F, flatL (M :: rest) = F := ⟨_, rfl⟩
        obtain ⟨φ, hφ⟩ : ∃ φ, flatB (M :: rest) = φ := ⟨_, rfl⟩
        rw [hF] at HF2 HFM hff
        rw [hφ] at HF2 HFM
        obtain ⟨σ, hσ⟩ : ∃ σ, sameL F P = σ := ⟨_, rfl⟩
        have HSM := Lib.hid (fun (v u : Value) (b1 b2 : Nat) (w2 : World) (h1 : OwnE w2 b1 v F) (h2 : OwnE w2 b2 u P) => implSameF_own v u b1 b2 F P w2 hff HFP.out h1 h2)
        rw [hσ] at HSM HFM
        unfold ResEB at HMG HF2
        have U0_6 := Lib.hid hoa
        have U1_6 := Lib.hid hob
        have HCA := Lib.hid hca
        have HCB := Lib.hid hcb
        have HM := Lib.hid hm
        have h6 : rest.length ≤ 6 := by have := HN0.out; omega
        clear hca hcb hoa hob hfa hfb hfr hmf hM hμ hF hφ hσ hff HF HP HB hm
        have hca := HCA.out
        have hcb := HCB.out
        have hm0 : 0 < n0 := by omega
        have hm1 : 1 < n0 := by omega
        have hm0i : (0 : Int) < (n0 : Int) := by omega
        have hm1i : (1 : Int) < (n0 : Int) := by omega
        go_upto_region 10 with (fail)
        go_cut [8, 9] (fun sW s0 wx => ∃ (bX : Nat) (v : Value), sW = .pointer (some ⟨bX, 0, none⟩) ∧ s0 = .bool μ ∧ Hid (Box wx bX v 27) ∧ Hid (OwnE wx w6.heap.size v (M)) ∧ Hid (w6.heap.size ≤ bX) ∧ Hid (Grows w6 wx))
        case first =>
          refine wp_region_M 12 (CellsAre [(⟨g0, 0, none⟩, (.slice Aa a.length ca)), (⟨g0, 1, none⟩, (.slice Ab b.length cb))]) (by kernel_rfl) (by kernel_rfl) ⟨hca, hcb, trivial⟩ (fun hB hS => ?_)
          refine wpAnyM_take (i := 0) (v := ?vta0) hB rfl (by kernel_rfl) (fun _ _ _ h => h) (by rfl) ?yta0 hS ?nta0
          case yta0 => (intro w9 hSw; obtain ⟨s1, s2, _⟩ := hSw; go_simp; try with_reducible rfl)
          refine wpAnyM_take (i := 1) (v := ?vta1) hB rfl (by kernel_rfl) (fun _ _ _ h => h) (by rfl) ?yta1 hS ?nta1
          case yta1 => (intro w9 hSw; obtain ⟨s1, s2, _⟩ := hSw; go_simp; try with_reducible rfl)
          refine wpAnyM_take (i := 2) (v := ?vta2) hB rfl (by kernel_rfl) (fun _ _ _ h => h) (by rfl) ?yta2 hS ?nta2
          case yta2 => (intro w9 hSw; obtain ⟨s1, s2, _⟩ := hSw; go_simp; try with_reducible rfl)
          refine wpAnyM_take (i := 3) (v := ?vta3) hB rfl (by kernel_rfl) (fun _ _ _ h => h) (by rfl) ?yta3 hS ?nta3
          case yta3 => (intro w9 hSw; obtain ⟨s1, s2, _⟩ := hSw; go_simp; try with_reducible rfl)
          refine wpAnyM_take (i := 4) (v := ?vta4) hB rfl (by kernel_rfl) (fun _ _ _ h => h) (by rfl) ?yta4 hS ?nta4
          case yta4 => (intro w9 hSw; obtain ⟨s1, s2, _⟩ := hSw; go_simp; try with_reducible rfl)
          refine wpAnyM_take (i := 5) (v := ?vta5) hB rfl (by kernel_rfl) (fun _ _ _ h => h) (by rfl) ?yta5 hS ?nta5
          case yta5 => (intro w9 hSw; obtain ⟨s1, s2, _⟩ := hSw; go_simp; try with_reducible rfl)
          have HSB : Hid (CellsAre [(⟨g0, 0, none⟩, (.slice Aa a.length ca)), (⟨g0, 1, none⟩, (.slice Ab b.length cb))] w6) := ⟨hca, hcb, trivial⟩
          have HS0 := Lib.hid hS
          clear hS
          have GG0 : Hid (Grows w6 w6.drew) := (Grows.refl _).drew
          refine wpAnyM_two (i := 6) (j := 10) rfl rfl (by kernel_rfl) rfl rfl ?_ ?_
          · go_wp2_with fail
            refine (HMG.out _ _ _ _ _ (U0_6.out.keep GG0.out) (U1_6.out.keep GG0.out)).mono ?_
            rintro e y1W ⟨uu, rfl, huu, gg⟩
            obtain ⟨A7, n7, c7, hv7⟩ := OwnE.form3 huu
            subst hv7
            have H6 : Hid (OwnE y1W w6.heap.size (.slice A7 n7 c7) (M)) := OwnE.less huu (by have h1 := GG0.out.size; first | omega | exact h1 | (simp only [World.size_alloc] at *; omega))
            clear huu
            have GG_1 : Hid (Grows w6 y1W) := GG0.out.trans gg
            have HS_1 := Lib.hid (CellsAre.keep HS0.out gg)
            clear gg HS0 GG0
            go_wp2_with fail
            refine ⟨HS_1.out, ?_⟩
            have hS := HS_1.out
            refine wpAnyM_take (i := 7) (v := ?vtaz17) hB rfl (by kernel_rfl) (fun _ _ _ h => h) (by rfl) ?ytaz17 hS ?ntaz17
            case ytaz17 => (intro w9 hSw; obtain ⟨s1, s2, _⟩ := hSw; go_simp; try with_reducible rfl)
            refine wpAnyM_take (i := 8) (v := ?vtaz18) hB rfl (by kernel_rfl) (fun _ _ _ h => h) (by rfl) ?ytaz18 hS ?ntaz18
            case ytaz18 => (intro w9 hSw; obtain ⟨s1, s2, _⟩ := hSw; go_simp; try with_reducible rfl)
            refine wpAnyM_take (i := 9) (v := ?vtaz19) hB rfl (by kernel_rfl) (fun _ _ _ h => h) (by rfl) ?ytaz19 hS ?ntaz19
            case ytaz19 => (intro w9 hSw; obtain ⟨s1, s2, _⟩ := hSw; go_simp; try with_reducible rfl)
            clear hS
            refine wpAnyM_one (i := 10) rfl (by kernel_rfl) rfl ?_
            go_wp2_with fail
            have HZZ : Hid (Box (y1W.alloc (.cells #[.slice none 0 0] 27)) y1W.heap.size (.slice none 0 0) 27) := Box.new _ _ _
            have H6o := H6
            have H6z := Lib.hid (H6.out.keep ((Grows.refl _).alloc (.cells #[.slice none 0 0] 27)))
            clear H6
            have H6 := H6z
            clear H6z
            have GGo := GG_1
            have GG_2 : Hid (Grows w6 (y1W.alloc (.cells #[.slice none 0 0] 27))) := GG_1.out.alloc _
            have HS_2 := Lib.hid (CellsAre.keep HS_1.out ((Grows.refl _).alloc (.cells #[.slice none 0 0] 27)))
            have NZZ : Hid (w6.heap.size ≤ y1W.heap.size) := GG_1.out.size
            clear HS_1 GG_1
            refine ⟨HS_2.out, ?_⟩
            refine wpAnyM_one (i := 11) rfl (by kernel_rfl) rfl ?_
            have cZZ := HZZ.out.cell
            have fZZ := HZZ.out.free
            have lZZ := HZZ.out.lt
            go_wp2_with fail
            refine ⟨by first | exact CellsAre.keep HSB.out (GG_2.out.setCell NZZ.out _) | exact CellsAre.keep HSB.out (GGo.out.alloc _), ?_⟩
            refine wpAnyM_tail (by kernel_rfl) ?_
            clear hB HS_2 cZZ fZZ lZZ
            go_wp2_with fail
            go_meet
            first | exact ⟨_, _, rfl, rfl, HZZ.out.set_ _, H6.out.setFar (apartBox H6.out HZZ.out) _, NZZ.out, GG_2.out.setCell NZZ.out _⟩ | exact ⟨_, _, rfl, rfl, Box.new _ _ _, H6o.out.keep ((Grows.refl _).alloc _), NZZ.out, GGo.out.alloc _⟩
          · go_wp2_with fail
            have HZZ : Hid (Box (w6.drew.alloc (.cells #[.slice none 0 0] 27)) w6.heap.size (.slice none 0 0) 27) := Box.new _ _ _
            have GG_3 : Hid (Grows w6 (w6.drew.alloc (.cells #[.slice none 0 0] 27))) := GG0.out.alloc _
            have HS_3 := Lib.hid (CellsAre.keep HS0.out ((Grows.refl _).alloc (.cells #[.slice none 0 0] 27)))
            have NZZ : Hid (w6.heap.size ≤ w6.heap.size) := GG0.out.size
            clear HS0 GG0
            refine ⟨HS_3.out, ?_⟩
            refine wpAnyM_one (i := 6) rfl (by kernel_rfl) rfl ?_
            go_wp2_with fail
            refine (HMG.out _ _ _ _ _ (U0_6.out.keep GG_3.out) (U1_6.out.keep GG_3.out)).mono ?_
            rintro e y4W ⟨uu, rfl, huu, gg⟩
            obtain ⟨A7, n7, c7, hv7⟩ := OwnE.form3 huu
            subst hv7
            have H6 : Hid (OwnE y4W w6.heap.size (.slice A7 n7 c7) (M)) := OwnE.less huu (by have h1 := GG_3.out.size; first | omega | exact h1 | (simp only [World.size_alloc] at *; omega))
            clear huu
            have HZZz := Lib.hid (HZZ.out.keep gg)
            clear HZZ
            have HZZ := HZZz
            clear HZZz
            have GG_4 : Hid (Grows w6 y4W) := GG_3.out.trans gg
            have HS_4 := Lib.hid (CellsAre.keep HS_3.out gg)
            clear gg HS_3 GG_3
            go_wp2_with fail
            refine ⟨HS_4.out, ?_⟩
            have hS := HS_4.out
            refine wpAnyM_take (i := 7) (v := ?vtaz47) hB rfl (by kernel_rfl) (fun _ _ _ h => h) (by rfl) ?ytaz47 hS ?ntaz47
            case ytaz47 => (intro w9 hSw; obtain ⟨s1, s2, _⟩ := hSw; go_simp; try with_reducible rfl)
            refine wpAnyM_take (i := 8) (v := ?vtaz48) hB rfl (by kernel_rfl) (fun _ _ _ h => h) (by rfl) ?ytaz48 hS ?ntaz48
            case ytaz48 => (intro w9 hSw; obtain ⟨s1, s2, _⟩ := hSw; go_simp; try with_reducible rfl)
            refine wpAnyM_take (i := 9) (v := ?vtaz49) hB rfl (by kernel_rfl) (fun _ _ _ h => h) (by rfl) ?ytaz49 hS ?ntaz49
            case ytaz49 => (intro w9 hSw; obtain ⟨s1, s2, _⟩ := hSw; go_simp; try with_reducible rfl)
            clear hS
            refine wpAnyM_one (i := 11) rfl (by kernel_rfl) rfl ?_
            have cZZ := HZZ.out.cell
            have fZZ := HZZ.out.free
            have lZZ := HZZ.out.lt
            go_wp2_with fail
            refine ⟨by first | exact CellsAre.keep HSB.out (GG_4.out.setCell NZZ.out _), ?_⟩
            refine wpAnyM_tail (by kernel_rfl) ?_
            clear hB HS_4 cZZ fZZ lZZ
            go_wp2_with fail
            go_meet
            exact ⟨_, _, rfl, rfl, HZZ.out.set_ _, H6.out.setFar (apartBox H6.out HZZ.out) _, NZZ.out, GG_4.out.setCell NZZ.out _⟩
        case rest =>
        clear hca hcb HCA HCB
        obtain ⟨bX, vX, rfl, rfl, HBX, HOX, HNX, HGX⟩ := hcut
        obtain ⟨w7, hwd⟩ : ∃ x, wc = x := ⟨_, rfl⟩
        rw [hwd] at HBX HOX HGX ⊢
        clear hwd
        have gq := HGX.out
        have T7 : Hid (Grows w1 w7) := T6.out.trans gq
        have S0_7 := Lib.hid (S0_6.out.keep gq)
        have O4_7 := Lib.hid (O4_6.out.keep gq)
        have X5_7 := Lib.hid (X5_6.out.keep gq)
        have U0_7 := Lib.hid (U0_6.out.keep gq)
        have U1_7 := Lib.hid (U1_6.out.keep gq)
        clear S0_6 O4_6 X5_6 U0_6 U1_6 T6
        clear gq HGX HNX
        have X9_7 := Lib.hid HBX.out
        clear HBX
        obtain ⟨AO9, nO9, cO9, hu'⟩ := OwnE.form3 HOX.out
        subst hu'
        have O9_7 := Lib.hid HOX.out
        clear HOX
        rcases μ with _ | _
        · go_wp2
          go_ret
          exact ⟨rfl, (HG1.out.trans T7.out).below⟩
        · obtain ⟨hgood, hsame⟩ := HFM.out rfl
          subst hgood hsame
          have cX9 := X9_7.out.cell
          have h2i : (2 : Int) ≤ (n0 : Int) := by omega
          have h2n : 2 ≤ n0 := by omega
          have hci : (n0 : Int) ≤ (c0 : Int) := by omega
          have h2c : 2 ≤ c0 := by omega
          have h2ci : (2 : Int) ≤ (c0 : Int) := by omega
          go_upto_region 13 with (fail)
          go_cut [10, 11] (fun sW s0 wx => ∃ (bY : Nat) (v : Value), sW = .pointer (some ⟨bY, 0, none⟩) ∧ s0 = .bool true ∧ Hid (Box wx bY v 27) ∧ Hid (OwnE wx w7.heap.size v F) ∧ Hid (w7.heap.size ≤ bY) ∧ Hid (Grows w7 wx))
          case first =>
            refine wp_region_M 11 (CellsAre [(⟨bX, 0, none⟩, (.slice AO9 nO9 cO9))]) (by kernel_rfl) (by kernel_rfl) ⟨cX9, trivial⟩ (fun hB hS => ?_)
            by_cases hc2 : c0 = 2
            · subst hc2
              obtain rfl : n0 = 2 := by omega
              refine wpAnyM_take (i := 0) (v := ?vtb0) hB rfl (by kernel_rfl) (fun _ _ _ h => h) (by rfl) ?ytb0 hS ?ntb0
              case ytb0 => (intro w9 hSw; obtain ⟨s1, _⟩ := hSw; go_simp; try with_reducible rfl)
              refine wpAnyM_take (i := 2) (v := ?vtb2) hB rfl (by kernel_rfl) (fun _ _ _ h => h) (by rfl) ?ytb2 hS ?ntb2
              case ytb2 => (intro w9 hSw; obtain ⟨s1, _⟩ := hSw; go_simp; try with_reducible rfl)
              refine wpAnyM_take (i := 3) (v := ?vtb3) hB rfl (by kernel_rfl) (fun _ _ _ h => h) (by rfl) ?ytb3 hS ?ntb3
              case ytb3 => (intro w9 hSw; obtain ⟨s1, _⟩ := hSw; go_simp; try with_reducible rfl)
              have HSB : Hid (CellsAre [(⟨bX, 0, none⟩, (.slice AO9 nO9 cO9))] w7) := ⟨cX9, trivial⟩
              have HS0 := Lib.hid hS
              clear hS cX9
              have GG0 : Hid (Grows w7 w7.drew) := (Grows.refl _).drew
              refine wpAnyM_two (i := 1) (j := 9) rfl rfl (by kernel_rfl) rfl rfl ?_ ?_
              · go_wp2_with fail
                refine (oneF_any AO9 nO9 cO9 _).mono ?_
                rintro e y114W ⟨g9, rfl, hr, gg⟩
                have HR := Lib.hid hr
                have HBS : Hid (w7.heap.size ≤ g9) := Nat.le_trans GG0.out.size (hr.lt g9 rfl).1
                have GG_114 : Hid (Grows w7 y114W) := GG0.out.trans gg
                have HS_114 := Lib.hid (CellsAre.keep HS0.out gg)
                clear hr gg HS0 GG0
                go_wp2_with fail
                refine ⟨HS_114.out, ?_⟩
                refine wpAnyM_two (i := 4) (j := 9) rfl rfl (by kernel_rfl) rfl rfl ?_ ?_
                · have HX := Lib.hid (O9_7.out.keep GG_114.out)
                  have HST := Lib.hid (S0_7.out.keep GG_114.out)
                  have hsz := GG_114.out.size
                  refine appTail rfl (.tmp 65) (.tmp 67) rfl _ g9 AO9 nO9 cO9 M (by simp [Act.eval]) HR.out _ HX.out _ g0 _ _ _ _ rest (some ⟨g0, 0, none⟩) 0 0 (by have h1 := HN0.out; have h3 := HM.out; omega) (fun h => absurd h (by omega)) (by simp [Act.eval]) HST.out h6 (Nat.le_of_lt (Nat.lt_of_le_of_lt (HR.out.lt _ rfl).1 (HR.out.lt _ rfl).2)) ?_
                  intro Aq cq y115W hSA hGB
                  have GG_115 : Hid (Grows w7 y115W) := GG_114.out.mark hGB.out (fun x hx => by injection hx with hx; rw [← hx]; exact HBS.out)
                  have HS_115 := Lib.hid (CellsAre.keep HSB.out GG_115.out)
                  have HSA := hSA
                  clear hSA hGB HX HST hsz HR HS_114 GG_114
                  go_wp2_with fail
                  refine ⟨HS_115.out, ?_⟩
                  refine wpAnyM_two (i := 5) (j := 9) rfl rfl (by kernel_rfl) rfl rfl ?_ ?_
                  · go_wp2_with fail
                    refine (HF2.out Aq cq _ HSA.out).mono ?_
                    rintro e y116W ⟨uu, rfl, huu, gg⟩
                    clear HSA
                    obtain ⟨A7, n7, c7, hv7⟩ := OwnE.form3 huu
                    subst hv7
                    have H6 : Hid (OwnE y116W w7.heap.size (.slice A7 n7 c7) F) := OwnE.less huu (by have h1 := GG_115.out.size; first | omega | exact h1 | (simp only [World.size_alloc] at *; omega))
                    clear huu
                    have GG_116 : Hid (Grows w7 y116W) := GG_115.out.trans gg
                    have HS_116 := Lib.hid (CellsAre.keep HS_115.out gg)
                    clear gg HS_115 GG_115
                    go_wp2_with fail
                    refine ⟨HS_116.out, ?_⟩
                    have hS := HS_116.out
                    refine wpAnyM_take (i := 6) (v := ?vtz1166) hB rfl (by kernel_rfl) (fun _ _ _ h => h) (by rfl) ?ytz1166 hS ?ntz1166
                    case ytz1166 => (intro w9 hSw; obtain ⟨s1, _⟩ := hSw; go_simp; try with_reducible rfl)
                    refine wpAnyM_take (i := 7) (v := ?vtz1167) hB rfl (by kernel_rfl) (fun _ _ _ h => h) (by rfl) ?ytz1167 hS ?ntz1167
                    case ytz1167 => (intro w9 hSw; obtain ⟨s1, _⟩ := hSw; go_simp; try with_reducible rfl)
                    refine wpAnyM_take (i := 8) (v := ?vtz1168) hB rfl (by kernel_rfl) (fun _ _ _ h => h) (by rfl) ?ytz1168 hS ?ntz1168
                    case ytz1168 => (intro w9 hSw; obtain ⟨s1, _⟩ := hSw; go_simp; try with_reducible rfl)
                    clear hS
                    refine wpAnyM_one (i := 9) rfl (by kernel_rfl) rfl ?_
                    go_wp2_with fail
                    have HZZ : Hid (Box (y116W.alloc (.cells #[.slice none 0 0] 27)) y116W.heap.size (.slice none 0 0) 27) := Box.new _ _ _
                    have H6o := H6
                    have H6z := Lib.hid (H6.out.keep ((Grows.refl _).alloc (.cells #[.slice none 0 0] 27)))
                    clear H6
                    have H6 := H6z
                    clear H6z
                    have GGo := GG_116
                    have GG_117 : Hid (Grows w7 (y116W.alloc (.cells #[.slice none 0 0] 27))) := GG_116.out.alloc _
                    have HS_117 := Lib.hid (CellsAre.keep HS_116.out ((Grows.refl _).alloc (.cells #[.slice none 0 0] 27)))
                    have NZZ : Hid (w7.heap.size ≤ y116W.heap.size) := GG_116.out.size
                    clear HS_116 GG_116
                    refine ⟨HS_117.out, ?_⟩
                    refine wpAnyM_one (i := 10) rfl (by kernel_rfl) rfl ?_
                    have cZZ := HZZ.out.cell
                    have fZZ := HZZ.out.free
                    have lZZ := HZZ.out.lt
                    go_wp2_with fail
                    refine ⟨by first | exact CellsAre.keep HSB.out (GG_117.out.setCell NZZ.out _) | exact CellsAre.keep HSB.out (GGo.out.alloc _), ?_⟩
                    refine wpAnyM_tail (by kernel_rfl) ?_
                    clear hB HS_117 cZZ fZZ lZZ
                    go_wp2_with fail
                    go_meet
                    first | exact ⟨_, _, rfl, rfl, HZZ.out.set_ _, H6.out.setFar (apartBox H6.out HZZ.out) _, NZZ.out, GG_117.out.setCell NZZ.out _⟩ | exact ⟨_, _, rfl, rfl, Box.new _ _ _, H6o.out.keep ((Grows.refl _).alloc _), NZZ.out, GGo.out.alloc _⟩
                  · go_wp2_with fail
                    have HZZ : Hid (Box (y115W.alloc (.cells #[.slice none 0 0] 27)) y115W.heap.size (.slice none 0 0) 27) := Box.new _ _ _
                    have HSAz := Lib.hid (HSA.out.keep ((Grows.refl _).alloc (.cells #[.slice none 0 0] 27)))
                    clear HSA
                    have HSA := HSAz
                    clear HSAz
                    have GG_118 : Hid (Grows w7 (y115W.alloc (.cells #[.slice none 0 0] 27))) := GG_115.out.alloc _
                    have HS_118 := Lib.hid (CellsAre.keep HS_115.out ((Grows.refl _).alloc (.cells #[.slice none 0 0] 27)))
                    have NZZ : Hid (w7.heap.size ≤ y115W.heap.size) := GG_115.out.size
                    clear HS_115 GG_115
                    refine ⟨HS_118.out, ?_⟩
                    refine wpAnyM_one (i := 5) rfl (by kernel_rfl) rfl ?_
                    go_wp2_with fail
                    refine (HF2.out Aq cq _ HSA.out).mono ?_
                    rintro e y119W ⟨uu, rfl, huu, gg⟩
                    clear HSA
                    obtain ⟨A7, n7, c7, hv7⟩ := OwnE.form3 huu
                    subst hv7
                    have H6 : Hid (OwnE y119W w7.heap.size (.slice A7 n7 c7) F) := OwnE.less huu (by have h1 := GG_118.out.size; first | omega | exact h1 | (simp only [World.size_alloc] at *; omega))
                    clear huu
                    have HZZz := Lib.hid (HZZ.out.keep gg)
                    clear HZZ
                    have HZZ := HZZz
                    clear HZZz
                    have GG_119 : Hid (Grows w7 y119W) := GG_118.out.trans gg
                    have HS_119 := Lib.hid (CellsAre.keep HS_118.out gg)
                    clear gg HS_118 GG_118
                    go_wp2_with fail
                    refine ⟨HS_119.out, ?_⟩
                    have hS := HS_119.out
                    refine wpAnyM_take (i := 6) (v := ?vtz1196) hB rfl (by kernel_rfl) (fun _ _ _ h => h) (by rfl) ?ytz1196 hS ?ntz1196
                    case ytz1196 => (intro w9 hSw; obtain ⟨s1, _⟩ := hSw; go_simp; try with_reducible rfl)
                    refine wpAnyM_take (i := 7) (v := ?vtz1197) hB rfl (by kernel_rfl) (fun _ _ _ h => h) (by rfl) ?ytz1197 hS ?ntz1197
                    case ytz1197 => (intro w9 hSw; obtain ⟨s1, _⟩ := hSw; go_simp; try with_reducible rfl)
                    refine wpAnyM_take (i := 8) (v := ?vtz1198) hB rfl (by kernel_rfl) (fun _ _ _ h => h) (by rfl) ?ytz1198 hS ?ntz1198
                    case ytz1198 => (intro w9 hSw; obtain ⟨s1, _⟩ := hSw; go_simp; try with_reducible rfl)
                    clear hS
                    refine wpAnyM_one (i := 10) rfl (by kernel_rfl) rfl ?_
                    have cZZ := HZZ.out.cell
                    have fZZ := HZZ.out.free
                    have lZZ := HZZ.out.lt
                    go_wp2_with fail
                    refine ⟨by first | exact CellsAre.keep HSB.out (GG_119.out.setCell NZZ.out _), ?_⟩
                    refine wpAnyM_tail (by kernel_rfl) ?_
                    clear hB HS_119 cZZ fZZ lZZ
                    go_wp2_with fail
                    go_meet
                    exact ⟨_, _, rfl, rfl, HZZ.out.set_ _, H6.out.setFar (apartBox H6.out HZZ.out) _, NZZ.out, GG_119.out.setCell NZZ.out _⟩
                · go_wp2_with fail
                  have HZZ : Hid (Box (y114W.alloc (.cells #[.slice none 0 0] 27)) y114W.heap.size (.slice none 0 0) 27) := Box.new _ _ _
                  have HNE : Hid (y114W.heap.size ≠ g9) := Nat.ne_of_gt (show g9 < y114W.heap.size from (HR.out.lt g9 rfl).2)
                  have HRz := Lib.hid (HR.out.keep ((Grows.refl _).alloc (.cells #[.slice none 0 0] 27)))
                  clear HR
                  have HR := HRz
                  clear HRz
                  have GG_120 : Hid (Grows w7 (y114W.alloc (.cells #[.slice none 0 0] 27))) := GG_114.out.alloc _
                  have HS_120 := Lib.hid (CellsAre.keep HS_114.out ((Grows.refl _).alloc (.cells #[.slice none 0 0] 27)))
                  have NZZ : Hid (w7.heap.size ≤ y114W.heap.size) := GG_114.out.size
                  clear HS_114 GG_114
                  refine ⟨HS_120.out, ?_⟩
                  refine wpAnyM_one (i := 4) rfl (by kernel_rfl) rfl ?_
                  have HX := Lib.hid (O9_7.out.keep GG_120.out)
                  have HST := Lib.hid (S0_7.out.keep GG_120.out)
                  have hsz := GG_120.out.size
                  refine appTail rfl (.tmp 65) (.tmp 67) rfl _ g9 AO9 nO9 cO9 M (by simp [Act.eval]) HR.out _ HX.out _ g0 _ _ _ _ rest (some ⟨g0, 0, none⟩) 0 0 (by have h1 := HN0.out; have h3 := HM.out; omega) (fun h => absurd h (by omega)) (by simp [Act.eval]) HST.out h6 (Nat.le_of_lt (Nat.lt_of_le_of_lt (HR.out.lt _ rfl).1 (HR.out.lt _ rfl).2)) ?_
                  intro Aq cq y121W hSA hGB
                  have HZZz := Lib.hid (HZZ.out.far hGB.out (fun e => by injection e with e; exact HNE.out e.symm))
                  clear HZZ
                  have HZZ := HZZz
                  clear HZZz HNE
                  have GG_121 : Hid (Grows w7 y121W) := GG_120.out.mark hGB.out (fun x hx => by injection hx with hx; rw [← hx]; exact HBS.out)
                  have HS_121 := Lib.hid (CellsAre.keep HSB.out GG_121.out)
                  have HSA := hSA
                  clear hSA hGB HX HST hsz HR HS_120 GG_120
                  go_wp2_with fail
                  refine ⟨HS_121.out, ?_⟩
                  refine wpAnyM_one (i := 5) rfl (by kernel_rfl) rfl ?_
                  go_wp2_with fail
                  refine (HF2.out Aq cq _ HSA.out).mono ?_
                  rintro e y122W ⟨uu, rfl, huu, gg⟩
                  clear HSA
                  obtain ⟨A7, n7, c7, hv7⟩ := OwnE.form3 huu
                  subst hv7
                  have H6 : Hid (OwnE y122W w7.heap.size (.slice A7 n7 c7) F) := OwnE.less huu (by have h1 := GG_121.out.size; first | omega | exact h1 | (simp only [World.size_alloc] at *; omega))
                  clear huu
                  have HZZz := Lib.hid (HZZ.out.keep gg)
                  clear HZZ
                  have HZZ := HZZz
                  clear HZZz
                  have GG_122 : Hid (Grows w7 y122W) := GG_121.out.trans gg
                  have HS_122 := Lib.hid (CellsAre.keep HS_121.out gg)
                  clear gg HS_121 GG_121
                  go_wp2_with fail
                  refine ⟨HS_122.out, ?_⟩
                  have hS := HS_122.out
                  refine wpAnyM_take (i := 6) (v := ?vtz1226) hB rfl (by kernel_rfl) (fun _ _ _ h => h) (by rfl) ?ytz1226 hS ?ntz1226
                  case ytz1226 => (intro w9 hSw; obtain ⟨s1, _⟩ := hSw; go_simp; try with_reducible rfl)
                  refine wpAnyM_take (i := 7) (v := ?vtz1227) hB rfl (by kernel_rfl) (fun _ _ _ h => h) (by rfl) ?ytz1227 hS ?ntz1227
                  case ytz1227 => (intro w9 hSw; obtain ⟨s1, _⟩ := hSw; go_simp; try with_reducible rfl)
                  refine wpAnyM_take (i := 8) (v := ?vtz1228) hB rfl (by kernel_rfl) (fun _ _ _ h => h) (by rfl) ?ytz1228 hS ?ntz1228
                  case ytz1228 => (intro w9 hSw; obtain ⟨s1, _⟩ := hSw; go_simp; try with_reducible rfl)
                  clear hS
                  refine wpAnyM_one (i := 10) rfl (by kernel_rfl) rfl ?_
                  have cZZ := HZZ.out.cell
                  have fZZ := HZZ.out.free
                  have lZZ := HZZ.out.lt
                  go_wp2_with fail
                  refine ⟨by first | exact CellsAre.keep HSB.out (GG_122.out.setCell NZZ.out _), ?_⟩
                  refine wpAnyM_tail (by kernel_rfl) ?_
                  clear hB HS_122 cZZ fZZ lZZ
                  go_wp2_with fail
                  go_meet
                  exact ⟨_, _, rfl, rfl, HZZ.out.set_ _, H6.out.setFar (apartBox H6.out HZZ.out) _, NZZ.out, GG_122.out.setCell NZZ.out _⟩
              · go_wp2_with fail
                have HZZ : Hid (Box (w7.drew.alloc (.cells #[.slice none 0 0] 27)) w7.heap.size (.slice none 0 0) 27) := Box.new _ _ _
                have GG_123 : Hid (Grows w7 (w7.drew.alloc (.cells #[.slice none 0 0] 27))) := GG0.out.alloc _
                have HS_123 := Lib.hid (CellsAre.keep HS0.out ((Grows.refl _).alloc (.cells #[.slice none 0 0] 27)))
                have NZZ : Hid (w7.heap.size ≤ w7.heap.size) := GG0.out.size
                clear HS0 GG0
                refine ⟨HS_123.out, ?_⟩
                refine wpAnyM_one (i := 1) rfl (by kernel_rfl) rfl ?_
                go_wp2_with fail
                refine (oneF_any AO9 nO9 cO9 _).mono ?_
                rintro e y124W ⟨g9, rfl, hr, gg⟩
                have HR := Lib.hid hr
                have HBS : Hid (w7.heap.size ≤ g9) := Nat.le_trans GG_123.out.size (hr.lt g9 rfl).1
                have HNE : Hid (w7.heap.size ≠ g9) := Nat.ne_of_lt (Nat.lt_of_lt_of_le HZZ.out.lt (hr.lt g9 rfl).1)
                have HZZz := Lib.hid (HZZ.out.keep gg)
                clear HZZ
                have HZZ := HZZz
                clear HZZz
                have GG_124 : Hid (Grows w7 y124W) := GG_123.out.trans gg
                have HS_124 := Lib.hid (CellsAre.keep HS_123.out gg)
                clear hr gg HS_123 GG_123
                go_wp2_with fail
                refine ⟨HS_124.out, ?_⟩
                refine wpAnyM_one (i := 4) rfl (by kernel_rfl) rfl ?_
                have HX := Lib.hid (O9_7.out.keep GG_124.out)
                have HST := Lib.hid (S0_7.out.keep GG_124.out)
                have hsz := GG_124.out.size
                refine appTail rfl (.tmp 65) (.tmp 67) rfl _ g9 AO9 nO9 cO9 M (by simp [Act.eval]) HR.out _ HX.out _ g0 _ _ _ _ rest (some ⟨g0, 0, none⟩) 0 0 (by have h1 := HN0.out; have h3 := HM.out; omega) (fun h => absurd h (by omega)) (by simp [Act.eval]) HST.out h6 (Nat.le_of_lt (Nat.lt_of_le_of_lt (HR.out.lt _ rfl).1 (HR.out.lt _ rfl).2)) ?_
                intro Aq cq y125W hSA hGB
                have HZZz := Lib.hid (HZZ.out.far hGB.out (fun e => by injection e with e; exact HNE.out e.symm))
                clear HZZ
                have HZZ := HZZz
                clear HZZz HNE
                have GG_125 : Hid (Grows w7 y125W) := GG_124.out.mark hGB.out (fun x hx => by injection hx with hx; rw [← hx]; exact HBS.out)
                have HS_125 := Lib.hid (CellsAre.keep HSB.out GG_125.out)
                have HSA := hSA
                clear hSA hGB HX HST hsz HR HS_124 GG_124
                go_wp2_with fail
                refine ⟨HS_125.out, ?_⟩
                refine wpAnyM_one (i := 5) rfl (by kernel_rfl) rfl ?_
                go_wp2_with fail
                refine (HF2.out Aq cq _ HSA.out).mono ?_
                rintro e y126W ⟨uu, rfl, huu, gg⟩
                clear HSA
                obtain ⟨A7, n7, c7, hv7⟩ := OwnE.form3 huu
                subst hv7
                have H6 : Hid (OwnE y126W w7.heap.size (.slice A7 n7 c7) F) := OwnE.less huu (by have h1 := GG_125.out.size; first | omega | exact h1 | (simp only [World.size_alloc] at *; omega))
                clear huu
                have HZZz := Lib.hid (HZZ.out.keep gg)
                clear HZZ
                have HZZ := HZZz
                clear HZZz
                have GG_126 : Hid (Grows w7 y126W) := GG_125.out.trans gg
                have HS_126 := Lib.hid (CellsAre.keep HS_125.out gg)
                clear gg HS_125 GG_125
                go_wp2_with fail
                refine ⟨HS_126.out, ?_⟩
                have hS := HS_126.out
                refine wpAnyM_take (i := 6) (v := ?vtz1266) hB rfl (by kernel_rfl) (fun _ _ _ h => h) (by rfl) ?ytz1266 hS ?ntz1266
                case ytz1266 => (intro w9 hSw; obtain ⟨s1, _⟩ := hSw; go_simp; try with_reducible rfl)
                refine wpAnyM_take (i := 7) (v := ?vtz1267) hB rfl (by kernel_rfl) (fun _ _ _ h => h) (by rfl) ?ytz1267 hS ?ntz1267
                case ytz1267 => (intro w9 hSw; obtain ⟨s1, _⟩ := hSw; go_simp; try with_reducible rfl)
                refine wpAnyM_take (i := 8) (v := ?vtz1268) hB rfl (by kernel_rfl) (fun _ _ _ h => h) (by rfl) ?ytz1268 hS ?ntz1268
                case ytz1268 => (intro w9 hSw; obtain ⟨s1, _⟩ := hSw; go_simp; try with_reducible rfl)
                clear hS
                refine wpAnyM_one (i := 10) rfl (by kernel_rfl) rfl ?_
                have cZZ := HZZ.out.cell
                have fZZ := HZZ.out.free
                have lZZ := HZZ.out.lt
                go_wp2_with fail
                refine ⟨by first | exact CellsAre.keep HSB.out (GG_126.out.setCell NZZ.out _), ?_⟩
                refine wpAnyM_tail (by kernel_rfl) ?_
                clear hB HS_126 cZZ fZZ lZZ
                go_wp2_with fail
                go_meet
                exact ⟨_, _, rfl, rfl, HZZ.out.set_ _, H6.out.setFar (apartBox H6.out HZZ.out) _, NZZ.out, GG_126.out.setCell NZZ.out _⟩
            · have hc3 : ¬ 2 = c0 := fun e => hc2 e.symm
              have hc4 : ((c0 : Int) == 2) = false := by rw [beq_eq_false_iff_ne]; omega
              refine wpAnyM_take (i := 0) (v := ?vtc0) hB rfl (by kernel_rfl) (fun _ _ _ h => h) (by rfl) ?ytc0 hS ?ntc0
              case ytc0 => (intro w9 hSw; obtain ⟨s1, _⟩ := hSw; go_simp; try with_reducible rfl)
              refine wpAnyM_take (i := 2) (v := ?vtc2) hB rfl (by kernel_rfl) (fun _ _ _ h => h) (by rfl) ?ytc2 hS ?ntc2
              case ytc2 => (intro w9 hSw; obtain ⟨s1, _⟩ := hSw; go_simp; try with_reducible rfl)
              refine wpAnyM_take (i := 3) (v := ?vtc3) hB rfl (by kernel_rfl) (fun _ _ _ h => h) (by rfl) ?ytc3 hS ?ntc3
              case ytc3 => (intro w9 hSw; obtain ⟨s1, _⟩ := hSw; go_simp; try with_reducible rfl)
              have HSB : Hid (CellsAre [(⟨bX, 0, none⟩, (.slice AO9 nO9 cO9))] w7) := ⟨cX9, trivial⟩
              have HS0 := Lib.hid hS
              clear hS cX9
              have GG0 : Hid (Grows w7 w7.drew) := (Grows.refl _).drew
              refine wpAnyM_two (i := 1) (j := 9) rfl rfl (by kernel_rfl) rfl rfl ?_ ?_
              · go_wp2_with fail
                refine (oneF_any AO9 nO9 cO9 _).mono ?_
                rintro e y101W ⟨g9, rfl, hr, gg⟩
                have HR := Lib.hid hr
                have HBS : Hid (w7.heap.size ≤ g9) := Nat.le_trans GG0.out.size (hr.lt g9 rfl).1
                have GG_101 : Hid (Grows w7 y101W) := GG0.out.trans gg
                have HS_101 := Lib.hid (CellsAre.keep HS0.out gg)
                clear hr gg HS0 GG0
                go_wp2_with fail
                refine ⟨HS_101.out, ?_⟩
                refine wpAnyM_two (i := 4) (j := 9) rfl rfl (by kernel_rfl) rfl rfl ?_ ?_
                · have HX := Lib.hid (O9_7.out.keep GG_101.out)
                  have HST := Lib.hid (S0_7.out.keep GG_101.out)
                  have hsz := GG_101.out.size
                  refine appTail rfl (.tmp 65) (.tmp 67) rfl _ g9 AO9 nO9 cO9 M (by simp [Act.eval]) HR.out _ HX.out _ g0 _ _ _ _ rest (some ⟨g0, 2, none⟩) (n0 - 2) (c0 - 2) (by have h1 := HN0.out; have h3 := HM.out; omega) (fun _ => rfl) (by simp [Act.eval]) HST.out h6 (Nat.le_of_lt (Nat.lt_of_le_of_lt (HR.out.lt _ rfl).1 (HR.out.lt _ rfl).2)) ?_
                  intro Aq cq y102W hSA hGB
                  have GG_102 : Hid (Grows w7 y102W) := GG_101.out.mark hGB.out (fun x hx => by injection hx with hx; rw [← hx]; exact HBS.out)
                  have HS_102 := Lib.hid (CellsAre.keep HSB.out GG_102.out)
                  have HSA := hSA
                  clear hSA hGB HX HST hsz HR HS_101 GG_101
                  go_wp2_with fail
                  refine ⟨HS_102.out, ?_⟩
                  refine wpAnyM_two (i := 5) (j := 9) rfl rfl (by kernel_rfl) rfl rfl ?_ ?_
                  · go_wp2_with fail
                    refine (HF2.out Aq cq _ HSA.out).mono ?_
                    rintro e y103W ⟨uu, rfl, huu, gg⟩
                    clear HSA
                    obtain ⟨A7, n7, c7, hv7⟩ := OwnE.form3 huu
                    subst hv7
                    have H6 : Hid (OwnE y103W w7.heap.size (.slice A7 n7 c7) F) := OwnE.less huu (by have h1 := GG_102.out.size; first | omega | exact h1 | (simp only [World.size_alloc] at *; omega))
                    clear huu
                    have GG_103 : Hid (Grows w7 y103W) := GG_102.out.trans gg
                    have HS_103 := Lib.hid (CellsAre.keep HS_102.out gg)
                    clear gg HS_102 GG_102
                    go_wp2_with fail
                    refine ⟨HS_103.out, ?_⟩
                    have hS := HS_103.out
                    refine wpAnyM_take (i := 6) (v := ?vtz1036) hB rfl (by kernel_rfl) (fun _ _ _ h => h) (by rfl) ?ytz1036 hS ?ntz1036
                    case ytz1036 => (intro w9 hSw; obtain ⟨s1, _⟩ := hSw; go_simp; try with_reducible rfl)
                    refine wpAnyM_take (i := 7) (v := ?vtz1037) hB rfl (by kernel_rfl) (fun _ _ _ h => h) (by rfl) ?ytz1037 hS ?ntz1037
                    case ytz1037 => (intro w9 hSw; obtain ⟨s1, _⟩ := hSw; go_simp; try with_reducible rfl)
                    refine wpAnyM_take (i := 8) (v := ?vtz1038) hB rfl (by kernel_rfl) (fun _ _ _ h => h) (by rfl) ?ytz1038 hS ?ntz1038
                    case ytz1038 => (intro w9 hSw; obtain ⟨s1, _⟩ := hSw; go_simp; try with_reducible rfl)
                    clear hS
                    refine wpAnyM_one (i := 9) rfl (by kernel_rfl) rfl ?_
                    go_wp2_with fail
                    have HZZ : Hid (Box (y103W.alloc (.cells #[.slice none 0 0] 27)) y103W.heap.size (.slice none 0 0) 27) := Box.new _ _ _
                    have H6o := H6
                    have H6z := Lib.hid (H6.out.keep ((Grows.refl _).alloc (.cells #[.slice none 0 0] 27)))
                    clear H6
                    have H6 := H6z
                    clear H6z
                    have GGo := GG_103
                    have GG_104 : Hid (Grows w7 (y103W.alloc (.cells #[.slice none 0 0] 27))) := GG_103.out.alloc _
                    have HS_104 := Lib.hid (CellsAre.keep HS_103.out ((Grows.refl _).alloc (.cells #[.slice none 0 0] 27)))
                    have NZZ : Hid (w7.heap.size ≤ y103W.heap.size) := GG_103.out.size
                    clear HS_103 GG_103
                    refine ⟨HS_104.out, ?_⟩
                    refine wpAnyM_one (i := 10) rfl (by kernel_rfl) rfl ?_
                    have cZZ := HZZ.out.cell
                    have fZZ := HZZ.out.free
                    have lZZ := HZZ.out.lt
                    go_wp2_with fail
                    refine ⟨by first | exact CellsAre.keep HSB.out (GG_104.out.setCell NZZ.out _) | exact CellsAre.keep HSB.out (GGo.out.alloc _), ?_⟩
                    refine wpAnyM_tail (by kernel_rfl) ?_
                    clear hB HS_104 cZZ fZZ lZZ
                    go_wp2_with fail
                    go_meet
                    first | exact ⟨_, _, rfl, rfl, HZZ.out.set_ _, H6.out.setFar (apartBox H6.out HZZ.out) _, NZZ.out, GG_104.out.setCell NZZ.out _⟩ | exact ⟨_, _, rfl, rfl, Box.new _ _ _, H6o.out.keep ((Grows.refl _).alloc _), NZZ.out, GGo.out.alloc _⟩
                  · go_wp2_with fail
                    have HZZ : Hid (Box (y102W.alloc (.cells #[.slice none 0 0] 27)) y102W.heap.size (.slice none 0 0) 27) := Box.new _ _ _
                    have HSAz := Lib.hid (HSA.out.keep ((Grows.refl _).alloc (.cells #[.slice none 0 0] 27)))
                    clear HSA
                    have HSA := HSAz
                    clear HSAz
                    have GG_105 : Hid (Grows w7 (y102W.alloc (.cells #[.slice none 0 0] 27))) := GG_102.out.alloc _
                    have HS_105 := Lib.hid (CellsAre.keep HS_102.out ((Grows.refl _).alloc (.cells #[.slice none 0 0] 27)))
                    have NZZ : Hid (w7.heap.size ≤ y102W.heap.size) := GG_102.out.size
                    clear HS_102 GG_102
                    refine ⟨HS_105.out, ?_⟩
                    refine wpAnyM_one (i := 5) rfl (by kernel_rfl) rfl ?_
                    go_wp2_with fail
                    refine (HF2.out Aq cq _ HSA.out).mono ?_
                    rintro e y106W ⟨uu, rfl, huu, gg⟩
                    clear HSA
                    obtain ⟨A7, n7, c7, hv7⟩ := OwnE.form3 huu
                    subst hv7
                    have H6 : Hid (OwnE y106W w7.heap.size (.slice A7 n7 c7) F) := OwnE.less huu (by have h1 := GG_105.out.size; first | omega | exact h1 | (simp only [World.size_alloc] at *; omega))
                    clear huu
                    have HZZz := Lib.hid (HZZ.out.keep gg)
                    clear HZZ
                    have HZZ := HZZz
                    clear HZZz
                    have GG_106 : Hid (Grows w7 y106W) := GG_105.out.trans gg
                    have HS_106 := Lib.hid (CellsAre.keep HS_105.out gg)
                    clear gg HS_105 GG_105
                    go_wp2_with fail
                    refine ⟨HS_106.out, ?_⟩
                    have hS := HS_106.out
                    refine wpAnyM_take (i := 6) (v := ?vtz1066) hB rfl (by kernel_rfl) (fun _ _ _ h => h) (by rfl) ?ytz1066 hS ?ntz1066
                    case ytz1066 => (intro w9 hSw; obtain ⟨s1, _⟩ := hSw; go_simp; try with_reducible rfl)
                    refine wpAnyM_take (i := 7) (v := ?vtz1067) hB rfl (by kernel_rfl) (fun _ _ _ h => h) (by rfl) ?ytz1067 hS ?ntz1067
                    case ytz1067 => (intro w9 hSw; obtain ⟨s1, _⟩ := hSw; go_simp; try with_reducible rfl)
                    refine wpAnyM_take (i := 8) (v := ?vtz1068) hB rfl (by kernel_rfl) (fun _ _ _ h => h) (by rfl) ?ytz1068 hS ?ntz1068
                    case ytz1068 => (intro w9 hSw; obtain ⟨s1, _⟩ := hSw; go_simp; try with_reducible rfl)
                    clear hS
                    refine wpAnyM_one (i := 10) rfl (by kernel_rfl) rfl ?_
                    have cZZ := HZZ.out.cell
                    have fZZ := HZZ.out.free
                    have lZZ := HZZ.out.lt
                    go_wp2_with fail
                    refine ⟨by first | exact CellsAre.keep HSB.out (GG_106.out.setCell NZZ.out _), ?_⟩
                    refine wpAnyM_tail (by kernel_rfl) ?_
                    clear hB HS_106 cZZ fZZ lZZ
                    go_wp2_with fail
                    go_meet
                    exact ⟨_, _, rfl, rfl, HZZ.out.set_ _, H6.out.setFar (apartBox H6.out HZZ.out) _, NZZ.out, GG_106.out.setCell NZZ.out _⟩
                · go_wp2_with fail
                  have HZZ : Hid (Box (y101W.alloc (.cells #[.slice none 0 0] 27)) y101W.heap.size (.slice none 0 0) 27) := Box.new _ _ _
                  have HNE : Hid (y101W.heap.size ≠ g9) := Nat.ne_of_gt (show g9 < y101W.heap.size from (HR.out.lt g9 rfl).2)
                  have HRz := Lib.hid (HR.out.keep ((Grows.refl _).alloc (.cells #[.slice none 0 0] 27)))
                  clear HR
                  have HR := HRz
                  clear HRz
                  have GG_107 : Hid (Grows w7 (y101W.alloc (.cells #[.slice none 0 0] 27))) := GG_101.out.alloc _
                  have HS_107 := Lib.hid (CellsAre.keep HS_101.out ((Grows.refl _).alloc (.cells #[.slice none 0 0] 27)))
                  have NZZ : Hid (w7.heap.size ≤ y101W.heap.size) := GG_101.out.size
                  clear HS_101 GG_101
                  refine ⟨HS_107.out, ?_⟩
                  refine wpAnyM_one (i := 4) rfl (by kernel_rfl) rfl ?_
                  have HX := Lib.hid (O9_7.out.keep GG_107.out)
                  have HST := Lib.hid (S0_7.out.keep GG_107.out)
                  have hsz := GG_107.out.size
                  refine appTail rfl (.tmp 65) (.tmp 67) rfl _ g9 AO9 nO9 cO9 M (by simp [Act.eval]) HR.out _ HX.out _ g0 _ _ _ _ rest (some ⟨g0, 2, none⟩) (n0 - 2) (c0 - 2) (by have h1 := HN0.out; have h3 := HM.out; omega) (fun _ => rfl) (by simp [Act.eval]) HST.out h6 (Nat.le_of_lt (Nat.lt_of_le_of_lt (HR.out.lt _ rfl).1 (HR.out.lt _ rfl).2)) ?_
                  intro Aq cq y108W hSA hGB
                  have HZZz := Lib.hid (HZZ.out.far hGB.out (fun e => by injection e with e; exact HNE.out e.symm))
                  clear HZZ
                  have HZZ := HZZz
                  clear HZZz HNE
                  have GG_108 : Hid (Grows w7 y108W) := GG_107.out.mark hGB.out (fun x hx => by injection hx with hx; rw [← hx]; exact HBS.out)
                  have HS_108 := Lib.hid (CellsAre.keep HSB.out GG_108.out)
                  have HSA := hSA
                  clear hSA hGB HX HST hsz HR HS_107 GG_107
                  go_wp2_with fail
                  refine ⟨HS_108.out, ?_⟩
                  refine wpAnyM_one (i := 5) rfl (by kernel_rfl) rfl ?_
                  go_wp2_with fail
                  refine (HF2.out Aq cq _ HSA.out).mono ?_
                  rintro e y109W ⟨uu, rfl, huu, gg⟩
                  clear HSA
                  obtain ⟨A7, n7, c7, hv7⟩ := OwnE.form3 huu
                  subst hv7
                  have H6 : Hid (OwnE y109W w7.heap.size (.slice A7 n7 c7) F) := OwnE.less huu (by have h1 := GG_108.out.size; first | omega | exact h1 | (simp only [World.size_alloc] at *; omega))
                  clear huu
                  have HZZz := Lib.hid (HZZ.out.keep gg)
                  clear HZZ
                  have HZZ := HZZz
                  clear HZZz
                  have GG_109 : Hid (Grows w7 y109W) := GG_108.out.trans gg
                  have HS_109 := Lib.hid (CellsAre.keep HS_108.out gg)
                  clear gg HS_108 GG_108
                  go_wp2_with fail
                  refine ⟨HS_109.out, ?_⟩
                  have hS := HS_109.out
                  refine wpAnyM_take (i := 6) (v := ?vtz1096) hB rfl (by kernel_rfl) (fun _ _ _ h => h) (by rfl) ?ytz1096 hS ?ntz1096
                  case ytz1096 => (intro w9 hSw; obtain ⟨s1, _⟩ := hSw; go_simp; try with_reducible rfl)
                  refine wpAnyM_take (i := 7) (v := ?vtz1097) hB rfl (by kernel_rfl) (fun _ _ _ h => h) (by rfl) ?ytz1097 hS ?ntz1097
                  case ytz1097 => (intro w9 hSw; obtain ⟨s1, _⟩ := hSw; go_simp; try with_reducible rfl)
                  refine wpAnyM_take (i := 8) (v := ?vtz1098) hB rfl (by kernel_rfl) (fun _ _ _ h => h) (by rfl) ?ytz1098 hS ?ntz1098
                  case ytz1098 => (intro w9 hSw; obtain ⟨s1, _⟩ := hSw; go_simp; try with_reducible rfl)
                  clear hS
                  refine wpAnyM_one (i := 10) rfl (by kernel_rfl) rfl ?_
                  have cZZ := HZZ.out.cell
                  have fZZ := HZZ.out.free
                  have lZZ := HZZ.out.lt
                  go_wp2_with fail
                  refine ⟨by first | exact CellsAre.keep HSB.out (GG_109.out.setCell NZZ.out _), ?_⟩
                  refine wpAnyM_tail (by kernel_rfl) ?_
                  clear hB HS_109 cZZ fZZ lZZ
                  go_wp2_with fail
                  go_meet
                  exact ⟨_, _, rfl, rfl, HZZ.out.set_ _, H6.out.setFar (apartBox H6.out HZZ.out) _, NZZ.out, GG_109.out.setCell NZZ.out _⟩
              · go_wp2_with fail
                have HZZ : Hid (Box (w7.drew.alloc (.cells #[.slice none 0 0] 27)) w7.heap.size (.slice none 0 0) 27) := Box.new _ _ _
                have GG_110 : Hid (Grows w7 (w7.drew.alloc (.cells #[.slice none 0 0] 27))) := GG0.out.alloc _
                have HS_110 := Lib.hid (CellsAre.keep HS0.out ((Grows.refl _).alloc (.cells #[.slice none 0 0] 27)))
                have NZZ : Hid (w7.heap.size ≤ w7.heap.size) := GG0.out.size
                clear HS0 GG0
                refine ⟨HS_110.out, ?_⟩
                refine wpAnyM_one (i := 1) rfl (by kernel_rfl) rfl ?_
                go_wp2_with fail
                refine (oneF_any AO9 nO9 cO9 _).mono ?_
                rintro e y111W ⟨g9, rfl, hr, gg⟩
                have HR := Lib.hid hr
                have HBS : Hid (w7.heap.size ≤ g9) := Nat.le_trans GG_110.out.size (hr.lt g9 rfl).1
                have HNE : Hid (w7.heap.size ≠ g9) := Nat.ne_of_lt (Nat.lt_of_lt_of_le HZZ.out.lt (hr.lt g9 rfl).1)
                have HZZz := Lib.hid (HZZ.out.keep gg)
                clear HZZ
                have HZZ := HZZz
                clear HZZz
                have GG_111 : Hid (Grows w7 y111W) := GG_110.out.trans gg
                have HS_111 := Lib.hid (CellsAre.keep HS_110.out gg)
                clear hr gg HS_110 GG_110
                go_wp2_with fail
                refine ⟨HS_111.out, ?_⟩
                refine wpAnyM_one (i := 4) rfl (by kernel_rfl) rfl ?_
                have HX := Lib.hid (O9_7.out.keep GG_111.out)
                have HST := Lib.hid (S0_7.out.keep GG_111.out)
                have hsz := GG_111.out.size
                refine appTail rfl (.tmp 65) (.tmp 67) rfl _ g9 AO9 nO9 cO9 M (by simp [Act.eval]) HR.out _ HX.out _ g0 _ _ _ _ rest (some ⟨g0, 2, none⟩) (n0 - 2) (c0 - 2) (by have h1 := HN0.out; have h3 := HM.out; omega) (fun _ => rfl) (by simp [Act.eval]) HST.out h6 (Nat.le_of_lt (Nat.lt_of_le_of_lt (HR.out.lt _ rfl).1 (HR.out.lt _ rfl).2)) ?_
                intro Aq cq y112W hSA hGB
                have HZZz := Lib.hid (HZZ.out.far hGB.out (fun e => by injection e with e; exact HNE.out e.symm))
                clear HZZ
                have HZZ := HZZz
                clear HZZz HNE
                have GG_112 : Hid (Grows w7 y112W) := GG_111.out.mark hGB.out (fun x hx => by injection hx with hx; rw [← hx]; exact HBS.out)
                have HS_112 := Lib.hid (CellsAre.keep HSB.out GG_112.out)
                have HSA := hSA
                clear hSA hGB HX HST hsz HR HS_111 GG_111
                go_wp2_with fail
                refine ⟨HS_112.out, ?_⟩
                refine wpAnyM_one (i := 5) rfl (by kernel_rfl) rfl ?_
                go_wp2_with fail
                refine (HF2.out Aq cq _ HSA.out).mono ?_
                rintro e y113W ⟨uu, rfl, huu, gg⟩
                clear HSA
                obtain ⟨A7, n7, c7, hv7⟩ := OwnE.form3 huu
                subst hv7
                have H6 : Hid (OwnE y113W w7.heap.size (.slice A7 n7 c7) F) := OwnE.less huu (by have h1 := GG_112.out.size; first | omega | exact h1 | (simp only [World.size_alloc] at *; omega))
                clear huu
                have HZZz := Lib.hid (HZZ.out.keep gg)
                clear HZZ
                have HZZ := HZZz
                clear HZZz
                have GG_113 : Hid (Grows w7 y113W) := GG_112.out.trans gg
                have HS_113 := Lib.hid (CellsAre.keep HS_112.out gg)
                clear gg HS_112 GG_112
                go_wp2_with fail
                refine ⟨HS_113.out, ?_⟩
                have hS := HS_113.out
                refine wpAnyM_take (i := 6) (v := ?vtz1136) hB rfl (by kernel_rfl) (fun _ _ _ h => h) (by rfl) ?ytz1136 hS ?ntz1136
                case ytz1136 => (intro w9 hSw; obtain ⟨s1, _⟩ := hSw; go_simp; try with_reducible rfl)
                refine wpAnyM_take (i := 7) (v := ?vtz1137) hB rfl (by kernel_rfl) (fun _ _ _ h => h) (by rfl) ?ytz1137 hS ?ntz1137
                case ytz1137 => (intro w9 hSw; obtain ⟨s1, _⟩ := hSw; go_simp; try with_reducible rfl)
                refine wpAnyM_take (i := 8) (v := ?vtz1138) hB rfl (by kernel_rfl) (fun _ _ _ h => h) (by rfl) ?ytz1138 hS ?ntz1138
                case ytz1138 => (intro w9 hSw; obtain ⟨s1, _⟩ := hSw; go_simp; try with_reducible rfl)
                clear hS
                refine wpAnyM_one (i := 10) rfl (by kernel_rfl) rfl ?_
                have cZZ := HZZ.out.cell
                have fZZ := HZZ.out.free
                have lZZ := HZZ.out.lt
                go_wp2_with fail
                refine ⟨by first | exact CellsAre.keep HSB.out (GG_113.out.setCell NZZ.out _), ?_⟩
                refine wpAnyM_tail (by kernel_rfl) ?_
                clear hB HS_113 cZZ fZZ lZZ
                go_wp2_with fail
                go_meet
                exact ⟨_, _, rfl, rfl, HZZ.out.set_ _, H6.out.setFar (apartBox H6.out HZZ.out) _, NZZ.out, GG_113.out.setCell NZZ.out _⟩
          case rest =>
          obtain ⟨bY, vY, rfl, rfl, HBX, HOX, HNX, HGX⟩ := hcut
          obtain ⟨w8, hwd⟩ : ∃ x, wc = x := ⟨_, rfl⟩
          rw [hwd] at HBX HOX HGX ⊢
          clear hwd
          have gq := HGX.out
          have T8 : Hid (Grows w1 w8) := T7.out.trans gq
          have S0_8 := Lib.hid (S0_7.out.keep gq)
          have O4_8 := Lib.hid (O4_7.out.keep gq)
          have X5_8 := Lib.hid (X5_7.out.keep gq)
          have U0_8 := Lib.hid (U0_7.out.keep gq)
          have U1_8 := Lib.hid (U1_7.out.keep gq)
          have X9_8 := Lib.hid (X9_7.out.keep gq)
          have O9_8 := Lib.hid (O9_7.out.keep gq)
          clear S0_7 O4_7 X5_7 U0_7 U1_7 X9_7 O9_7 T7
          clear gq HGX HNX
          have X11_8 := Lib.hid HBX.out
          clear HBX
          obtain ⟨AO11, nO11, cO11, hu'⟩ := OwnE.form3 HOX.out
          subst hu'
          have O11_8 := Lib.hid HOX.out
          clear HOX
          have cX11 := X11_8.out.cell
          have cX5 := X5_8.out.cell
          go_wp2_with fail
          refine (HSM.out _ _ _ _ _ O11_8.out O4_8.out).mono ?_
          rintro e w9 ⟨rfl, gq⟩
          clear cX11
          clear cX5
          have T9 : Hid (Grows w1 w9) := T8.out.trans gq
          have S0_9 := Lib.hid (S0_8.out.keep gq)
          have O4_9 := Lib.hid (O4_8.out.keep gq)
          have X5_9 := Lib.hid (X5_8.out.keep gq)
          have U0_9 := Lib.hid (U0_8.out.keep gq)
          have U1_9 := Lib.hid (U1_8.out.keep gq)
          have X9_9 := Lib.hid (X9_8.out.keep gq)
          have O9_9 := Lib.hid (O9_8.out.keep gq)
          have X11_9 := Lib.hid (X11_8.out.keep gq)
          have O11_9 := Lib.hid (O11_8.out.keep gq)
          clear S0_8 O4_8 X5_8 U0_8 U1_8 X9_8 O9_8 X11_8 O11_8 T8
          clear gq
          go_wp2
          go_ret
          exact ⟨rfl, (HG1.out.trans T9.out).below⟩
end Go.Proofs.YtddecipodofliaaDoor
