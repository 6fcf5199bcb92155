/-
  The drawn law of Resolve with the arguments that it generates: whatever its bytes, it returns true. Condition: no more bytes than a slice may have.
-/
import Derived.Test.YtoicohheoddfjaaDoorStkG
import Derived.Test.YtoicohheoddfjaaDoorOneL
import Derived.Test.YtoicohheoddfjaaDoorLawVL
namespace Go.Proofs.YtoicohheoddfjaaDoor
open Go.RowKit

theorem foldT_none (s k : ByteArray) : ∀ (es : List Ent) (V : PV), (es.any fun x => x.of s k) = false → foldV es V s k = V s k := by
  intro es
  induction es with
  | nil => intro V _; rfl
  | cons e t ih =>
    intro V h
    rw [List.any_cons, Bool.or_eq_false_iff] at h
    have h1 : foldV (e :: t) V = foldV t (layV V e) := rfl
    rw [h1, ih _ h.2]
    unfold layV
    rw [if_neg (by rw [h.1]; simp)]
def topL (s k : ByteArray) : List Ent := [⟨s, k, 0, ⟨#[116, 111, 112]⟩⟩]
def dropL (s k : ByteArray) : List Ent := [⟨s, k, 1, ⟨#[]⟩⟩]
def moreL (s k : ByteArray) : List Ent := [⟨s, k, 2, ⟨#[109, 111, 114, 101]⟩⟩]
theorem of_here (s k : ByteArray) (o : Int) (v : ByteArray) : (⟨s, k, o, v⟩ : Ent).of s k = true := (of_iff _ s k).2 ⟨rfl, rfl⟩
theorem told_top {x : Ent} (sl : List (List Ent)) {s k : ByteArray} (h : x.of s k = true) : toldV ([x] :: sl) s k = stepV (toldV sl s k) x := by
  unfold toldV
  rw [allE_cons, foldV_snoc]
  unfold layV
  rw [if_pos h]
theorem told_none (sl : List (List Ent)) (s k : ByteArray) : toldV ([] :: sl) s k = toldV sl s k := by
  unfold toldV
  rw [allE_cons, List.append_nil]
theorem told_place {sl : List (List Ent)} (hv : vstack sl = true) {s k v : ByteArray} (h : toldV sl s k = some v) : vplace s k = true := by
  by_cases ha : ((allE sl).any fun x => x.of s k) = true
  · obtain ⟨e, he, h1⟩ := List.any_eq_true.1 ha
    have h2 := allE_vent (vstack_all hv) e he
    obtain ⟨h3, h4⟩ := (of_iff e s k).1 h1
    unfold vent at h2
    rw [Bool.and_eq_true] at h2
    rw [← h3, ← h4]
    exact h2.1
  · have ha' : ((allE sl).any fun x => x.of s k) = false := by simpa using ha
    unfold toldV at h
    rw [foldT_none s k _ _ ha'] at h
    cases h
theorem vlayer_sing {e : Ent} (h : vent e = true) : vlayer [e] = true := by
  unfold vlayer okE
  simp [h, distE]
theorem vstack_cons {x : List Ent} {sl : List (List Ent)} (h1 : vlayer x = true) (h2 : vstack sl = true) (h3 : sl.length ≤ 4) : vstack (x :: sl) = true := by
  unfold vstack at h2 ⊢
  rw [Bool.and_eq_true] at h2 ⊢
  refine ⟨by rw [List.all_cons, h1, h2.1]; rfl, ?_⟩
  rw [decide_eq_true_iff, List.length_cons]
  omega
theorem more_app (l : ByteArray) : l ++ (⟨#[44]⟩ : ByteArray) ++ (⟨#[109, 111, 114, 101]⟩ : ByteArray) = l ++ ⟨#[44, 109, 111, 114, 101]⟩ := by
  rw [ByteArray.append_assoc]
  rfl
theorem tops {sl : List (List Ent)} {s k : ByteArray} (hb : tellB sl s k = true) (h4 : sl.length ≤ 4) :
    (tellS (topL s k :: sl) s k = ⟨#[116, 111, 112]⟩ ∧ tellB (topL s k :: sl) s k = true) ∧ (tellS (dropL s k :: sl) s k = ⟨#[]⟩ ∧ tellB (dropL s k :: sl) s k = false) ∧ (tellS (moreL s k :: sl) s k = tellS sl s k ++ ⟨#[44, 109, 111, 114, 101]⟩ ∧ tellB (moreL s k :: sl) s k = true) ∧ (tellS ([] :: sl) s k = tellS sl s k ∧ tellB ([] :: sl) s k = true) := by
  have hv : vstack sl = true := by unfold tellB at hb; rw [Bool.and_eq_true] at hb; exact hb.1
  obtain ⟨t1, t2⟩ := tell_yes hv s k
  rw [t2, Option.isSome_iff_exists] at hb
  obtain ⟨v, hb⟩ := hb
  have hp := told_place hv hb
  have e1 : vent ⟨s, k, 0, ⟨#[116, 111, 112]⟩⟩ = true := by
    unfold vent
    rw [Bool.and_eq_true]
    exact ⟨hp, by show (opB 0 && (vvalue (⟨#[116, 111, 112]⟩ : ByteArray) && (!decide ((0 : Int) = 1) || ((⟨#[116, 111, 112]⟩ : ByteArray).toList == [])))) = true; decide +kernel⟩
  have e2 : vent ⟨s, k, 1, ⟨#[]⟩⟩ = true := by
    unfold vent
    rw [Bool.and_eq_true]
    exact ⟨hp, by show (opB 1 && (vvalue (⟨#[]⟩ : ByteArray) && (!decide ((1 : Int) = 1) || ((⟨#[]⟩ : ByteArray).toList == [])))) = true; decide +kernel⟩
  have e3 : vent ⟨s, k, 2, ⟨#[109, 111, 114, 101]⟩⟩ = true := by
    unfold vent
    rw [Bool.and_eq_true]
    exact ⟨hp, by show (opB 2 && (vvalue (⟨#[109, 111, 114, 101]⟩ : ByteArray) && (!decide ((2 : Int) = 1) || ((⟨#[109, 111, 114, 101]⟩ : ByteArray).toList == [])))) = true; decide +kernel⟩
  obtain ⟨a1, a2⟩ := tell_yes (sl := topL s k :: sl) (vstack_cons (vlayer_sing e1) hv h4) s k
  obtain ⟨b1, b2⟩ := tell_yes (sl := dropL s k :: sl) (vstack_cons (vlayer_sing e2) hv h4) s k
  obtain ⟨c1, c2⟩ := tell_yes (sl := moreL s k :: sl) (vstack_cons (vlayer_sing e3) hv h4) s k
  obtain ⟨d1, d2⟩ := tell_yes (sl := [] :: sl) (vstack_cons (by decide +kernel) hv h4) s k
  have f1 : toldV (topL s k :: sl) s k = some ⟨#[116, 111, 112]⟩ := by unfold topL; rw [told_top sl (of_here s k 0 _), hb]; rfl
  have f2 : toldV (dropL s k :: sl) s k = none := by unfold dropL; rw [told_top sl (of_here s k 1 _), hb]; rfl
  have f3 : toldV (moreL s k :: sl) s k = some (v ++ (⟨#[44]⟩ : ByteArray) ++ (⟨#[109, 111, 114, 101]⟩ : ByteArray)) := by unfold moreL; rw [told_top sl (of_here s k 2 _), hb]; rfl
  have f4 : toldV ([] :: sl) s k = some v := by rw [told_none, hb]
  rw [a1, a2, b1, b2, c1, c2, d1, d2, f1, f2, f3, f4, t1, hb]
  exact ⟨⟨rfl, rfl⟩, ⟨rfl, rfl⟩, ⟨more_app v, rfl⟩, rfl, rfl⟩
theorem tellS_size (sl : List (List Ent)) (s k : ByteArray) : (tellS sl s k).size ≤ 4100 := by
  have h0 : (⟨#[]⟩ : ByteArray).size = 0 := rfl
  unfold tellS
  split
  · rename_i h
    cases hv : toldV sl s k with
    | none => show (⟨#[]⟩ : ByteArray).size ≤ 4100; omega
    | some v => exact toldV_size h hv
  · omega
theorem topL_fit {s k : ByteArray} (hs : s.size ≤ 1048576) (hk : k.size ≤ 1048576) : EFit (topL s k) ∧ EFit (dropL s k) ∧ EFit (moreL s k) ∧ EFit [] := by
  refine ⟨⟨by show 1 ≤ 1048576; omega, fun i hi => ?_⟩, ⟨by show 1 ≤ 1048576; omega, fun i hi => ?_⟩, ⟨by show 1 ≤ 1048576; omega, fun i hi => ?_⟩, ⟨Nat.zero_le _, fun _ h => absurd h (Nat.not_lt_zero _)⟩⟩
  · have hi' : i < 1 := hi
    obtain rfl : i = 0 := by omega
    exact ⟨hs, hk, by show 3 ≤ 1048576; omega⟩
  · have hi' : i < 1 := hi
    obtain rfl : i = 0 := by omega
    exact ⟨hs, hk, by show 0 ≤ 1048576; omega⟩
  · have hi' : i < 1 := hi
    obtain rfl : i = 0 := by omega
    exact ⟨hs, hk, by show 4 ≤ 1048576; omega⟩
theorem lit_own (w : World) (base : Nat) (s k : ByteArray) (o : Int) (v : ByteArray) (hb : base ≤ w.heap.size) : OwnE (w.alloc (.cells #[.string s, .string k, .int .i64 o, .string v] 32)) base (.slice (some ⟨w.heap.size, 0, none⟩) 1 1) [⟨s, k, o, v⟩] :=
  World.ownsRow_lit w #[.string s, .string k, .int .i64 o, .string v] 1 hb (by unfold maxLen; omega) rfl
theorem fit_cons {x : List Ent} {sl : List (List Ent)} (h1 : EFit x) (h2 : ∀ l ∈ sl, EFit l) : ∀ l ∈ x :: sl, EFit l := fun l hl => by
  rcases List.mem_cons.1 hl with h | h
  · rw [h]; exact h1
  · exact h2 l h
theorem implRes_stk (v : Value) (b : Nat) (sl : List (List Ent)) (s key : ByteArray) (w : World) (h6 : sl.length ≤ 6) (hf : ∀ l ∈ sl, EFit l) (h : Stk w b v sl) (hs : s.size ≤ 1048576) (hk : key.size ≤ 1048576) :
    Calls Tryd.prog 11 #[v, .string s, .string key] w fun e w' => e = .returned (.tuple #[.string (tellS sl s key), .bool (tellB sl s key)]) ∧ Grows w w' := by
  obtain ⟨A, c, rfl, hA⟩ := h.form
  exact implResolve_any A c sl s key w (by omega) hf hA hs hk
theorem specRes_stk (v : Value) (b : Nat) (sl : List (List Ent)) (s key : ByteArray) (w : World) (h6 : sl.length ≤ 6) (hf : ∀ l ∈ sl, EFit l) (h : Stk w b v sl) :
    Calls Tryd.prog 15 #[v, .string s, .string key] w fun e w' => e = .returned (.tuple #[.string (tellS sl s key), .bool (tellB sl s key)]) ∧ Grows w w' := by
  obtain ⟨A, c, rfl, hA⟩ := h.form
  exact specResolve_any A c sl s key w (by omega) hf hA
theorem resOn (x : List Ent) (sl : List (List Ent)) (s key : ByteArray) (hx : EFit x) (h6 : sl.length ≤ 6) (hf : ∀ l ∈ sl, EFit l) (hs : s.size ≤ 1048576) (hk : key.size ≤ 1048576) {τ : ByteArray} {β : Bool} (h : tellS (x :: sl) s key = τ ∧ tellB (x :: sl) s key = β) (A : Option Addr) (c : Nat) (w : World) (hA : StackAt w A (x :: sl)) :
    Calls Tryd.prog 11 #[.slice A (sl.length + 1) c, .string s, .string key] w fun e w' => e = .returned (.tuple #[.string τ, .bool β]) ∧ Grows w w' := by
  have h1 := implResolve_any A c (x :: sl) s key w (by rw [List.length_cons]; omega) (fit_cons hx hf) hA hs hk
  rw [h.1, h.2] at h1
  exact h1
theorem oneR_any (A : Option Addr) (n c : Nat) (w : World) :
    Calls Tryd.prog 12 #[.agg #[.slice A n c]] w fun r w' => ∃ g, r = .returned (.slice (some ⟨g, 0, none⟩) 1 1) ∧ OwnRL w' w.heap.size (.slice (some ⟨g, 0, none⟩) 1 1) [.slice A n c] ∧ Grows w w' := by
  have BX : Hid (OwnRL ((w.alloc (.cells #[.slice A n c] 27)).alloc (.cells #[.slice A n c] 27)) w.heap.size (.slice (some ⟨(w.alloc (.cells #[.slice A n c] 27)).heap.size, 0, none⟩) 1 1) [.slice A n c]) := World.ownsRow_lit (w.alloc (.cells #[.slice A n c] 27)) #[.slice A n c] 1 (by simp) (by unfold maxLen; omega) rfl
  have G : Hid (Grows w ((w.alloc (.cells #[.slice A n c] 27)).alloc (.cells #[.slice A n c] 27))) := ((Grows.refl w).alloc _).alloc _
  rw [World.size_alloc] at BX
  go_enter Tryd.func12, Tryd.ntmps12
  go_wp2
  go_ret
  exact ⟨w.heap.size + 1, by simp, BX.out, G.out⟩
theorem appStk {w : World} {ops : Array Oper} {rest : List Oper} {o : Oper} {a : Act} {Q : Exit → Act → World → Prop} (hgd : o.guard = none) (s x : Operand)
    (ho : o.op = .call { callee := .builtin .append, args := #[s, x], argTypes := #[23, 23] })
    (base g0 : Nat) (A0 : Option Addr) (n0 c0 : Nat) (X : List Ent) (hs : a.eval s = .slice (some ⟨g0, 0, none⟩) 1 1) (hown : OwnRL w base (.slice (some ⟨g0, 0, none⟩) 1 1) [.slice A0 n0 c0]) (bx : Nat) (hX : OwnE w bx (.slice A0 n0 c0) X)
    (b2 : Nat) (vx : Value) (sl : List (List Ent)) (hx : a.eval x = vx) (hst : Stk w b2 vx sl) (hpos : 0 < sl.length) (h6 : sl.length ≤ 6) (hbase : base ≤ w.heap.size)
    (h : ∀ A' c' w', Hid (StackAt w' A' (X :: sl)) → Hid (w.grownBy w' (some g0)) → wpList Tryd.prog ops Q rest (a.put o.dst (.slice A' (sl.length + 1) c')) w') : wpList Tryd.prog ops Q (o :: rest) a w := by
  obtain ⟨i0, hi, hz0, hz1, hz2⟩ := info_parts infoLayG
  obtain ⟨vs, h1, h2, h3⟩ := hst
  have hvl : 0 < vs.length := by omega
  obtain ⟨g, cap, hv, hb, hlt⟩ := World.ownsRow.form h1 hvl
  subst hv
  refine wpList_append_lies _ hgd s x 23 ho base 27 i0 (.agg #[.slice none 0 0]) 1 24 Tryd.underlying23 hi hz0 hz1 hz2 rfl (by decide) _ 1 [.slice A0 n0 c0] hs hown ⟨g, 0, none⟩ vs.length cap vs hx (by omega) (fun j u hj => ?_) (fun u hu => ?_) (by omega) (by unfold maxLen; omega) (by omega) hbase _ rfl ?_
  · have hjl : j < vs.length := by
      rcases Nat.lt_or_ge j vs.length with h9 | h9
      · exact h9
      · rw [List.getElem?_eq_none h9] at hj; cases hj
    have h8 := World.ownsRow.cellAt h1 j (by omega)
    rw [hj] at h8
    rcases j with _ | j <;> simpa [Addr.add] using h8
  · obtain ⟨i, hil, hi2⟩ := List.mem_iff_getElem.1 hu
    have h8 := h3 i u (by omega) (by rw [List.getElem?_eq_getElem hil, hi2])
    obtain ⟨A', c', e, _⟩ := h8.formC
    rw [e]
    rfl
  · intro g' cap' w' k1 k2 _ k4
    have hl : 1 + vs.length = sl.length + 1 := by omega
    rw [hl] at k1 ⊢
    refine h _ _ w' ?_ k2
    have hA0 := hX.far k2 (fun k hk e => apartRE hown hX k hk e)
    intro _
    refine ⟨g', 0, rfl, k4, fun i hi => ?_⟩
    have hc := World.ownsRow.cellAt k1 i (by rw [List.length_cons] at hi; omega)
    rcases i with _ | i
    · obtain ⟨A', c', e, q1, q2⟩ := hA0.formC
      exact ⟨A', c', by rw [Nat.zero_add, hc, e]; rfl, q1, q2⟩
    · have hi' : i < sl.length := by rw [List.length_cons] at hi; omega
      have hu : vs[i]? = some (vs[i]'(by omega)) := List.getElem?_eq_getElem _
      have h8 := h3 i _ hi' hu
      obtain ⟨A', c', e, q1, q2⟩ := (h8.far k2 (fun k hk e => apartRE hown h8 k hk e)).formC
      rw [e] at hu
      refine ⟨A', c', ?_, q1, q2⟩
      rw [Nat.zero_add, hc, List.singleton_append, List.getElem?_cons_succ]
      exact hu

/-- a call's end: a stack and two texts -/
def DRsl (w : World) (e : Ending) (w' : World) : Prop := ∃ (v : Value) (sl : List (List Ent)) (s k : ByteArray), e = .returned (.tuple #[v, .string s, .string k]) ∧ ShortS sl ∧ Stk w' w.heap.size v sl ∧ s.size ≤ 41 ∧ k.size ≤ 41 ∧ Grows w w'
set_option maxRecDepth 100000 in
set_option maxHeartbeats 4000000 in
theorem DrawResolve_any (A : Option Addr) (n c : Nat) (w : World) (hn : n ≤ maxLen) (hc : n ≤ c) (h : BytesAt w A n) :
    Calls Tryd.prog 14 #[.slice A n c] w (DRsl w) := by
  have HB := Lib.hid h
  clear h
  go_enter Tryd.func14, Tryd.ntmps14
  go_wp2_with fail
  refine (newReader_any A n c _ hn hc HB.out).mono ?_
  rintro e w1 ⟨A1, n1, c1, g, rfl, hn1, hg, r1, k1⟩
  have R1 := Lib.hid r1
  have G1 := Lib.hid k1
  have S1 := k1.size
  clear r1 k1
  go_wp2_with fail
  refine (aStack_any g A1 n1 c1 0 _ (by omega) hn1 R1.out).mono ?_
  rintro e w2 ⟨v, sl, rfl, hS, hO, q2, a2, b2, r2, k2⟩
  have G2 : Hid (Grows w w2) := G1.out.mark k2 (fun i hi => by injection hi with hi; omega)
  have R2 := Lib.hid r2
  have SS := Lib.hid hS
  have O2 := Lib.hid hO
  have HGL := Lib.hid R1.out.lt
  clear hS hO r2 k2
  go_wp2_with fail
  refine (aSection_any g A1 n1 c1 q2 _ (by omega) hn1 R2.out).mono ?_
  rintro e w3 ⟨s, rfl, hs, q3, a3, b3, r3, k3⟩
  have G3 : Hid (Grows w w3) := G2.out.mark k3 (fun i hi => by injection hi with hi; omega)
  have R3 := Lib.hid r3
  have O3 := Lib.hid (O2.out.far k3 HGL.out)
  clear O2 r3 k3
  go_wp2_with fail
  refine (aKey_any g A1 n1 c1 q3 _ (by omega) hn1 R3.out).mono ?_
  rintro e w4 ⟨k, rfl, hk, q4, a4, b4, r4, k4⟩
  have G4 : Hid (Grows w w4) := G3.out.mark k4 (fun i hi => by injection hi with hi; omega)
  have O4 := Lib.hid (O3.out.far k4 HGL.out)
  clear O3 r4 k4
  go_wp2
  refine bodyPost_ret (v := .tuple #[v, .string s, .string k]) (by simp [results, Tryd.results14, go_sem]) rfl ?_
  exact ⟨_, sl, s, k, rfl, SS.out, O4.out.less S1, hs, hk, G4.out⟩

set_option maxRecDepth 100000 in
set_option maxHeartbeats 8000000 in
theorem dRsl_any (A : Option Addr) (n c : Nat) (w : World) (hn : n ≤ maxLen) (hc : n ≤ c) (h : BytesAt w A n) :
    Calls Tryd.prog 4 #[.slice A n c] w fun e w' => e = .returned (.bool true) ∧ Below w.heap.size w w' := by
  by_cases hbig : 1048576 < n
  · clear h
    unfold maxLen at hn
    go_enter Tryd.func4, Tryd.ntmps4
    go_wp2
    go_ret
    exact ⟨rfl, (Grows.refl _).below⟩
  · have HD := Lib.hid (DrawResolve_any A n c w hn hc h)
    clear h
    unfold maxLen at hn
    go_enter Tryd.func4, Tryd.ntmps4
    go_wp2_with fail
    refine (HD.out).mono ?_
    rintro e w1 ⟨v, sl, s, key, rfl, hS, hO, hs, hk, g1⟩
    have hf := hS.fit
    have hn6 := hS.1
    have hs' : s.size ≤ 1048576 := by omega
    have hk' : key.size ≤ 1048576 := by omega
    have HI := Lib.hid (fun v b w2 (h : Stk w2 b v sl) => implRes_stk v b sl s key w2 hn6 hf h hs' hk')
    have HV := Lib.hid (fun v b w2 (h : Stk w2 b v sl) => specRes_stk v b sl s key w2 hn6 hf h)
    have HTP := Lib.hid (fun hb h4 => tops (sl := sl) (s := s) (k := key) hb h4)
    have HRT := Lib.hid (fun x hx (τ : ByteArray) (β : Bool) h A c w hA => resOn x sl s key hx hn6 hf hs' hk' (τ := τ) (β := β) h A c w hA)
    have HFT := Lib.hid (topL_fit hs' hk')
    have hts := tellS_size sl s key
    obtain ⟨τ, hτ⟩ : ∃ τ, tellS sl s key = τ := ⟨_, rfl⟩
    obtain ⟨β, hβ⟩ : ∃ β, tellB sl s key = β := ⟨_, rfl⟩
    rw [hτ, hβ] at HI HV HTP
    rw [hτ] at hts
    have hcm : (⟨#[44, 109, 111, 114, 101]⟩ : ByteArray).size = 5 := rfl
    obtain ⟨A0, c0, rfl, _⟩ := hO.form
    obtain ⟨n0, hn0⟩ : ∃ n0, sl.length = n0 := ⟨_, rfl⟩
    have HN := Lib.hid hn0
    rw [hn0] at hn6 hO HTP HRT ⊢
    have S0_1 := Lib.hid hO
    have T1 : Hid (Grows w1 w1) := Grows.refl _
    have HG1 := Lib.hid g1
    clear hS hO g1 hf HD hτ hβ hn0 hs hk hs' hk'
    go_wp2_with fail
    refine (HI.out _ _ _ S0_1.out).mono ?_
    rintro e w2 ⟨rfl, gq⟩
    have T2 : Hid (Grows w1 w2) := T1.out.trans gq
    have S0_2 := Lib.hid (S0_1.out.keep gq)
    clear S0_1 T1
    clear gq
    go_wp2_with fail
    refine (HV.out _ _ _ S0_2.out).mono ?_
    rintro e w3 ⟨rfl, gq⟩
    have T3 : Hid (Grows w1 w3) := T2.out.trans gq
    have S0_3 := Lib.hid (S0_2.out.keep gq)
    clear S0_2 T2
    clear gq
    have hne : (β != β) = false := bne_self_eq_false β
    by_cases h5 : 5 ≤ n0
    · go_wp2
      go_ret
      exact ⟨rfl, (HG1.out.trans T3.out).below⟩
    · by_cases h00 : n0 = 0
      · subst h00
        go_wp2
        go_ret
        exact ⟨rfl, (HG1.out.trans T3.out).below⟩
      · rcases β with _ | _
        · go_wp2
          go_ret
          exact ⟨rfl, (HG1.out.trans T3.out).below⟩
        · have hz : ((n0 : Int) == 0) = false := by rw [beq_eq_false_iff_ne]; omega
          have h5i : ((n0 : Int) < 5) := by omega
          obtain ⟨t1, t2, t3, t4⟩ := HTP.out rfl (by omega)
          have HC1 := Lib.hid (HRT.out _ HFT.out.1 _ _ t1)
          have HC2 := Lib.hid (HRT.out _ HFT.out.2.1 _ _ t2)
          have HC3 := Lib.hid (HRT.out _ HFT.out.2.2.1 _ _ t3)
          have HC4 := Lib.hid (HRT.out _ HFT.out.2.2.2 _ _ t4)
          clear t1 t2 t3 t4 HTP HRT HFT HI HV
          go_upto_region 9 with (fail)
          have O10_4 : Hid (OwnE (w3.alloc (.cells #[.string s, .string key, .int .i64 0, .string ⟨#[116, 111, 112]⟩] 32 )) w1.heap.size (.slice (some ⟨w3.heap.size, 0, none⟩) 1 1) (topL s key)) := lit_own w3 _ s key 0 ⟨#[116, 111, 112]⟩ T3.out.size
          have gq : Grows w3 (w3.alloc (.cells #[.string s, .string key, .int .i64 0, .string ⟨#[116, 111, 112]⟩] 32 )) := (Grows.refl _).alloc _
          obtain ⟨w4, hw4⟩ : ∃ w', (w3.alloc (.cells #[.string s, .string key, .int .i64 0, .string ⟨#[116, 111, 112]⟩] 32 )) = w' := ⟨_, rfl⟩
          have hs4 : w4.heap.size = w3.heap.size + 1 := by rw [← hw4]; exact World.size_alloc _ _
          rw [hw4] at O10_4 gq ⊢
          have T4 : Hid (Grows w1 w4) := T3.out.trans gq
          have S0_4 := Lib.hid (S0_3.out.keep gq)
          clear S0_3 T3
          clear gq
          have X10_5 : Hid (Box (w4.alloc (.cells #[(.slice (some ⟨w3.heap.size, 0, none⟩) 1 1)] 27)) w4.heap.size (.slice (some ⟨w3.heap.size, 0, none⟩) 1 1) 27) := heap_alloc_new w4 _
          have gq : Grows w4 (w4.alloc (.cells #[(.slice (some ⟨w3.heap.size, 0, none⟩) 1 1)] 27)) := (Grows.refl _).alloc _
          obtain ⟨w5, hwx⟩ : ∃ w', (w4.alloc (.cells #[(.slice (some ⟨w3.heap.size, 0, none⟩) 1 1)] 27)) = w' := ⟨_, rfl⟩
          rw [hwx] at X10_5 gq ⊢
          clear hwx hw4
          have T5 : Hid (Grows w1 w5) := T4.out.trans gq
          have S0_5 := Lib.hid (S0_4.out.keep gq)
          have O10_5 := Lib.hid (O10_4.out.keep gq)
          clear S0_4 O10_4 T4
          clear gq
          rw [hs4] at X10_5
          clear hs4
          obtain ⟨b_X10, hbb⟩ : ∃ b, w3.heap.size = b := ⟨_, rfl⟩
          rw [hbb] at O10_5 X10_5 ⊢
          clear hbb
          go_upto_region 10 with (fail)
          have O11_6 : Hid (OwnE (w5.alloc (.cells #[.string s, .string key, .int .i64 1, .string ⟨#[]⟩] 32 )) w1.heap.size (.slice (some ⟨w5.heap.size, 0, none⟩) 1 1) (dropL s key)) := lit_own w5 _ s key 1 ⟨#[]⟩ T5.out.size
          have gq : Grows w5 (w5.alloc (.cells #[.string s, .string key, .int .i64 1, .string ⟨#[]⟩] 32 )) := (Grows.refl _).alloc _
          obtain ⟨w6, hw6⟩ : ∃ w', (w5.alloc (.cells #[.string s, .string key, .int .i64 1, .string ⟨#[]⟩] 32 )) = w' := ⟨_, rfl⟩
          have hs6 : w6.heap.size = w5.heap.size + 1 := by rw [← hw6]; exact World.size_alloc _ _
          rw [hw6] at O11_6 gq ⊢
          have T6 : Hid (Grows w1 w6) := T5.out.trans gq
          have S0_6 := Lib.hid (S0_5.out.keep gq)
          have O10_6 := Lib.hid (O10_5.out.keep gq)
          have X10_6 := Lib.hid (X10_5.out.keep gq)
          clear S0_5 O10_5 X10_5 T5
          clear gq
          have X11_7 : Hid (Box (w6.alloc (.cells #[(.slice (some ⟨w5.heap.size, 0, none⟩) 1 1)] 27)) w6.heap.size (.slice (some ⟨w5.heap.size, 0, none⟩) 1 1) 27) := heap_alloc_new w6 _
          have gq : Grows w6 (w6.alloc (.cells #[(.slice (some ⟨w5.heap.size, 0, none⟩) 1 1)] 27)) := (Grows.refl _).alloc _
          obtain ⟨w7, hwx⟩ : ∃ w', (w6.alloc (.cells #[(.slice (some ⟨w5.heap.size, 0, none⟩) 1 1)] 27)) = w' := ⟨_, rfl⟩
          rw [hwx] at X11_7 gq ⊢
          clear hwx hw6
          have T7 : Hid (Grows w1 w7) := T6.out.trans gq
          have S0_7 := Lib.hid (S0_6.out.keep gq)
          have O10_7 := Lib.hid (O10_6.out.keep gq)
          have X10_7 := Lib.hid (X10_6.out.keep gq)
          have O11_7 := Lib.hid (O11_6.out.keep gq)
          clear S0_6 O10_6 X10_6 O11_6 T6
          clear gq
          rw [hs6] at X11_7
          clear hs6
          obtain ⟨b_X11, hbb⟩ : ∃ b, w5.heap.size = b := ⟨_, rfl⟩
          rw [hbb] at O11_7 X11_7 ⊢
          clear hbb
          go_upto_region 11 with (fail)
          have O12_8 : Hid (OwnE (w7.alloc (.cells #[.string s, .string key, .int .i64 2, .string ⟨#[109, 111, 114, 101]⟩] 32 )) w1.heap.size (.slice (some ⟨w7.heap.size, 0, none⟩) 1 1) (moreL s key)) := lit_own w7 _ s key 2 ⟨#[109, 111, 114, 101]⟩ T7.out.size
          have gq : Grows w7 (w7.alloc (.cells #[.string s, .string key, .int .i64 2, .string ⟨#[109, 111, 114, 101]⟩] 32 )) := (Grows.refl _).alloc _
          obtain ⟨w8, hw8⟩ : ∃ w', (w7.alloc (.cells #[.string s, .string key, .int .i64 2, .string ⟨#[109, 111, 114, 101]⟩] 32 )) = w' := ⟨_, rfl⟩
          have hs8 : w8.heap.size = w7.heap.size + 1 := by rw [← hw8]; exact World.size_alloc _ _
          rw [hw8] at O12_8 gq ⊢
          have T8 : Hid (Grows w1 w8) := T7.out.trans gq
          have S0_8 := Lib.hid (S0_7.out.keep gq)
          have O10_8 := Lib.hid (O10_7.out.keep gq)
          have X10_8 := Lib.hid (X10_7.out.keep gq)
          have O11_8 := Lib.hid (O11_7.out.keep gq)
          have X11_8 := Lib.hid (X11_7.out.keep gq)
          clear S0_7 O10_7 X10_7 O11_7 X11_7 T7
          clear gq
          have X12_9 : Hid (Box (w8.alloc (.cells #[(.slice (some ⟨w7.heap.size, 0, none⟩) 1 1)] 27)) w8.heap.size (.slice (some ⟨w7.heap.size, 0, none⟩) 1 1) 27) := heap_alloc_new w8 _
          have gq : Grows w8 (w8.alloc (.cells #[(.slice (some ⟨w7.heap.size, 0, none⟩) 1 1)] 27)) := (Grows.refl _).alloc _
          obtain ⟨w9, hwx⟩ : ∃ w', (w8.alloc (.cells #[(.slice (some ⟨w7.heap.size, 0, none⟩) 1 1)] 27)) = w' := ⟨_, rfl⟩
          rw [hwx] at X12_9 gq ⊢
          clear hwx hw8
          have T9 : Hid (Grows w1 w9) := T8.out.trans gq
          have S0_9 := Lib.hid (S0_8.out.keep gq)
          have O10_9 := Lib.hid (O10_8.out.keep gq)
          have X10_9 := Lib.hid (X10_8.out.keep gq)
          have O11_9 := Lib.hid (O11_8.out.keep gq)
          have X11_9 := Lib.hid (X11_8.out.keep gq)
          have O12_9 := Lib.hid (O12_8.out.keep gq)
          clear S0_8 O10_8 X10_8 O11_8 X11_8 O12_8 T8
          clear gq
          rw [hs8] at X12_9
          clear hs8
          obtain ⟨b_X12, hbb⟩ : ∃ b, w7.heap.size = b := ⟨_, rfl⟩
          rw [hbb] at O12_9 X12_9 ⊢
          clear hbb
          have cX10 := X10_9.out.cell
          go_wp2_with fail
          refine (oneR_any (some ⟨b_X10, 0, none⟩) 1 1 _).mono ?_
          rintro e w10 ⟨g10, rfl, hr, gq⟩
          clear cX10
          have HR := Lib.hid hr
          have gq0 := Lib.hid gq
          have hsz : w9.heap.size ≤ w10.heap.size := gq.size
          clear hr gq
          have HX := Lib.hid (O10_9.out.keep gq0.out)
          have HST := Lib.hid (S0_9.out.keep gq0.out)
          go_wp2_with (at_builtin; refine appStk rfl _ _ rfl w9.heap.size g10 (some ⟨b_X10, 0, none⟩) 1 1 (topL s key) rfl HR.out _ HX.out _ _ sl rfl HST.out (by rw [HN.out]; omega) (by rw [HN.out]; omega) hsz ?_)
          rw [HN.out]
          intro Aq cq w11 hSA hGB
          have gq : Grows w9 w11 := gq0.out.mark hGB.out (fun x hx => by injection hx with hx; have h9 : w9.heap.size ≤ g10 := (HR.out.lt _ rfl).1; rw [← hx]; exact h9)
          clear HR gq0 hsz HX HST hGB
          have T11 : Hid (Grows w1 w11) := T9.out.trans gq
          have S0_11 := Lib.hid (S0_9.out.keep gq)
          have O10_11 := Lib.hid (O10_9.out.keep gq)
          have X10_11 := Lib.hid (X10_9.out.keep gq)
          have O11_11 := Lib.hid (O11_9.out.keep gq)
          have X11_11 := Lib.hid (X11_9.out.keep gq)
          have O12_11 := Lib.hid (O12_9.out.keep gq)
          have X12_11 := Lib.hid (X12_9.out.keep gq)
          clear S0_9 O10_9 X10_9 O11_9 X11_9 O12_9 X12_9 T9
          clear gq
          go_wp2_with fail
          refine (HC1.out Aq cq _ hSA.out).mono ?_
          rintro e w12 ⟨rfl, gq⟩
          clear hSA
          have T12 : Hid (Grows w1 w12) := T11.out.trans gq
          have S0_12 := Lib.hid (S0_11.out.keep gq)
          have O10_12 := Lib.hid (O10_11.out.keep gq)
          have X10_12 := Lib.hid (X10_11.out.keep gq)
          have O11_12 := Lib.hid (O11_11.out.keep gq)
          have X11_12 := Lib.hid (X11_11.out.keep gq)
          have O12_12 := Lib.hid (O12_11.out.keep gq)
          have X12_12 := Lib.hid (X12_11.out.keep gq)
          clear S0_11 O10_11 X10_11 O11_11 X11_11 O12_11 X12_11 T11
          clear gq
          have cX11 := X11_12.out.cell
          go_wp2_with fail
          refine (oneR_any (some ⟨b_X11, 0, none⟩) 1 1 _).mono ?_
          rintro e w13 ⟨g13, rfl, hr, gq⟩
          clear cX11
          have HR := Lib.hid hr
          have gq0 := Lib.hid gq
          have hsz : w12.heap.size ≤ w13.heap.size := gq.size
          clear hr gq
          have HX := Lib.hid (O11_12.out.keep gq0.out)
          have HST := Lib.hid (S0_12.out.keep gq0.out)
          go_wp2_with (at_builtin; refine appStk rfl _ _ rfl w12.heap.size g13 (some ⟨b_X11, 0, none⟩) 1 1 (dropL s key) rfl HR.out _ HX.out _ _ sl rfl HST.out (by rw [HN.out]; omega) (by rw [HN.out]; omega) hsz ?_)
          rw [HN.out]
          intro Aq cq w14 hSA hGB
          have gq : Grows w12 w14 := gq0.out.mark hGB.out (fun x hx => by injection hx with hx; have h9 : w12.heap.size ≤ g13 := (HR.out.lt _ rfl).1; rw [← hx]; exact h9)
          clear HR gq0 hsz HX HST hGB
          have T14 : Hid (Grows w1 w14) := T12.out.trans gq
          have S0_14 := Lib.hid (S0_12.out.keep gq)
          have O10_14 := Lib.hid (O10_12.out.keep gq)
          have X10_14 := Lib.hid (X10_12.out.keep gq)
          have O11_14 := Lib.hid (O11_12.out.keep gq)
          have X11_14 := Lib.hid (X11_12.out.keep gq)
          have O12_14 := Lib.hid (O12_12.out.keep gq)
          have X12_14 := Lib.hid (X12_12.out.keep gq)
          clear S0_12 O10_12 X10_12 O11_12 X11_12 O12_12 X12_12 T12
          clear gq
          go_wp2_with fail
          refine (HC2.out Aq cq _ hSA.out).mono ?_
          rintro e w15 ⟨rfl, gq⟩
          clear hSA
          have T15 : Hid (Grows w1 w15) := T14.out.trans gq
          have S0_15 := Lib.hid (S0_14.out.keep gq)
          have O10_15 := Lib.hid (O10_14.out.keep gq)
          have X10_15 := Lib.hid (X10_14.out.keep gq)
          have O11_15 := Lib.hid (O11_14.out.keep gq)
          have X11_15 := Lib.hid (X11_14.out.keep gq)
          have O12_15 := Lib.hid (O12_14.out.keep gq)
          have X12_15 := Lib.hid (X12_14.out.keep gq)
          clear S0_14 O10_14 X10_14 O11_14 X11_14 O12_14 X12_14 T14
          clear gq
          have cX12 := X12_15.out.cell
          go_wp2_with fail
          refine (oneR_any (some ⟨b_X12, 0, none⟩) 1 1 _).mono ?_
          rintro e w16 ⟨g16, rfl, hr, gq⟩
          clear cX12
          have HR := Lib.hid hr
          have gq0 := Lib.hid gq
          have hsz : w15.heap.size ≤ w16.heap.size := gq.size
          clear hr gq
          have HX := Lib.hid (O12_15.out.keep gq0.out)
          have HST := Lib.hid (S0_15.out.keep gq0.out)
          go_wp2_with (at_builtin; refine appStk rfl _ _ rfl w15.heap.size g16 (some ⟨b_X12, 0, none⟩) 1 1 (moreL s key) rfl HR.out _ HX.out _ _ sl rfl HST.out (by rw [HN.out]; omega) (by rw [HN.out]; omega) hsz ?_)
          rw [HN.out]
          intro Aq cq w17 hSA hGB
          have gq : Grows w15 w17 := gq0.out.mark hGB.out (fun x hx => by injection hx with hx; have h9 : w15.heap.size ≤ g16 := (HR.out.lt _ rfl).1; rw [← hx]; exact h9)
          clear HR gq0 hsz HX HST hGB
          have T17 : Hid (Grows w1 w17) := T15.out.trans gq
          have S0_17 := Lib.hid (S0_15.out.keep gq)
          have O10_17 := Lib.hid (O10_15.out.keep gq)
          have X10_17 := Lib.hid (X10_15.out.keep gq)
          have O11_17 := Lib.hid (O11_15.out.keep gq)
          have X11_17 := Lib.hid (X11_15.out.keep gq)
          have O12_17 := Lib.hid (O12_15.out.keep gq)
          have X12_17 := Lib.hid (X12_15.out.keep gq)
          clear S0_15 O10_15 X10_15 O11_15 X11_15 O12_15 X12_15 T15
          clear gq
          go_wp2_with fail
          refine (HC3.out Aq cq _ hSA.out).mono ?_
          rintro e w18 ⟨rfl, gq⟩
          clear hSA
          have T18 : Hid (Grows w1 w18) := T17.out.trans gq
          have S0_18 := Lib.hid (S0_17.out.keep gq)
          have O10_18 := Lib.hid (O10_17.out.keep gq)
          have X10_18 := Lib.hid (X10_17.out.keep gq)
          have O11_18 := Lib.hid (O11_17.out.keep gq)
          have X11_18 := Lib.hid (X11_17.out.keep gq)
          have O12_18 := Lib.hid (O12_17.out.keep gq)
          have X12_18 := Lib.hid (X12_17.out.keep gq)
          clear S0_17 O10_17 X10_17 O11_17 X11_17 O12_17 X12_17 T17
          clear gq
          go_wp2_with fail
          refine (oneR_any none 0 0 _).mono ?_
          rintro e w19 ⟨g19, rfl, hr, gq⟩
          have HR := Lib.hid hr
          have gq0 := Lib.hid gq
          have hsz : w18.heap.size ≤ w19.heap.size := gq.size
          clear hr gq
          have HX := Lib.hid (OwnE.nil w19 0)
          have HST := Lib.hid (S0_18.out.keep gq0.out)
          go_wp2_with (at_builtin; refine appStk rfl _ _ rfl w18.heap.size g19 none 0 0 [] rfl HR.out _ HX.out _ _ sl rfl HST.out (by rw [HN.out]; omega) (by rw [HN.out]; omega) hsz ?_)
          rw [HN.out]
          intro Aq cq w20 hSA hGB
          have gq : Grows w18 w20 := gq0.out.mark hGB.out (fun x hx => by injection hx with hx; have h9 : w18.heap.size ≤ g19 := (HR.out.lt _ rfl).1; rw [← hx]; exact h9)
          clear HR gq0 hsz HX HST hGB
          have T20 : Hid (Grows w1 w20) := T18.out.trans gq
          have S0_20 := Lib.hid (S0_18.out.keep gq)
          have O10_20 := Lib.hid (O10_18.out.keep gq)
          have X10_20 := Lib.hid (X10_18.out.keep gq)
          have O11_20 := Lib.hid (O11_18.out.keep gq)
          have X11_20 := Lib.hid (X11_18.out.keep gq)
          have O12_20 := Lib.hid (O12_18.out.keep gq)
          have X12_20 := Lib.hid (X12_18.out.keep gq)
          clear S0_18 O10_18 X10_18 O11_18 X11_18 O12_18 X12_18 T18
          clear gq
          go_wp2_with fail
          refine (HC4.out Aq cq _ hSA.out).mono ?_
          rintro e w21 ⟨rfl, gq⟩
          clear hSA
          have T21 : Hid (Grows w1 w21) := T20.out.trans gq
          have S0_21 := Lib.hid (S0_20.out.keep gq)
          have O10_21 := Lib.hid (O10_20.out.keep gq)
          have X10_21 := Lib.hid (X10_20.out.keep gq)
          have O11_21 := Lib.hid (O11_20.out.keep gq)
          have X11_21 := Lib.hid (X11_20.out.keep gq)
          have O12_21 := Lib.hid (O12_20.out.keep gq)
          have X12_21 := Lib.hid (X12_20.out.keep gq)
          clear S0_20 O10_20 X10_20 O11_20 X11_20 O12_20 X12_20 T20
          clear gq
          go_wp2
          go_ret
          exact ⟨rfl, (HG1.out.trans T21.out).below⟩
end Go.Proofs.YtoicohheoddfjaaDoor
