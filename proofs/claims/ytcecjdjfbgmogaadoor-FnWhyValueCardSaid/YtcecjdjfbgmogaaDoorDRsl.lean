/-
  The drawn law of Resolve with the arguments that it generates: whatever its bytes, it returns true. Condition: no more bytes than a slice may have.
-/
import Derived.Test.YtcecjdjfbgmogaaDoorStkG
import Derived.Test.YtcecjdjfbgmogaaDoorOneL
import Derived.Test.YtcecjdjfbgmogaaDoorLawVL
namespace Go.Proofs.YtcecjdjfbgmogaaDoor
open Go.RowKit

theorem foldT_none (s k : ByteArray) : ∀ (es : List Ent) (V : PV), (es.any fun x => x.of s k) = false → foldV es V s k = V s k := by
  intro es
  induction es with
  | nil => intro V _; rfl
  | cons e t ih =>
    intro V h
    rw [List.any_cons, Bool.or_eq_false_iff] at h
    have h1 : foldV (e :: t) V = foldV t (layV V e) := rfl
    rw [h1, ih _ h.2]
    unfold layV
    rw [if_neg (by rw [h.1]; simp)]
def topL (s k : ByteArray) : List Ent := [⟨s, k, 0, ⟨#[116, 111, 112]⟩⟩]
def dropL (s k : ByteArray) : List Ent := [⟨s, k, 1, ⟨#[]⟩⟩]
def moreL (s k : ByteArray) : List Ent := [⟨s, k, 2, ⟨#[109, 111, 114, 101]⟩⟩]
theorem of_here (s k : ByteArray) (o : Int) (v : ByteArray) : (⟨s, k, o, v⟩ : Ent).of s k = true := (of_iff _ s k).2 ⟨rfl, rfl⟩
theorem told_top {x : Ent} (sl : List (List Ent)) {s k : ByteArray} (h : x.of s k = true) : toldV ([x] :: sl) s k = stepV (toldV sl s k) x := by
  unfold toldV
  rw [allE_cons, foldV_snoc]
  unfold layV
  rw [if_pos h]
theorem told_none (sl : List (List Ent)) (s k : ByteArray) : toldV ([] :: sl) s k = toldV sl s k := by
  unfold toldV
  rw [allE_cons, List.append_nil]
theorem told_place {sl : List (List Ent)} (hv : vstack sl = true) {s k v : ByteArray} (h : toldV sl s k = some v) : vplace s k = true := by
  by_cases ha : ((allE sl).any fun x => x.of s k) = true
  · obtain ⟨e, he, h1⟩ := List.any_eq_true.1 ha
    have h2 := allE_vent (vstack_all hv) e he
    obtain ⟨h3, h4⟩ := (of_iff e s k).1 h1
    unfold vent at h2
    rw [Bool.and_eq_true] at h2
    rw [← h3, ← h4]
    exact h2.1
  · have ha' : ((allE sl).any fun x => x.of s k) = false := by simpa using ha
    unfold toldV at h
    rw [foldT_none s k _ _ ha'] at h
    cases h
theorem vlayer_sing {e : Ent} (h : vent e = true) : vlayer [e] = true := by
  unfold vlayer okE
  simp [h, distE]
theorem vstack_cons {x : List Ent} {sl : List (List Ent)} (h1 : vlayer x = true) (h2 : vstack sl = true) (h3 : sl.length ≤ 4) : vstack (x :: sl) = true := by
  unfold vstack at h2 ⊢
  rw [Bool.and_eq_true] at h2 ⊢
  refine ⟨by rw [List.all_cons, h1, h2.1]; rfl, ?_⟩
  rw [decide_eq_true_iff, List.length_cons]
  omega
theorem more_app (l : ByteArray) : l ++ (⟨#[44]⟩ : ByteArray) ++ (⟨#[109, 111, 114, 101]⟩ : ByteArray) = l ++ ⟨#[44, 109, 111, 114, 101]⟩ := by
  rw [ByteArray.append_assoc]
  rfl
theorem tops {sl : List (List Ent)} {s k : ByteArray} (hb : tellB sl s k = true) (h4 : sl.length ≤ 4) :
    (tellS (topL s k :: sl) s k = ⟨#[116, 111, 112]⟩ ∧ tellB (topL s k :: sl) s k = true) ∧ (tellS (dropL s k :: sl) s k = ⟨#[]⟩ ∧ tellB (dropL s k :: sl) s k = false) ∧ (tellS (moreL s k :: sl) s k = tellS sl s k ++ ⟨#[44, 109, 111, 114, 101]⟩ ∧ tellB (moreL s k :: sl) s k = true) ∧ (tellS ([] :: sl) s k = tellS sl s k ∧ tellB ([] :: sl) s k = true) := by
  have hv : vstack sl = true := by unfold tellB at hb; rw [Bool.and_eq_true] at hb; exact hb.1
  obtain ⟨t1, t2⟩ := tell_yes hv s k
  rw [t2, Option.isSome_iff_exists] at hb
  obtain ⟨v, hb⟩ := hb
  have hp := told_place hv hb
  have e1 : vent ⟨s, k, 0, ⟨#[116, 111, 112]⟩⟩ = true := by
    unfold vent
    rw [Bool.and_eq_true]
    exact ⟨hp, by show (opB 0 && (vvalue (⟨#[116, 111, 112]⟩ : ByteArray) && (!decide ((0 : Int) = 1) || ((⟨#[116, 111, 112]⟩ : ByteArray).toList == [])))) = true; decide +kernel⟩
  have e2 : vent ⟨s, k, 1, ⟨#[]⟩⟩ = true := by
    unfold vent
    rw [Bool.and_eq_true]
    exact ⟨hp, by show (opB 1 && (vvalue (⟨#[]⟩ : ByteArray) && (!decide ((1 : Int) = 1) || ((⟨#[]⟩ : ByteArray).toList == [])))) = true; decide +kernel⟩
  have e3 : vent ⟨s, k, 2, ⟨#[109, 111, 114, 101]⟩⟩ = true := by
    unfold vent
    rw [Bool.and_eq_true]
    exact ⟨hp, by show (opB 2 && (vvalue (⟨#[109, 111, 114, 101]⟩ : ByteArray) && (!decide ((2 : Int) = 1) || ((⟨#[109, 111, 114, 101]⟩ : ByteArray).toList == [])))) = true; decide +kernel⟩
  obtain ⟨a1, a2⟩ := tell_yes (sl := topL s k :: sl) (vstack_cons (vlayer_sing e1) hv h4) s k
  obtain ⟨b1, b2⟩ := tell_yes (sl := dropL s k :: sl) (vstack_cons (vlayer_sing e2) hv h4) s k
  obtain ⟨c1, c2⟩ := tell_yes (sl := moreL s k :: sl) (vstack_cons (vlayer_sing e3) hv h4) s k
  obtain ⟨d1, d2⟩ := tell_yes (sl := [] :: sl) (vstack_cons (by decide +kernel) hv h4) s k
  have f1 : toldV (topL s k :: sl) s k = some ⟨#[116, 111, 112]⟩ := by unfold topL; rw [told_top sl (of_here s k 0 _), hb]; rfl
  have f2 : toldV (dropL s k :: sl) s k = none := by unfold dropL; rw [told_top sl (of_here s k 1 _), hb]; rfl
  have f3 : toldV (moreL s k :: sl) s k = some (v ++ (⟨#[44]⟩ : ByteArray) ++ (⟨#[109, 111, 114, 101]⟩ : ByteArray)) := by unfold moreL; rw [told_top sl (of_here s k 2 _), hb]; rfl
  have f4 : toldV ([] :: sl) s k = some v := by rw [told_none, hb]
  rw [a1, a2, b1, b2, c1, c2, d1, d2, f1, f2, f3, f4, t1, hb]
  exact ⟨⟨rfl, rfl⟩, ⟨rfl, rfl⟩, ⟨more_app v, rfl⟩, rfl, rfl⟩
theorem tellS_size (sl : List (List Ent)) (s k : ByteArray) : (tellS sl s k).size ≤ 4100 := by
  have h0 : (⟨#[]⟩ : ByteArray).size = 0 := rfl
  unfold tellS
  split
  · rename_i h
    cases hv : toldV sl s k with
    | none => show (⟨#[]⟩ : ByteArray).size ≤ 4100; omega
    | some v => exact toldV_size h hv
  · omega
theorem topL_fit {s k : ByteArray} (hs : s.size ≤ 1048576) (hk : k.size ≤ 1048576) : EFit (topL s k) ∧ EFit (dropL s k) ∧ EFit (moreL s k) ∧ EFit [] := by
  refine ⟨⟨by show 1 ≤ 1048576; omega, fun i hi => ?_⟩, ⟨by show 1 ≤ 1048576; omega, fun i hi => ?_⟩, ⟨by show 1 ≤ 1048576; omega, fun i hi => ?_⟩, ⟨Nat.zero_le _, fun _ h => absurd h (Nat.not_lt_zero _)⟩⟩
  · have hi' : i < 1 := hi
    obtain rfl : i = 0 := by omega
    exact ⟨hs, hk, by show 3 ≤ 1048576; omega⟩
  · have hi' : i < 1 := hi
    obtain rfl : i = 0 := by omega
    exact ⟨hs, hk, by show 0 ≤ 1048576; omega⟩
  · have hi' : i < 1 := hi
    obtain rfl : i = 0 := by omega
    exact ⟨hs, hk, by show 4 ≤ 1048576; omega⟩
theorem lit_own (w : World) (base : Nat) (s k : ByteArray) (o : Int) (v : ByteArray) (hb : base ≤ w.heap.size) : OwnE (w.alloc (.cells #[.string s, .string k, .int .i64 o, .string v] 66)) base (.slice (some ⟨w.heap.size, 0, none⟩) 1 1) [⟨s, k, o, v⟩] :=
  World.ownsRow_lit w #[.string s, .string k, .int .i64 o, .string v] 1 hb (by unfold maxLen; omega) rfl
theorem fit_cons {x : List Ent} {sl : List (List Ent)} (h1 : EFit x) (h2 : ∀ l ∈ sl, EFit l) : ∀ l ∈ x :: sl, EFit l := fun l hl => by
  rcases List.mem_cons.1 hl with h | h
  · rw [h]; exact h1
  · exact h2 l h
theorem implRes_stk (v : Value) (b : Nat) (sl : List (List Ent)) (s key : ByteArray) (w : World) (h6 : sl.length ≤ 6) (hf : ∀ l ∈ sl, EFit l) (h : Stk w b v sl) (hs : s.size ≤ 1048576) (hk : key.size ≤ 1048576) :
    Calls Tryd.prog 30 #[v, .string s, .string key] w fun e w' => e = .returned (.tuple #[.string (tellS sl s key), .bool (tellB sl s key)]) ∧ Grows w w' := by
  obtain ⟨A, c, rfl, hA⟩ := h.form
  exact implResolve_any A c sl s key w (by omega) hf hA hs hk
theorem resOn (x : List Ent) (sl : List (List Ent)) (s key : ByteArray) (hx : EFit x) (h6 : sl.length ≤ 6) (hf : ∀ l ∈ sl, EFit l) (hs : s.size ≤ 1048576) (hk : key.size ≤ 1048576) {τ : ByteArray} {β : Bool} (h : tellS (x :: sl) s key = τ ∧ tellB (x :: sl) s key = β) (A : Option Addr) (c : Nat) (w : World) (hA : StackAt w A (x :: sl)) :
    Calls Tryd.prog 30 #[.slice A (sl.length + 1) c, .string s, .string key] w fun e w' => e = .returned (.tuple #[.string τ, .bool β]) ∧ Grows w w' := by
  have h1 := implResolve_any A c (x :: sl) s key w (by rw [List.length_cons]; omega) (fit_cons hx hf) hA hs hk
  rw [h.1, h.2] at h1
  exact h1
theorem appStk {w : World} {ops : Array Oper} {rest : List Oper} {o : Oper} {a : Act} {Q : Exit → Act → World → Prop} (hgd : o.guard = none) (s x : Operand)
    (ho : o.op = .call { callee := .builtin .append, args := #[s, x], argTypes := #[32, 32] })
    (base g0 : Nat) (A0 : Option Addr) (n0 c0 : Nat) (X : List Ent) (hs : a.eval s = .slice (some ⟨g0, 0, none⟩) 1 1) (hown : OwnRL w base (.slice (some ⟨g0, 0, none⟩) 1 1) [.slice A0 n0 c0]) (bx : Nat) (hX : OwnE w bx (.slice A0 n0 c0) X)
    (b2 : Nat) (vx : Value) (sl : List (List Ent)) (hx : a.eval x = vx) (hst : Stk w b2 vx sl) (hpos : 0 < sl.length) (h6 : sl.length ≤ 6) (hbase : base ≤ w.heap.size)
    (h : ∀ A' c' w', Hid (StackAt w' A' (X :: sl)) → Hid (w.grownBy w' (some g0)) → wpList Tryd.prog ops Q rest (a.put o.dst (.slice A' (sl.length + 1) c')) w') : wpList Tryd.prog ops Q (o :: rest) a w := by
  obtain ⟨i0, hi, hz0, hz1, hz2⟩ := info_parts infoLayG
  obtain ⟨vs, h1, h2, h3⟩ := hst
  have hvl : 0 < vs.length := by omega
  obtain ⟨g, cap, hv, hb, hlt⟩ := World.ownsRow.form h1 hvl
  subst hv
  refine wpList_append_lies _ hgd s x 32 ho base 25 i0 (.agg #[.slice none 0 0]) 1 24 Tryd.underlying32 hi hz0 hz1 hz2 rfl (by decide) _ 1 [.slice A0 n0 c0] hs hown ⟨g, 0, none⟩ vs.length cap vs hx (by omega) (fun j u hj => ?_) (fun u hu => ?_) (by omega) (by unfold maxLen; omega) (by omega) hbase _ rfl ?_
  · have hjl : j < vs.length := by
      rcases Nat.lt_or_ge j vs.length with h9 | h9
      · exact h9
      · rw [List.getElem?_eq_none h9] at hj; cases hj
    have h8 := World.ownsRow.cellAt h1 j (by omega)
    rw [hj] at h8
    rcases j with _ | j <;> simpa [Addr.add] using h8
  · obtain ⟨i, hil, hi2⟩ := List.mem_iff_getElem.1 hu
    have h8 := h3 i u (by omega) (by rw [List.getElem?_eq_getElem hil, hi2])
    obtain ⟨A', c', e, _⟩ := h8.formC
    rw [e]
    rfl
  · intro g' cap' w' k1 k2 _ k4
    have hl : 1 + vs.length = sl.length + 1 := by omega
    rw [hl] at k1 ⊢
    refine h _ _ w' ?_ k2
    have hA0 := hX.far k2 (fun k hk e => apartRE hown hX k hk e)
    intro _
    refine ⟨g', 0, rfl, k4, fun i hi => ?_⟩
    have hc := World.ownsRow.cellAt k1 i (by rw [List.length_cons] at hi; omega)
    rcases i with _ | i
    · obtain ⟨A', c', e, q1, q2⟩ := hA0.formC
      exact ⟨A', c', by rw [Nat.zero_add, hc, e]; rfl, q1, q2⟩
    · have hi' : i < sl.length := by rw [List.length_cons] at hi; omega
      have hu : vs[i]? = some (vs[i]'(by omega)) := List.getElem?_eq_getElem _
      have h8 := h3 i _ hi' hu
      obtain ⟨A', c', e, q1, q2⟩ := (h8.far k2 (fun k hk e => apartRE hown h8 k hk e)).formC
      rw [e] at hu
      refine ⟨A', c', ?_, q1, q2⟩
      rw [Nat.zero_add, hc, List.singleton_append, List.getElem?_cons_succ]
      exact hu

/-- a call's end: a stack and two texts -/
def DRsl (w : World) (e : Ending) (w' : World) : Prop := ∃ (v : Value) (sl : List (List Ent)) (s k : ByteArray), e = .returned (.tuple #[v, .string s, .string k]) ∧ ShortS sl ∧ Stk w' w.heap.size v sl ∧ s.size ≤ 41 ∧ k.size ≤ 41 ∧ Grows w w'
set_option maxRecDepth 100000 in
set_option maxHeartbeats 4000000 in
theorem DrawResolve_any (A : Option Addr) (n c : Nat) (w : World) (hn : n ≤ maxLen) (hc : n ≤ c) (h : BytesAt w A n) :
    Calls Tryd.prog 59 #[.slice A n c] w (DRsl w) := by
  have HB := Lib.hid h
  clear h
  go_enter Tryd.func59, Tryd.ntmps59
  go_wp2_with fail
  refine (newReader_any A n c _ hn hc HB.out).mono ?_
  rintro e w1 ⟨A1, n1, c1, g, rfl, hn1, hg, r1, k1⟩
  have R1 := Lib.hid r1
  have G1 := Lib.hid k1
  have S1 := k1.size
  clear r1 k1
  go_wp2_with fail
  refine (aStack_any g A1 n1 c1 0 _ (by omega) hn1 R1.out).mono ?_
  rintro e w2 ⟨v, sl, rfl, hS, hO, q2, a2, b2, r2, k2⟩
  have G2 : Hid (Grows w w2) := G1.out.mark k2 (fun i hi => by injection hi with hi; omega)
  have R2 := Lib.hid r2
  have SS := Lib.hid hS
  have O2 := Lib.hid hO
  have HGL := Lib.hid R1.out.lt
  clear hS hO r2 k2
  go_wp2_with fail
  refine (aSection_any g A1 n1 c1 q2 _ (by omega) hn1 R2.out).mono ?_
  rintro e w3 ⟨s, rfl, hs, q3, a3, b3, r3, k3⟩
  have G3 : Hid (Grows w w3) := G2.out.mark k3 (fun i hi => by injection hi with hi; omega)
  have R3 := Lib.hid r3
  have O3 := Lib.hid (O2.out.far k3 HGL.out)
  clear O2 r3 k3
  go_wp2_with fail
  refine (aKey_any g A1 n1 c1 q3 _ (by omega) hn1 R3.out).mono ?_
  rintro e w4 ⟨k, rfl, hk, q4, a4, b4, r4, k4⟩
  have G4 : Hid (Grows w w4) := G3.out.mark k4 (fun i hi => by injection hi with hi; omega)
  have O4 := Lib.hid (O3.out.far k4 HGL.out)
  clear O3 r4 k4
  go_wp2
  refine bodyPost_ret (v := .tuple #[v, .string s, .string k]) (by simp [results, Tryd.results59, go_sem]) rfl ?_
  exact ⟨_, sl, s, k, rfl, SS.out, O4.out.less S1, hs, hk, G4.out⟩

end Go.Proofs.YtcecjdjfbgmogaaDoor
