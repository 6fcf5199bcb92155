/-
  Stacks that the drawn laws' generator makes: aStack, and the arguments of Flatten and Resolve. Conditions: the reader's place is at most 40000.
-/
import Derived.Test.YtcecjdjfbgmogaaDoorGLay
import Derived.Test.YtcecjdjfbgmogaaDoorRslI
namespace Go.Proofs.YtcecjdjfbgmogaaDoor
open Go.RowKit

set_option maxRecDepth 100000 in
set_option maxHeartbeats 1000000 in
theorem oneB_any (b m k : Nat) (arr : Array Value) (t : TypeId) (g : Nat) (A : Option Addr) (n c p : Nat) (w : World) (hb : w.heap[b]? = some (.cells arr t (0, 0))) (hm0 : 0 < m) (hm1 : m ≤ 1000) (hS : ∀ i, i < m → ∃ x : Int, arr[i]? = some (.int .i64 x) ∧ 0 ≤ x ∧ x ≤ 6) (hbg : b ≠ g)
    (hp : p ≤ 100000) (hn : n ≤ 2000) (h : Rd w g A n c p) :
    Calls Tryd.prog 71 #[.pointer (some ⟨g, 0, none⟩), .slice (some ⟨b, 0, none⟩) m k] w fun e w' => ∃ x : Int, e = .returned (.int .i64 x) ∧ (0 ≤ x ∧ x ≤ 6) ∧ RdOn g A n c p 1 w w' := by
  have HP := Lib.hid (pick_any (m : Int) g A n c p w (by omega) (by omega) hp hn h)
  have HS := Lib.hid hS
  have HB : Hid (∀ w', w.grownBy w' (some g) → w'.heap[b]? = some (.cells arr t (0, 0))) := fun w' k => by
    have hlt : b < w.heap.size := by
      rcases Nat.lt_or_ge b w.heap.size with hlt | hge
      · exact hlt
      · rw [Array.getElem?_eq_none hge] at hb; cases hb
    exact (k.block b hlt (by intro e; injection e with e; exact hbg e)).trans hb
  clear hb hS h
  unfold PickRet at HP
  go_enter Tryd.func71, Tryd.ntmps71
  go_wp2_with fail
  refine (HP.out).mono ?_
  rintro e w1 ⟨x, rfl, hx0, hx1, hr, hg⟩
  obtain ⟨i, rfl⟩ := Int.eq_ofNat_of_zero_le hx0
  have hi : i < m := by have := hx1 (by omega); omega
  obtain ⟨s, hs1, hs2⟩ := HS.out i hi
  have HX := Lib.hid hs2
  have HR : Hid (RdOn g A n c p 1 w w1) := ⟨p + 1, by omega, Nat.le_refl _, hr, hg⟩
  have c0 : w1.cell? ⟨b, i, none⟩ = some (.int .i64 s) := (cell_of_row w1 b i _ _ _ (HB.out _ hg)).trans hs1
  clear hx1 hr hg hs1 hs2
  go_wp2
  go_ret
  exact ⟨s, rfl, HX.out, HR.out⟩

/-! ### rows of layers -/
def OwnRL (w : World) (base : Nat) (v : Value) (vs : List Value) : Prop := w.ownsRow base 25 1 v vs.length vs
theorem OwnRL.empty (w : World) (base : Nat) (hb : base ≤ w.heap.size) : OwnRL (w.alloc (.cells #[] 25)) base (.slice (some ⟨w.heap.size, 0, none⟩) 0 0) [] :=
  World.ownsRow_lit w #[] 0 hb (Nat.zero_le _) rfl
theorem OwnRL.lt {w : World} {base : Nat} {v : Value} {vs : List Value} (h : OwnRL w base v vs) : ∀ k, v.ownBlock = some k → base ≤ k ∧ k < w.heap.size := World.ownsRow.lt h
theorem OwnRL.far {a b : World} {base : Nat} {v : Value} {vs : List Value} {row : Option Nat} (h : OwnRL a base v vs) (hg : a.grownBy b row) (hne : ∀ k, v.ownBlock = some k → row ≠ some k) : OwnRL b base v vs := by
  refine World.ownsRow.kept h hg ?_
  rcases hb : v.ownBlock with _ | k
  · exact .inl rfl
  · exact .inr (fun e => hne k hb e.symm)
theorem OwnRL.keep {w w' : World} {base : Nat} {v : Value} {vs : List Value} (h : OwnRL w base v vs) (g : Grows w w') : OwnRL w' base v vs :=
  h.far (row := some w.heap.size) ⟨g.os, g.tape, g.output, g.size, fun i hi _ => g.block i hi⟩ (fun k hk e => by
    have := (h.lt k hk).2
    injection e with e
    omega)
theorem infoLayG : (Tryd.prog.info? 25).map (fun i => (i.zero, i.size, i.bytes)) = some (some (.agg #[.slice none 0 0]), 1, 24) := by kernel_rfl
theorem typesApart : 25 ≠ 66 := by decide
theorem apartRE {w : World} {b1 b2 : Nat} {v u : Value} {vs : List Value} {es : List Ent} (h1 : OwnRL w b1 v vs) (h2 : OwnE w b2 u es) : Apart u v := fun k hk e => by
  rcases h1.2 with ⟨rfl, _⟩ | ⟨g, cap, cur, rfl, _, hh, _⟩
  · cases e
  · rcases h2.2 with ⟨rfl, _⟩ | ⟨g2, cap2, cur2, rfl, _, hh2, _⟩
    · cases hk
    · have e1 : some g = some k := e
      have e2 : some g2 = some k := hk
      injection e1 with e1
      injection e2 with e2
      subst e1
      subst e2
      rw [hh] at hh2
      simp only [Option.some.injEq, Obj.cells.injEq] at hh2
      exact typesApart hh2.2.1
/-- one more layer -/
theorem appRL {w : World} {ops : Array Oper} {rest : List Oper} {o : Oper} {a : Act} {Q : Exit → Act → World → Prop} (hgd : o.guard = none) (s x : Operand)
    (ho : o.op = .call { callee := .builtin .append, args := #[s, x], argTypes := #[32, 32] })
    (base : Nat) (v : Value) (K : List Value) (hs : a.eval s = v) (hown : OwnRL w base v K) (ad : Addr) (A' : Option Addr) (n' c' : Nat) (hx : a.eval x = .slice (some ad) 1 1)
    (hnew : w.cell? ad = some (.slice A' n' c')) (hsp : ad.spot = none) (hK : K.length ≤ 1000) (hbase : base ≤ w.heap.size)
    (h : ∀ v' w', Hid (OwnRL w' base v' (K ++ [.slice A' n' c'])) → Hid (w.grownBy w' v.ownBlock) → Hid (Near v v' w) → wpList Tryd.prog ops Q rest (a.put o.dst v') w') : wpList Tryd.prog ops Q (o :: rest) a w := by
  obtain ⟨i0, hi, hz0, hz1, hz2⟩ := info_parts infoLayG
  refine wpList_append_lies _ hgd s x 32 ho base 25 i0 (.agg #[.slice none 0 0]) 1 24 Tryd.underlying32 hi hz0 hz1 hz2 rfl (by decide) v K.length K hs hown ad 1 1 [.slice A' n' c'] hx rfl (fun j u hj => ?_) (fun u hu => by rw [List.mem_singleton] at hu; subst hu; rfl) (by omega) (by unfold maxLen; omega) (by omega) hbase _ rfl ?_
  · have hj0 : j = 0 := by
      rcases j with _ | j
      · rfl
      · simp at hj
    subst hj0
    simp at hj
    subst hj
    obtain ⟨bb, oo, ss⟩ := ad
    simp only at hsp
    subst hsp
    simpa [Addr.add] using hnew
  · intro g cap w' h1 h2 h3 _
    refine h _ w' ?_ h2 (near_of h3)
    unfold Hid OwnRL
    rw [List.length_append]
    exact h1
/-- a stack that a call has made -/
def Stk (w : World) (base : Nat) (v : Value) (sl : List (List Ent)) : Prop := ∃ vs, OwnRL w base v vs ∧ vs.length = sl.length ∧ ∀ i u (h : i < sl.length), vs[i]? = some u → OwnE w base u sl[i]
theorem Stk.keep {w w' : World} {base : Nat} {v : Value} {sl : List (List Ent)} (h : Stk w base v sl) (g : Grows w w') : Stk w' base v sl := by
  obtain ⟨vs, h1, h2, h3⟩ := h
  exact ⟨vs, h1.keep g, h2, fun i u hi hu => (h3 i u hi hu).keep g⟩
theorem Stk.far {a b : World} {base g : Nat} {v : Value} {sl : List (List Ent)} (h : Stk a base v sl) (hg : a.grownBy b (some g)) (hb : g < base) : Stk b base v sl := by
  obtain ⟨vs, h1, h2, h3⟩ := h
  exact ⟨vs, h1.far hg (fun k hk e => by injection e with e; have := (h1.lt k hk).1; omega), h2, fun i u hi hu => (h3 i u hi hu).far hg (fun k hk e => by injection e with e; have := ((h3 i u hi hu).lt k hk).1; omega)⟩
theorem Stk.less {w : World} {base b2 : Nat} {v : Value} {sl : List (List Ent)} (h : Stk w base v sl) (hb : b2 ≤ base) : Stk w b2 v sl := by
  obtain ⟨vs, h1, h2, h3⟩ := h
  refine ⟨vs, ⟨h1.1, ?_⟩, h2, fun i u hi hu => (h3 i u hi hu).less hb⟩
  rcases h1.2 with h2 | ⟨g, cap, cur, hv, hg, hr⟩
  · exact .inl h2
  · exact .inr ⟨g, cap, cur, hv, by omega, hr⟩
theorem Stk.form {w : World} {base : Nat} {v : Value} {sl : List (List Ent)} (h : Stk w base v sl) : ∃ A c, v = .slice A sl.length c ∧ StackAt w A sl := by
  obtain ⟨vs, h1, h2, h3⟩ := h
  rcases Nat.eq_zero_or_pos vs.length with h0 | h0
  · rcases h1.2 with ⟨rfl, _⟩ | ⟨g, cap, cur, rfl, _⟩
    · exact ⟨none, 0, by rw [← h2, h0], fun hh => absurd hh (by omega)⟩
    · exact ⟨_, _, by rw [← h2], fun hh => absurd hh (by omega)⟩
  · obtain ⟨g, cap, hv, hb, hlt⟩ := World.ownsRow.form h1 h0
    subst hv
    refine ⟨_, _, by rw [← h2], fun _ => ⟨g, 0, rfl, hlt, fun i hi => ?_⟩⟩
    have hu : vs[i]? = some (vs[i]'(by omega)) := List.getElem?_eq_getElem _
    obtain ⟨A', c', e, h6, h7⟩ := (h3 i _ hi hu).formC
    rw [e] at hu
    exact ⟨A', c', by rw [Nat.zero_add]; exact (World.ownsRow.cellAt h1 i (by omega)).trans hu, h6, h7⟩
theorem Stk.push {w : World} {base : Nat} {vs : List Value} {sl : List (List Ent)} {u : Value} {es : List Ent} (h2 : vs.length = sl.length) (h3 : ∀ i x (h : i < sl.length), vs[i]? = some x → OwnE w base x sl[i]) (h4 : OwnE w base u es) :
    (vs ++ [u]).length = (sl ++ [es]).length ∧ ∀ i x (h : i < (sl ++ [es]).length), (vs ++ [u])[i]? = some x → OwnE w base x (sl ++ [es])[i] := by
  refine ⟨by simp [h2], fun i x hi hx => ?_⟩
  by_cases e : i < sl.length
  · rw [List.getElem?_append_left (by omega)] at hx
    rw [List.getElem_append_left e]
    exact h3 i x e hx
  · have hi' : i = sl.length := by simp at hi; omega
    subst hi'
    rw [List.getElem?_append_right (by omega), h2] at hx
    simp at hx
    subst hx
    rw [List.getElem_append_right (by omega)]
    simpa using h4
def ShortS (sl : List (List Ent)) : Prop := sl.length ≤ 6 ∧ ∀ l ∈ sl, ShortE l ∧ l.length ≤ 101
theorem ShortS.fit {sl : List (List Ent)} (h : ShortS sl) : ∀ l ∈ sl, EFit l := fun l hl => (h.2 l hl).1.fit (h.2 l hl).2
/-- a call's end: a stack -/
def StackGen (d g : Nat) (A : Option Addr) (n c p : Nat) (w : World) (e : Ending) (w' : World) : Prop :=
  ∃ (v : Value) (sl : List (List Ent)), e = .returned v ∧ ShortS sl ∧ Stk w' w.heap.size v sl ∧ RdOn g A n c p d w w'

set_option maxRecDepth 100000 in
set_option maxHeartbeats 8000000 in
theorem aStack_any (g : Nat) (A : Option Addr) (n c p : Nat) (w : World) (hp : p ≤ 40000) (hn : n ≤ 2000) (h : Rd w g A n c p) :
    Calls Tryd.prog 82 #[.pointer (some ⟨g, 0, none⟩)] w (StackGen 5500 g A n c p w) := by
  have HH0 := Lib.hid h
  have HR := Lib.hid (fun o o2 => h.keep (((Grows.refl w).alloc o).alloc o2))
  have HL2 := Lib.hid (show w.heap.size + 1 ≠ g from by have := h.lt; omega)
  have hgl := h.lt
  clear h
  go_enter Tryd.func82, Tryd.ntmps82
  go_wp2_with fail
  refine (oneB_any (w.heap.size + 1) 7 _ _ _ g A n c p _ (alloc_new2 w _ _) (by decide) (by decide) (fun i hi => by
    match i, hi with
    | 0, _ => exact ⟨3, rfl, by omega, by omega⟩
    | 1, _ => exact ⟨2, rfl, by omega, by omega⟩
    | 2, _ => exact ⟨4, rfl, by omega, by omega⟩
    | 3, _ => exact ⟨1, rfl, by omega, by omega⟩
    | 4, _ => exact ⟨0, rfl, by omega, by omega⟩
    | 5, _ => exact ⟨5, rfl, by omega, by omega⟩
    | 6, _ => exact ⟨6, rfl, by omega, by omega⟩) HL2.out (by omega) hn (HR.out _ _)).mono ?_
  rintro e w1 ⟨x, rfl, ⟨hx0, hx1⟩, q1, a1, b1, r1, k1⟩
  have G1 : Hid (w.grownBy w1 (some g)) := (gb_of (((Grows.refl w).alloc _).alloc _)).trans k1
  have R1 := Lib.hid r1
  have O1 : Hid (OwnRL w1 w.heap.size (.slice (some ⟨w.heap.size, 0, none⟩) 0 0) []) := OwnRL.far ((OwnRL.empty w w.heap.size (Nat.le_refl _)).keep ((Grows.refl _).alloc _)) k1 (fun k hk e => by injection e with e; have hk' : some w.heap.size = some k := hk; injection hk' with hk'; omega)
  clear r1 k1
  go_wp2_with fail
  go_loopw [3, 4] (fun v i wr => ∃ (y : Int) (vs : List Value) (sl : List (List Ent)) (q : Nat), i = .int .i64 y ∧ 0 ≤ y ∧ y ≤ 6 ∧ (sl.length : Int) + y ≤ 6 ∧ (q : Int) ≤ p + 1 + 905 * (6 - y) ∧ p ≤ q ∧ Hid (∀ l ∈ sl, ShortE l ∧ l.length ≤ 101) ∧ Hid (OwnRL wr w.heap.size v vs) ∧ vs.length = sl.length ∧ Hid (∀ i u (h : i < sl.length), vs[i]? = some u → OwnE wr w.heap.size u sl[i]) ∧ Hid (Rd wr g A n c q) ∧ Hid (w.grownBy wr (some g))) (fun _ i _ => (intOf i).toNat)
  case atStart => exact ⟨x, [], [], q1, rfl, by omega, by omega, by simp; omega, by omega, by omega, (fun l h => by cases h), O1.out, rfl, (fun i u h => absurd h (Nat.not_lt_zero _)), R1.out, G1.out⟩
  case round =>
    obtain ⟨y, vs, sl, q, rfl, hy0, hy1, hsy, hq, hq0, HS, HO, hvl, HEL, HRd, HG⟩ := hrel
    by_cases hlt : 0 < y
    · go_wp2_with fail
      refine (pick_any 12 g A n c q _ (by omega) (by omega) (by omega) hn HRd.out).mono ?_
      rintro e w2 ⟨z, rfl, hz0, hz1, r2, k2⟩
      have R2 := Lib.hid r2
      have K2 := Lib.hid k2
      clear r2 k2 hz1
      by_cases hz : z = 0
      · subst hz
        go_wp2_with fail
        refine (someLayer_any g A n c _ _ (by omega) hn R2.out).mono ?_
        rintro e w5 ⟨u, L, rfl, hS5, hL5, hO5, q5, a5, b5, r5, k5⟩
        have K5 := Lib.hid (K2.out.trans k5)
        have hs25 : w.heap.size ≤ w2.heap.size := by have h1 := HG.out.size; have h2 := K2.out.size; omega
        have U5 : Hid (OwnE w5 w.heap.size u L) := hO5.less hs25
        have V5 := Lib.hid (HO.out.far K5.out (fun k hk e => by injection e with e; have := (HO.out.lt k hk).1; omega))
        have E5 := Lib.hid (fun i x (h : i < sl.length) (hx : vs[i]? = some x) => (HEL.out i x h hx).far K5.out (fun k hk e => by injection e with e; have := ((HEL.out i x h hx).lt k hk).1; omega))
        have R5 := Lib.hid r5
        have HS5 : Hid (∀ l ∈ sl ++ [L], ShortE l ∧ l.length ≤ 101) := fun l hl => by
          rcases List.mem_append.1 hl with h | h
          · exact HS.out l h
          · rw [List.mem_singleton] at h
            subst h
            exact ⟨hS5, by omega⟩
        have G5 : Hid (w.grownBy w5 (some g)) := HG.out.trans K5.out
        obtain ⟨A5, n5, c5, rfl⟩ := U5.out.form3
        have hs5 : w.heap.size ≤ w5.heap.size := G5.out.size
        clear hO5 r5 k5 hS5
        go_wp2_with (at_builtin; refine appRL rfl _ _ rfl w.heap.size _ vs rfl (V5.out.keep ((Grows.refl w5).alloc _)) ⟨w5.heap.size, 0, none⟩ A5 n5 c5 rfl (by simp) rfl (by omega) (Nat.le_trans hs5 (by simp)) ?_)
        intro v' w6 HR6 HGB HNE
        have HGA := Lib.hid ((gb_of2 ((Grows.refl w5).alloc (.cells #[.slice A5 n5 c5] 25)) _).trans HGB.out)
        have U6 := Lib.hid (U5.out.far HGA.out (fun k hk e => apartRE V5.out U5.out k hk e))
        have E6 := Lib.hid (fun i x (h : i < sl.length) (hx : vs[i]? = some x) => (E5.out i x h hx).far HGA.out (fun k hk e => apartRE V5.out (E5.out i x h hx) k hk e))
        have HPU := Lib.hid (Stk.push hvl E6.out U6.out)
        have hrow := fun i hi => (V5.out.lt i hi).1
        have R6 : Hid (Rd w6 g A n c q5) := HH0.out.newRow R5.out HGA.out hrow
        have G6 : Hid (w.grownBy w6 (some g)) := gb_row G5.out HGA.out hrow
        clear HGB HNE
        go_wp2
        go_roundw
        case rel => exact ⟨y - 1, vs ++ [Value.slice A5 n5 c5], sl ++ [L], q5, by go_num, by omega, by omega, by simp; omega, by omega, by omega, HS5, HR6, HPU.out.1, HPU.out.2, R6, G6⟩
        case measure => (simp [intOf]; try omega)
      · have hzb : (z == 0) = false := by rw [beq_eq_false_iff_ne]; exact hz
        clear hz
        go_wp2_with fail
        refine (pick_any 3 g A n c _ _ (by omega) (by omega) (by omega) hn R2.out).mono ?_
        rintro e w3 ⟨z3, rfl, hz30, hz31, r3, k3⟩
        have R3 := Lib.hid r3
        have K3 := Lib.hid (K2.out.trans k3)
        clear r3 k3 hz31
        obtain ⟨fl, hfl⟩ : ∃ fl, (z3 == 0) = fl := ⟨_, rfl⟩
        have HFL := Lib.hid hfl
        clear hfl
        rcases fl with _ | _
        · have hfl := HFL.out
          go_wp2_with fail
          refine (goodEntries_any g A n c _ _ false (by omega) hn R3.out).mono ?_
          rintro e w5 ⟨u, L, rfl, hS5, hL5, hO5, q5, a5, b5, r5, k5⟩
          have K5 := Lib.hid (K3.out.trans k5)
          have hs25 : w.heap.size ≤ w3.heap.size := by have h1 := HG.out.size; have h2 := K3.out.size; omega
          have U5 : Hid (OwnE w5 w.heap.size u L) := hO5.less hs25
          have V5 := Lib.hid (HO.out.far K5.out (fun k hk e => by injection e with e; have := (HO.out.lt k hk).1; omega))
          have E5 := Lib.hid (fun i x (h : i < sl.length) (hx : vs[i]? = some x) => (HEL.out i x h hx).far K5.out (fun k hk e => by injection e with e; have := ((HEL.out i x h hx).lt k hk).1; omega))
          have R5 := Lib.hid r5
          have HS5 : Hid (∀ l ∈ sl ++ [L], ShortE l ∧ l.length ≤ 101) := fun l hl => by
            rcases List.mem_append.1 hl with h | h
            · exact HS.out l h
            · rw [List.mem_singleton] at h
              subst h
              exact ⟨hS5, by omega⟩
          have G5 : Hid (w.grownBy w5 (some g)) := HG.out.trans K5.out
          obtain ⟨A5, n5, c5, rfl⟩ := U5.out.form3
          have hs5 : w.heap.size ≤ w5.heap.size := G5.out.size
          clear hO5 r5 k5 hS5
          go_wp2_with (at_builtin; refine appRL rfl _ _ rfl w.heap.size _ vs rfl (V5.out.keep ((Grows.refl w5).alloc _)) ⟨w5.heap.size, 0, none⟩ A5 n5 c5 rfl (by simp) rfl (by omega) (Nat.le_trans hs5 (by simp)) ?_)
          intro v' w6 HR6 HGB HNE
          have HGA := Lib.hid ((gb_of2 ((Grows.refl w5).alloc (.cells #[.slice A5 n5 c5] 25)) _).trans HGB.out)
          have U6 := Lib.hid (U5.out.far HGA.out (fun k hk e => apartRE V5.out U5.out k hk e))
          have E6 := Lib.hid (fun i x (h : i < sl.length) (hx : vs[i]? = some x) => (E5.out i x h hx).far HGA.out (fun k hk e => apartRE V5.out (E5.out i x h hx) k hk e))
          have HPU := Lib.hid (Stk.push hvl E6.out U6.out)
          have hrow := fun i hi => (V5.out.lt i hi).1
          have R6 : Hid (Rd w6 g A n c q5) := HH0.out.newRow R5.out HGA.out hrow
          have G6 : Hid (w.grownBy w6 (some g)) := gb_row G5.out HGA.out hrow
          clear HGB HNE
          go_wp2
          go_roundw
          case rel => exact ⟨y - 1, vs ++ [Value.slice A5 n5 c5], sl ++ [L], q5, by go_num, by omega, by omega, by simp; omega, by omega, by omega, HS5, HR6, HPU.out.1, HPU.out.2, R6, G6⟩
          case measure => (simp [intOf]; try omega)
        · have hfl : z3 = 0 := by have := HFL.out; simpa using this
          subst hfl
          go_wp2_with fail
          refine (goodEntries_any g A n c _ _ true (by omega) hn R3.out).mono ?_
          rintro e w5 ⟨u, L, rfl, hS5, hL5, hO5, q5, a5, b5, r5, k5⟩
          have K5 := Lib.hid (K3.out.trans k5)
          have hs25 : w.heap.size ≤ w3.heap.size := by have h1 := HG.out.size; have h2 := K3.out.size; omega
          have U5 : Hid (OwnE w5 w.heap.size u L) := hO5.less hs25
          have V5 := Lib.hid (HO.out.far K5.out (fun k hk e => by injection e with e; have := (HO.out.lt k hk).1; omega))
          have E5 := Lib.hid (fun i x (h : i < sl.length) (hx : vs[i]? = some x) => (HEL.out i x h hx).far K5.out (fun k hk e => by injection e with e; have := ((HEL.out i x h hx).lt k hk).1; omega))
          have R5 := Lib.hid r5
          have HS5 : Hid (∀ l ∈ sl ++ [L], ShortE l ∧ l.length ≤ 101) := fun l hl => by
            rcases List.mem_append.1 hl with h | h
            · exact HS.out l h
            · rw [List.mem_singleton] at h
              subst h
              exact ⟨hS5, by omega⟩
          have G5 : Hid (w.grownBy w5 (some g)) := HG.out.trans K5.out
          obtain ⟨A5, n5, c5, rfl⟩ := U5.out.form3
          have hs5 : w.heap.size ≤ w5.heap.size := G5.out.size
          clear hO5 r5 k5 hS5
          go_wp2_with (at_builtin; refine appRL rfl _ _ rfl w.heap.size _ vs rfl (V5.out.keep ((Grows.refl w5).alloc _)) ⟨w5.heap.size, 0, none⟩ A5 n5 c5 rfl (by simp) rfl (by omega) (Nat.le_trans hs5 (by simp)) ?_)
          intro v' w6 HR6 HGB HNE
          have HGA := Lib.hid ((gb_of2 ((Grows.refl w5).alloc (.cells #[.slice A5 n5 c5] 25)) _).trans HGB.out)
          have U6 := Lib.hid (U5.out.far HGA.out (fun k hk e => apartRE V5.out U5.out k hk e))
          have E6 := Lib.hid (fun i x (h : i < sl.length) (hx : vs[i]? = some x) => (E5.out i x h hx).far HGA.out (fun k hk e => apartRE V5.out (E5.out i x h hx) k hk e))
          have HPU := Lib.hid (Stk.push hvl E6.out U6.out)
          have hrow := fun i hi => (V5.out.lt i hi).1
          have R6 : Hid (Rd w6 g A n c q5) := HH0.out.newRow R5.out HGA.out hrow
          have G6 : Hid (w.grownBy w6 (some g)) := gb_row G5.out HGA.out hrow
          clear HGB HNE
          go_wp2
          go_roundw
          case rel => exact ⟨y - 1, vs ++ [Value.slice A5 n5 c5], sl ++ [L], q5, by go_num, by omega, by omega, by simp; omega, by omega, by omega, HS5, HR6, HPU.out.1, HPU.out.2, R6, G6⟩
          case measure => (simp [intOf]; try omega)
    · obtain rfl : y = 0 := by omega
      go_wp2
      go_ret
      exact ⟨_, sl, rfl, ⟨by omega, HS.out⟩, ⟨vs, HO.out, hvl, HEL.out⟩, ⟨q, by omega, by omega, HRd.out, HG.out⟩⟩

/-- a call's end: a stack -/
def DStk (w : World) (e : Ending) (w' : World) : Prop := ∃ (v : Value) (sl : List (List Ent)), e = .returned v ∧ ShortS sl ∧ Stk w' w.heap.size v sl ∧ Grows w w'
end Go.Proofs.YtcecjdjfbgmogaaDoor
