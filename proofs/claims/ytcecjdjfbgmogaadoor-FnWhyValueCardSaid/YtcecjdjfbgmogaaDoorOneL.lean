/-
  Stacks that calls make: of one layer, of two layers; rows put behind rows; Resolve of both sides at them. Conditions: parts of at most 1048576 bytes.
-/
import Derived.Test.YtcecjdjfbgmogaaDoorRslI
import Derived.Test.YtcecjdjfbgmogaaDoorCutE
import Derived.Deep.Upon
namespace Go.Proofs.YtcecjdjfbgmogaaDoor
open Go.RowKit

theorem stack_one {w : World} {v : Value} {es : List Ent} {b g : Nat} (h : OwnE w b v es) (hc : w.cell? ⟨g, 0, none⟩ = some v) (hg : g < w.heap.size) : StackAt w (some ⟨g, 0, none⟩) [es] := fun _ => by
  obtain ⟨A, c, rfl, hl, hA⟩ := h.formC
  refine ⟨g, 0, rfl, hg, fun i hi => ?_⟩
  have h0 : i = 0 := by simp at hi; exact hi
  subst h0
  exact ⟨A, c, hc, hl, hA⟩
theorem stack_two {w : World} {v u : Value} {es fs : List Ent} {b d g : Nat} (h : OwnE w b v es) (k : OwnE w d u fs) (hc : w.cell? ⟨g, 0, none⟩ = some v) (hd : w.cell? ⟨g, 1, none⟩ = some u) (hg : g < w.heap.size) : StackAt w (some ⟨g, 0, none⟩) [es, fs] := fun _ => by
  obtain ⟨A, c, rfl, hl, hA⟩ := h.formC
  obtain ⟨B, e, rfl, hm, hB⟩ := k.formC
  refine ⟨g, 0, rfl, hg, fun i hi => ?_⟩
  have hi2 : i < 2 := hi
  match i, hi2 with
  | 0, _ => exact ⟨A, c, hc, hl, hA⟩
  | 1, _ => exact ⟨B, e, hd, hm, hB⟩
set_option maxRecDepth 100000 in
/-- all entries of a row put behind a row of the call's own -/
theorem appOwnE {w : World} {ops : Array Oper} {rest : List Oper} {o : Oper} {a : Act} {Q : Exit → Act → World → Prop} (hgd : o.guard = none) (s x : Operand)
    (ho : o.op = .call { callee := .builtin .append, args := #[s, x], argTypes := #[23, 23] })
    (base : Nat) (v : Value) (K : List Ent) (hs : a.eval s = v) (hown : OwnE w base v K) (u : Value) (b2 : Nat) (ns : List Ent) (hx : a.eval x = u) (hu : OwnE w b2 u ns)
    (hK : K.length ≤ 4194304) (hm2 : ns.length ≤ 1048576) (hbase : base ≤ w.heap.size)
    (h : ∀ v' w', Hid (OwnE w' base v' (K ++ ns)) → Hid (w.grownBy w' v.ownBlock) → wpList Tryd.prog ops Q rest (a.put o.dst v') w') : wpList Tryd.prog ops Q (o :: rest) a w := by
  obtain ⟨B, c, rfl, hc, hE⟩ := hu.formC
  rcases B with _ | ad
  · have hn : ns = [] := by
      rcases Nat.eq_zero_or_pos ns.length with h0 | h0
      · exact List.eq_nil_of_length_eq_zero h0
      · obtain ⟨b, oo, e, _⟩ := hE h0
        cases e
    subst hn
    obtain ⟨i0, hi, hz0, hz1, hz2⟩ := info_parts infoEntry
    obtain ⟨A, c0, hv, hc0, _⟩ := hown.formC
    refine wpList_plain hgd fun KK hKK => ?_
    have hr := run_append_nothing (P := Tryd.prog) w 23 23 o.type 66 i0 Tryd.underlying23 hi A K.length c0 hc0 (.slice none 0 c) (Src.ofNil w Tryd.underlying23 c)
    unfold Oper.wp execOp
    simp only [ho, resolve, invoke, builtin, Sem.run_bind, Sem.run_pure, Result.andThen_ok, List.map_toArray, List.map_cons, List.map_nil, hs, hx, List.length_nil, hv, hr]
    refine hKK _ _ (h _ w ?_ ?_)
    · unfold Hid
      rw [List.append_nil, ← hv]
      exact hown
    · exact World.grownBy.refl _ _
  · exact appAllE hgd s x ho base v K hs hown ad ns.length c ns hx rfl hE hK hm2 hbase h
theorem fit_one {es : List Ent} (h : EFit es) : ∀ l ∈ [es], EFit l := fun l hl => by
  rw [List.mem_singleton] at hl
  rw [hl]; exact h
theorem fit_two {es fs : List Ent} (h : EFit es) (g : EFit fs) : ∀ l ∈ [es, fs], EFit l := fun l hl => by
  rcases List.mem_cons.1 hl with h1 | h1
  · rw [h1]; exact h
  · rw [List.mem_singleton] at h1
    rw [h1]; exact g
/-- Resolve of the program at a stack of one layer that calls have made -/
theorem implRes1_own (v : Value) (b g : Nat) (es : List Ent) (s key : ByteArray) (w : World) (hf : EFit es) (h : OwnE w b v es) (hc : w.cell? ⟨g, 0, none⟩ = some v) (hg : g < w.heap.size) (hs : s.size ≤ 1048576) (hk : key.size ≤ 1048576) :
    Calls Tryd.prog 30 #[.slice (some ⟨g, 0, none⟩) 1 1, .string s, .string key] w fun e w' => e = .returned (.tuple #[.string (tellS [es] s key), .bool (tellB [es] s key)]) ∧ Grows w w' :=
  implResolve_any (some ⟨g, 0, none⟩) 1 [es] s key w (by simp) (fit_one hf) (stack_one h hc hg) hs hk
theorem implRes2_own (v u : Value) (b d g : Nat) (es fs : List Ent) (s key : ByteArray) (w : World) (hf : EFit es) (hf2 : EFit fs) (h : OwnE w b v es) (k : OwnE w d u fs) (hc : w.cell? ⟨g, 0, none⟩ = some v) (hd : w.cell? ⟨g, 1, none⟩ = some u) (hg : g < w.heap.size) (hs : s.size ≤ 1048576) (hk : key.size ≤ 1048576) :
    Calls Tryd.prog 30 #[.slice (some ⟨g, 0, none⟩) 2 2, .string s, .string key] w fun e w' => e = .returned (.tuple #[.string (tellS [es, fs] s key), .bool (tellB [es, fs] s key)]) ∧ Grows w w' :=
  implResolve_any (some ⟨g, 0, none⟩) 2 [es, fs] s key w (by simp) (fit_two hf hf2) (stack_two h k hc hd hg) hs hk
/-- merged layers tell what both tell -/
theorem tell_merge {xs bs : List Ent} (h : mergeB xs bs = true) (s k : ByteArray) : tellS [mergeL xs bs] s k = tellS [xs, bs] s k ∧ tellB [mergeL xs bs] s k = tellB [xs, bs] s k := by
  obtain ⟨h1, h2, h3, h4⟩ := mergeB_iff h
  rw [h4]
  obtain ⟨a1, a2⟩ := tell_yes (sl := [mergeR xs bs]) (by rw [vstack_one]; exact h3) s k
  obtain ⟨b1, b2⟩ := tell_yes (sl := [xs, bs]) (by rw [vstack_two, h1, h2]; rfl) s k
  rw [a1, a2, b1, b2, told_merge h1 h2 h3]
  exact ⟨rfl, rfl⟩
theorem implVL_own (v : Value) (b : Nat) (es : List Ent) (w : World) (hf : EFit es) (h : OwnE w b v es) :
    Calls Tryd.prog 17 #[.agg #[v]] w fun e w' => e = .returned (.bool (vlayer es)) ∧ Grows w w' := by
  obtain ⟨A, c, rfl, _, hA⟩ := h.formC
  exact implLayer_any A c es w hf hA
end Go.Proofs.YtcecjdjfbgmogaaDoor
