/-
  Maps of texts and of marks by places, in memory: what looking up, storing and deleting do at the operation. Conditions: parts of at most 1048576 bytes.
-/
import Derived.Test.YtkjoolmhcfajnaaDoorRslP
namespace Go.Proofs.YtkjoolmhcfajnaaDoor
open Go.RowKit

def strD (v : ByteArray) : DataW Unit := .lit (.string v.data.toList)
def strR : Value → Option (DataW Unit × List MemPlace)
  | .string v => some (strD v, [])
  | _ => none
theorem strR_mk (v : ByteArray) : strR (.string v) = some (strD v, []) := rfl
theorem strD_inj {a b : ByteArray} (h : strD a = strD b) : a = b := by
  unfold strD at h
  simp only [DataW.lit.injEq, Lit.string.injEq] at h
  exact data_inj h
theorem strR_inv {v : Value} {z : DataW Unit × List MemPlace} (h : strR v = some z) : ∃ s, v = .string s ∧ z = (strD s, []) := by
  unfold strR at h
  split at h
  · rename_i s
    exact ⟨s, rfl, (Option.some.inj h).symm⟩
  · cases h
def setV (V : PV) (s k v : ByteArray) : PV := fun a b => if s = a ∧ k = b then some v else V a b
def delV (V : PV) (s k : ByteArray) : PV := fun a b => if s = a ∧ k = b then none else V a b
theorem layV_set {V : PV} {e : Ent} {v : ByteArray} (h : stepV (V e.s e.k) e = some v) : layV V e = setV V e.s e.k v := by
  funext a b
  unfold layV setV
  by_cases h1 : e.of a b = true
  · have h2 := (of_iff e a b).1 h1
    rw [if_pos h1, if_pos h2, ← h2.1, ← h2.2, h]
  · rw [if_neg h1, if_neg (fun h2 => h1 ((of_iff e a b).2 h2))]
theorem layV_del {V : PV} {e : Ent} (h : stepV (V e.s e.k) e = none) : layV V e = delV V e.s e.k := by
  funext a b
  unfold layV delV
  by_cases h1 : e.of a b = true
  · have h2 := (of_iff e a b).1 h1
    rw [if_pos h1, if_pos h2, ← h2.1, ← h2.2, h]
  · rw [if_neg h1, if_neg (fun h2 => h1 ((of_iff e a b).2 h2))]
def TellsV (D : DataW Unit) (V : PV) : Prop := Maps.IsMap D ∧ ∀ s k, s.size ≤ 1048576 → k.size ≤ 1048576 → Maps.has D (pk s k) = (V s k).isSome ∧ D.atKey (pk s k) (strD ⟨#[]⟩) = strD ((V s k).getD ⟨#[]⟩)
theorem TellsV.put {D : DataW Unit} {V : PV} {s k v : ByteArray} (h : TellsV D V) (hi : Maps.IsMap (D.put (pk s k) (strD v))) (hs : s.size ≤ 1048576) (hk : k.size ≤ 1048576) : TellsV (D.put (pk s k) (strD v)) (setV V s k v) := by
  refine ⟨hi, fun a b ha hb => ?_⟩
  unfold setV
  by_cases h1 : s = a ∧ k = b
  · obtain ⟨rfl, rfl⟩ := h1
    rw [if_pos ⟨rfl, rfl⟩]
    exact ⟨Maps.has_put_same h.1 (pk_key _ _) _, Maps.atKey_put_same h.1 (pk_key _ _) _ _⟩
  · rw [if_neg h1]
    have h2 : pk a b ≠ pk s k := fun e => by
      obtain ⟨h3, h4⟩ := pk_inj ha hb hs hk e
      exact h1 ⟨h3.symm, h4.symm⟩
    rw [Maps.has_put_other h2, Maps.atKey_put_other h2]
    exact h.2 a b ha hb
theorem TellsV.del {D : DataW Unit} {V : PV} {s k : ByteArray} (h : TellsV D V) (hi : Maps.IsMap (D.del (pk s k))) (hs : s.size ≤ 1048576) (hk : k.size ≤ 1048576) : TellsV (D.del (pk s k)) (delV V s k) := by
  refine ⟨hi, fun a b ha hb => ?_⟩
  unfold delV
  by_cases h1 : s = a ∧ k = b
  · obtain ⟨rfl, rfl⟩ := h1
    rw [if_pos ⟨rfl, rfl⟩]
    exact ⟨Maps.has_del_same, Maps.atKey_del_same _⟩
  · rw [if_neg h1]
    have h2 : pk a b ≠ pk s k := fun e => by
      obtain ⟨h3, h4⟩ := pk_inj ha hb hs hk e
      exact h1 ⟨h3.symm, h4.symm⟩
    rw [Maps.has_del_other h2, Maps.atKey_del_other h2]
    exact h.2 a b ha hb
/-- block b is a map with these values, of at most n places -/
def MapV (w : World) (b n : Nat) (V : PV) : Prop := ∃ D, w.ownsMap Tryd.prog 47 strR b n D ∧ TellsV D V
theorem MapV.lt {w : World} {b n : Nat} {V : PV} (h : MapV w b n V) : b < w.heap.size := by
  obtain ⟨D, h1, _⟩ := h
  exact h1.lt
theorem MapV.far {w w' : World} {b n : Nat} {V : PV} {row : Option Nat} (h : MapV w b n V) (g : w.grownBy w' row) (hne : some b ≠ row) : MapV w' b n V := by
  obtain ⟨D, h1, h2⟩ := h
  exact ⟨D, h1.kept g hne, h2⟩
theorem MapV.keep {w w' : World} {b n : Nat} {V : PV} (h : MapV w b n V) (g : Grows w w') : MapV w' b n V :=
  h.far (row := some w.heap.size) ⟨g.os, g.tape, g.output, g.size, fun i hi _ => g.block i hi⟩ (fun e => by
    have := h.lt
    injection e with e
    omega)
theorem MapV.new (w : World) : MapV (w.alloc (.map #[] 0)) w.heap.size 0 noV := ⟨_, World.ownsMap_made _ _ _ _, ⟨_, rfl⟩, fun _ _ _ _ => ⟨rfl, rfl⟩⟩
theorem infoStrV : (Tryd.prog.info? 9).map (fun i => (i.zero, i.size, i.bytes)) = some (some (.string ⟨#[]⟩), 1, 16) := by kernel_rfl
theorem zeroString (w : World) : (zeroValue 9).run Tryd.prog w = .ok (.string ⟨#[]⟩) w := by
  obtain ⟨i0, hi, hz0, _⟩ := info_parts infoStrV
  simp [zeroValue, typeInfo, hi, hz0]

section
variable {w : World} {ops : Array Oper} {rest : List Oper} {o : Oper} {a : Act} {Q : Exit → Act → World → Prop}
theorem lookV_ok (hg : o.guard = none) (m x : Operand) (hop : o.op = Op.lookup 53 m x true) (b n : Nat) (V : PV) (hown : MapV w b n V) (hm : a.eval m = .map (some b)) (s k : ByteArray) (hx : a.eval x = .agg #[.string s, .string k]) (hs : s.size ≤ 1048576) (hk : k.size ≤ 1048576)
    (hK : wpList Tryd.prog ops Q rest (a.put o.dst (.tuple #[.string ((V s k).getD ⟨#[]⟩), .bool (V s k).isSome])) w) : wpList Tryd.prog ops Q (o :: rest) a w := by
  obtain ⟨D, h1, h2⟩ := hown
  refine wpList_lookup_own_ok w hg m x 53 hop 47 9 placeLaw Tryd.underlying53 strR (zeroString w) (strD ⟨#[]⟩) [] (strR_mk _) b n D hm h1 _ (pk s k) hx (keyOf_place s k hs hk) ?_
  intro v ps hv
  obtain ⟨e, rfl, he⟩ := strR_inv hv
  have h3 := congrArg Prod.fst he
  simp only [] at h3
  obtain ⟨h4, h5⟩ := h2.2 s k hs hk
  rw [h5] at h3
  rw [← strD_inj h3, h4]
  exact hK
theorem putV_any (hg : o.guard = none) (m x v : Operand) (hop : o.op = Op.mapUpdate 53 m x v) (b n : Nat) (V : PV) (hown : MapV w b n V) (hm : a.eval m = .map (some b)) (s k u : ByteArray) (hx : a.eval x = .agg #[.string s, .string k]) (hv : a.eval v = .string u) (hs : s.size ≤ 1048576) (hk : k.size ≤ 1048576) (hn : n ≤ 1048576)
    (hK : ∀ w', Hid (MapV w' b (n + 1) (setV V s k u)) → Hid (w.grownBy w' (some b)) → wpList Tryd.prog ops Q rest (a.put o.dst undef) w') : wpList Tryd.prog ops Q (o :: rest) a w := by
  obtain ⟨D, h1, h2⟩ := hown
  refine wpList_mapUpdate_own w hg m x v 53 hop 47 9 placeLaw Tryd.underlying53 strR b n D hm h1 (by unfold maxLen; omega) _ _ (pk s k) hx hv (keyOf_place s k hs hk) (strD u) [] (strR_mk u) ?_
  intro w' h3 h4
  exact hK w' ⟨_, h3, h2.put h3.isMap hs hk⟩ h4
theorem delV_any (hg : o.guard = none) (m x : Operand) (hop : o.op = Op.call { callee := Callee.builtin Builtin.delete, args := #[m, x], argTypes := #[53, 47] }) (b n : Nat) (V : PV) (hown : MapV w b n V) (hm : a.eval m = .map (some b)) (s k : ByteArray) (hx : a.eval x = .agg #[.string s, .string k]) (hs : s.size ≤ 1048576) (hk : k.size ≤ 1048576)
    (hK : ∀ w', Hid (MapV w' b n (delV V s k)) → Hid (w.grownBy w' (some b)) → wpList Tryd.prog ops Q rest (a.put o.dst (.tuple #[])) w') : wpList Tryd.prog ops Q (o :: rest) a w := by
  obtain ⟨D, h1, h2⟩ := hown
  refine wpList_delete_own w hg m x 53 47 hop 9 placeLaw Tryd.underlying53 strR b n D hm h1 _ (pk s k) hx (keyOf_place s k hs hk) ?_
  intro w' h3 h4
  exact hK w' ⟨_, h3, h2.del h3.isMap hs hk⟩ h4.grown
end

/-! ### marks by places -/
def bitD (v : Bool) : DataW Unit := .lit (.bool v)
def bitR : Value → Option (DataW Unit × List MemPlace)
  | .bool v => some (bitD v, [])
  | _ => none
theorem bitR_mk (v : Bool) : bitR (.bool v) = some (bitD v, []) := rfl
theorem bitR_inv {v : Value} {z : DataW Unit × List MemPlace} (h : bitR v = some z) : ∃ s, v = .bool s ∧ z = (bitD s, []) := by
  unfold bitR at h
  split at h
  · rename_i s
    exact ⟨s, rfl, (Option.some.inj h).symm⟩
  · cases h
def TellsB (D : DataW Unit) (es : List Ent) : Prop := Maps.IsMap D ∧ ∀ s k, s.size ≤ 1048576 → k.size ≤ 1048576 → D.atKey (pk s k) (bitD false) = bitD (es.any fun y => y.of s k)
/-- block b is a map that marks the places of these entries -/
def MapB (w : World) (b n : Nat) (es : List Ent) : Prop := ∃ D, w.ownsMap Tryd.prog 47 bitR b n D ∧ TellsB D es
theorem MapB.lt {w : World} {b n : Nat} {es : List Ent} (h : MapB w b n es) : b < w.heap.size := by
  obtain ⟨D, h1, _⟩ := h
  exact h1.lt
theorem MapB.far {w w' : World} {b n : Nat} {es : List Ent} {row : Option Nat} (h : MapB w b n es) (g : w.grownBy w' row) (hne : some b ≠ row) : MapB w' b n es := by
  obtain ⟨D, h1, h2⟩ := h
  exact ⟨D, h1.kept g hne, h2⟩
theorem MapB.keep {w w' : World} {b n : Nat} {es : List Ent} (h : MapB w b n es) (g : Grows w w') : MapB w' b n es :=
  h.far (row := some w.heap.size) ⟨g.os, g.tape, g.output, g.size, fun i hi _ => g.block i hi⟩ (fun e => by
    have := h.lt
    injection e with e
    omega)
theorem MapB.new (w : World) : MapB (w.alloc (.map #[] 0)) w.heap.size 0 [] := ⟨_, World.ownsMap_made _ _ _ _, ⟨_, rfl⟩, fun _ _ _ _ => rfl⟩
theorem TellsB.put {D : DataW Unit} {es : List Ent} (h : TellsB D es) (e : Ent) (hi : Maps.IsMap (D.put (pk e.s e.k) (bitD true))) (hf : e.fit) : TellsB (D.put (pk e.s e.k) (bitD true)) (es ++ [e]) := by
  refine ⟨hi, fun a b ha hb => ?_⟩
  rw [List.any_append]
  simp only [List.any_cons, List.any_nil, Bool.or_false]
  by_cases h1 : e.of a b = true
  · obtain ⟨h2, h3⟩ := (of_iff e a b).1 h1
    rw [h1, Bool.or_true, ← h2, ← h3]
    exact Maps.atKey_put_same h.1 (pk_key _ _) _ _
  · have h2 : pk a b ≠ pk e.s e.k := fun h => by
      obtain ⟨h3, h4⟩ := pk_inj ha hb hf.1 hf.2 h
      exact h1 ((of_iff e a b).2 ⟨h3.symm, h4.symm⟩)
    have h1' : e.of a b = false := by simpa using h1
    rw [Maps.atKey_put_other h2, h1', Bool.or_false]
    exact h.2 a b ha hb
theorem infoBit : (Tryd.prog.info? 4).map (fun i => (i.zero, i.size, i.bytes)) = some (some (.bool false), 1, 1) := by kernel_rfl
theorem zeroBool (w : World) : (zeroValue 4).run Tryd.prog w = .ok (.bool false) w := by
  obtain ⟨i0, hi, hz0, _⟩ := info_parts infoBit
  simp [zeroValue, typeInfo, hi, hz0]
section
variable {w : World} {ops : Array Oper} {rest : List Oper} {o : Oper} {a : Act} {Q : Exit → Act → World → Prop}
theorem lookB_any (hg : o.guard = none) (m x : Operand) (hop : o.op = Op.lookup 71 m x false) (b n : Nat) (es : List Ent) (hown : MapB w b n es) (hm : a.eval m = .map (some b)) (s k : ByteArray) (hx : a.eval x = .agg #[.string s, .string k]) (hs : s.size ≤ 1048576) (hk : k.size ≤ 1048576)
    (hK : wpList Tryd.prog ops Q rest (a.put o.dst (.bool (es.any fun y => y.of s k))) w) : wpList Tryd.prog ops Q (o :: rest) a w := by
  obtain ⟨D, h1, h2⟩ := hown
  refine wpList_lookup_plain w hg m x 71 hop 47 4 placeLaw Tryd.underlying71 bitR (zeroBool w) (bitD false) [] (bitR_mk _) b n D hm h1 _ (pk s k) hx (keyOf_place s k hs hk) ?_
  intro v ps hv
  obtain ⟨e, rfl, he⟩ := bitR_inv hv
  have h3 := congrArg Prod.fst he
  simp only [] at h3
  rw [h2.2 s k hs hk] at h3
  unfold bitD at h3
  simp only [DataW.lit.injEq, Lit.bool.injEq] at h3
  rw [← h3]
  exact hK
theorem putB_any (hg : o.guard = none) (m x v : Operand) (hop : o.op = Op.mapUpdate 71 m x v) (b n : Nat) (es : List Ent) (hown : MapB w b n es) (hm : a.eval m = .map (some b)) (e : Ent) (hx : a.eval x = .agg #[.string e.s, .string e.k]) (hv : a.eval v = .bool true) (hf : e.fit) (hn : n ≤ 1048576)
    (hK : ∀ w', Hid (MapB w' b (n + 1) (es ++ [e])) → Hid (w.grownBy w' (some b)) → wpList Tryd.prog ops Q rest (a.put o.dst undef) w') : wpList Tryd.prog ops Q (o :: rest) a w := by
  obtain ⟨D, h1, h2⟩ := hown
  refine wpList_mapUpdate_own w hg m x v 71 hop 47 4 placeLaw Tryd.underlying71 bitR b n D hm h1 (by unfold maxLen; omega) _ _ (pk e.s e.k) hx hv (keyOf_place e.s e.k hf.1 hf.2) (bitD true) [] (bitR_mk true) ?_
  intro w' h3 h4
  exact hK w' ⟨_, h3, h2.put e h3.isMap hf⟩ h4
end

/-! ### stacks in memory -/
/-- the rows of a stack's layers lie in memory -/
def StackAt (w : World) (A : Option Addr) (sl : List (List Ent)) : Prop :=
  0 < sl.length → ∃ b o, A = some ⟨b, o, none⟩ ∧ b < w.heap.size ∧ ∀ i (h : i < sl.length), ∃ A' c', w.cell? ⟨b, o + i, none⟩ = some (.slice A' sl[i].length c') ∧ sl[i].length ≤ c' ∧ EntsAt w A' sl[i]
theorem StackAt.keep {w w' : World} {A : Option Addr} {sl : List (List Ent)} (h : StackAt w A sl) (g : Grows w w') : StackAt w' A sl := fun h0 => by
  obtain ⟨b, o, e, hb, hc⟩ := h h0
  refine ⟨b, o, e, Nat.lt_of_lt_of_le hb g.size, fun i hi => ?_⟩
  obtain ⟨A', c', h1, h2, h3⟩ := hc i hi
  exact ⟨A', c', (g.cell hb).trans h1, h2, h3.keep g⟩
theorem StackAt.nil (w : World) (A : Option Addr) : StackAt w A [] := fun h => absurd h (Nat.lt_irrefl _)
end Go.Proofs.YtkjoolmhcfajnaaDoor
