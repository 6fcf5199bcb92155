/-
  Maps of entries by their places, in memory: what looking up, storing and counting do at the operation. Conditions: parts of at most 1048576 bytes.
-/
import Derived.Test.YtkjoolmhcfajnaaDoorTidyQ
import Derived.Test.YtkjoolmhcfajnaaDoorMeanP
import Derived.Maps.OwnSet
import Derived.Maps.AppendAt
namespace Go.Proofs.YtkjoolmhcfajnaaDoor
open Go.RowKit

/-- block b is a map of these entries by their places -/
def MapE (w : World) (b : Nat) (es : List Ent) : Prop := (∀ e ∈ es, e.fit) ∧ w.ownsMap Tryd.prog 47 entR b es.length (mapOf es)
theorem MapE.lt {w : World} {b : Nat} {es : List Ent} (h : MapE w b es) : b < w.heap.size := h.2.lt
theorem MapE.keep {w w' : World} {b : Nat} {es : List Ent} (h : MapE w b es) (g : Grows w w') : MapE w' b es :=
  ⟨h.1, h.2.kept (row := some w.heap.size) ⟨g.os, g.tape, g.output, g.size, fun i hi _ => g.block i hi⟩ (fun e => by
    have := h.lt
    injection e with e
    omega)⟩
theorem MapE.far {w w' : World} {b : Nat} {es : List Ent} {row : Option Nat} (h : MapE w b es) (g : w.grownBy w' row) (hne : some b ≠ row) : MapE w' b es := ⟨h.1, h.2.kept g hne⟩
theorem MapE.new (w : World) : MapE (w.alloc (.map #[] 0)) w.heap.size [] := ⟨fun _ h => by simp at h, World.ownsMap_made _ _ _ _⟩
theorem zeroEntry (w : World) : (zeroValue 33).run Tryd.prog w = .ok Ent.zero.agg w := by
  obtain ⟨i0, hi, hz0, _⟩ := info_parts infoEntry
  simp [zeroValue, typeInfo, hi, hz0]

section
variable {w : World} {ops : Array Oper} {rest : List Oper} {o : Oper} {a : Act} {Q : Exit → Act → World → Prop}
/-- a value, and whether it is there -/
theorem lookE_ok (hg : o.guard = none) (m x : Operand) (hop : o.op = Op.lookup 58 m x true) (b : Nat) (es : List Ent) (hown : MapE w b es) (hm : a.eval m = .map (some b)) (s k : ByteArray) (hx : a.eval x = .agg #[.string s, .string k]) (hs : s.size ≤ 1048576) (hk : k.size ≤ 1048576)
    (hK : wpList Tryd.prog ops Q rest (a.put o.dst (.tuple #[((lastE es s k).getD Ent.zero).agg, .bool (es.any (fun y => y.of s k))])) w) : wpList Tryd.prog ops Q (o :: rest) a w := by
  refine wpList_lookup_own_ok w hg m x 58 hop 47 33 placeLaw Tryd.underlying58 entR (zeroEntry w) (entD Ent.zero) [] (entR_mk _) b es.length (mapOf es) hm hown.2 _ (pk s k) hx (keyOf_place s k hs hk) ?_
  intro v ps hv
  obtain ⟨e, rfl, he⟩ := entR_inv hv
  have h1 := congrArg Prod.fst he
  simp only [] at h1
  rw [mapOf_at es hs hk Ent.zero hown.1] at h1
  rw [← entD_inj h1, mapOf_has es hs hk hown.1]
  exact hK
theorem wpList_lookup_plain {H : Type} {P : Program} (w : World) {ops : Array Oper} {rest : List Oper} {o : Oper} {a : Act} {Q : Exit → Act → World → Prop}
    (hg : o.guard = none) (m x : Operand) (t : TypeId) (hop : o.op = Op.lookup t m x false)
    (k e : TypeId) (K : Maps.Keyed P k) (ht : P.underlying t = some (.map k e)) (R : Value → Option (DataW H × List MemPlace)) {z : Value} (hz : (zeroValue e).run P w = .ok z w) (zd : DataW H) (zp : List MemPlace) (hzd : R z = some (zd, zp)) (b n : Nat) (D : DataW H)
    (hm : a.eval m = .map (some b)) (hown : w.ownsMap P k R b n D) (key : Value) (kl : Lit) (hx : a.eval x = key) (hkey : keyOf P k key = some kl)
    (hK : ∀ v ps, R v = some (D.atKey kl zd, ps) → wpList P ops Q rest (a.put o.dst v) w) :
    wpList P ops Q (o :: rest) a w := by
  refine wpList_plain hg fun K' hK' => ?_
  obtain ⟨v, ps, hrun, hv⟩ := hown.lookup K ht hz hzd hkey
  unfold Oper.wp
  simp [execOp, hop, hm, hx, hrun, Result.andThen]
  exact hK' _ _ (hK v ps hv)
/-- a value alone -/
theorem lookE_any (hg : o.guard = none) (m x : Operand) (hop : o.op = Op.lookup 58 m x false) (b : Nat) (es : List Ent) (hown : MapE w b es) (hm : a.eval m = .map (some b)) (s k : ByteArray) (hx : a.eval x = .agg #[.string s, .string k]) (hs : s.size ≤ 1048576) (hk : k.size ≤ 1048576)
    (hK : wpList Tryd.prog ops Q rest (a.put o.dst ((lastE es s k).getD Ent.zero).agg) w) : wpList Tryd.prog ops Q (o :: rest) a w := by
  refine wpList_lookup_plain w hg m x 58 hop 47 33 placeLaw Tryd.underlying58 entR (zeroEntry w) (entD Ent.zero) [] (entR_mk _) b es.length (mapOf es) hm hown.2 _ (pk s k) hx (keyOf_place s k hs hk) ?_
  intro v ps hv
  obtain ⟨e, rfl, he⟩ := entR_inv hv
  have h1 := congrArg Prod.fst he
  simp only [] at h1
  rw [mapOf_at es hs hk Ent.zero hown.1] at h1
  rw [← entD_inj h1]
  exact hK
/-- one more entry -/
theorem putE_any (hg : o.guard = none) (m x v : Operand) (hop : o.op = Op.mapUpdate 58 m x v) (b : Nat) (es : List Ent) (hown : MapE w b es) (hm : a.eval m = .map (some b)) (e : Ent) (hx : a.eval x = .agg #[.string e.s, .string e.k]) (hv : a.eval v = .agg #[.string e.s, .string e.k, .int .i64 e.op, .string e.v]) (hf : e.fit) (hn : es.length ≤ 1048576)
    (hK : ∀ w', Hid (MapE w' b (es ++ [e])) → Hid (w.grownBy w' (some b)) → wpList Tryd.prog ops Q rest (a.put o.dst undef) w') : wpList Tryd.prog ops Q (o :: rest) a w := by
  refine wpList_mapUpdate_own w hg m x v 58 hop 47 33 placeLaw Tryd.underlying58 entR b es.length (mapOf es) hm hown.2 (by unfold maxLen; omega) _ _ (pk e.s e.k) hx hv (keyOf_place e.s e.k hf.1 hf.2) (entD e) [] (entR_mk e) ?_
  intro w' h1 h2
  refine hK w' ⟨?_, ?_⟩ h2
  · intro y hy
    rcases List.mem_append.1 hy with h | h
    · exact hown.1 y h
    · simp at h; subst h; exact hf
  · rw [mapOf_snoc]
    simpa using h1
/-- how many places there are -/
theorem lenE_any (hg : o.guard = none) (m : Operand) (hop : o.op = Op.call { callee := Callee.builtin Builtin.len, args := #[m], argTypes := #[58] }) (b : Nat) (es : List Ent) (hown : MapE w b es) (hm : a.eval m = .map (some b))
    (hK : wpList Tryd.prog ops Q rest (a.put o.dst (.int .i64 (Maps.size (mapOf es)))) w) : wpList Tryd.prog ops Q (o :: rest) a w :=
  wpList_len_own w hg m 58 hop 47 33 Tryd.underlying58 entR b es.length (mapOf es) hm hown.2 hK
end
end Go.Proofs.YtkjoolmhcfajnaaDoor
