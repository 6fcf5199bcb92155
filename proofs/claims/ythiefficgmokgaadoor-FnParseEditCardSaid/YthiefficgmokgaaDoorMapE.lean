/-
  Maps of entries by their places, in memory: what looking up, storing and counting do at the operation. Conditions: parts of at most 1048576 bytes.
-/
import Derived.Test.YthiefficgmokgaaDoorTidyQ
import Derived.Test.YthiefficgmokgaaDoorMeanP
import Derived.Maps.OwnSet
import Derived.Maps.AppendAt
namespace Go.Proofs.YthiefficgmokgaaDoor
open Go.RowKit

/-- block b is a map of these entries by their places -/
def MapE (w : World) (b : Nat) (es : List Ent) : Prop := (∀ e ∈ es, e.fit) ∧ w.ownsMap Tryd.prog 58 entR b es.length (mapOf es)
theorem MapE.lt {w : World} {b : Nat} {es : List Ent} (h : MapE w b es) : b < w.heap.size := h.2.lt
theorem MapE.keep {w w' : World} {b : Nat} {es : List Ent} (h : MapE w b es) (g : Grows w w') : MapE w' b es :=
  ⟨h.1, h.2.kept (row := some w.heap.size) ⟨g.os, g.tape, g.output, g.size, fun i hi _ => g.block i hi⟩ (fun e => by
    have := h.lt
    injection e with e
    omega)⟩
theorem MapE.far {w w' : World} {b : Nat} {es : List Ent} {row : Option Nat} (h : MapE w b es) (g : w.grownBy w' row) (hne : some b ≠ row) : MapE w' b es := ⟨h.1, h.2.kept g hne⟩
theorem MapE.new (w : World) : MapE (w.alloc (.map #[] 0)) w.heap.size [] := ⟨fun _ h => by simp at h, World.ownsMap_made _ _ _ _⟩
theorem zeroEntry (w : World) : (zeroValue 55).run Tryd.prog w = .ok Ent.zero.agg w := by
  obtain ⟨i0, hi, hz0, _⟩ := info_parts infoEntry
  simp [zeroValue, typeInfo, hi, hz0]

section
variable {w : World} {ops : Array Oper} {rest : List Oper} {o : Oper} {a : Act} {Q : Exit → Act → World → Prop}
theorem wpList_lookup_plain {H : Type} {P : Program} (w : World) {ops : Array Oper} {rest : List Oper} {o : Oper} {a : Act} {Q : Exit → Act → World → Prop}
    (hg : o.guard = none) (m x : Operand) (t : TypeId) (hop : o.op = Op.lookup t m x false)
    (k e : TypeId) (K : Maps.Keyed P k) (ht : P.underlying t = some (.map k e)) (R : Value → Option (DataW H × List MemPlace)) {z : Value} (hz : (zeroValue e).run P w = .ok z w) (zd : DataW H) (zp : List MemPlace) (hzd : R z = some (zd, zp)) (b n : Nat) (D : DataW H)
    (hm : a.eval m = .map (some b)) (hown : w.ownsMap P k R b n D) (key : Value) (kl : Lit) (hx : a.eval x = key) (hkey : keyOf P k key = some kl)
    (hK : ∀ v ps, R v = some (D.atKey kl zd, ps) → wpList P ops Q rest (a.put o.dst v) w) :
    wpList P ops Q (o :: rest) a w := by
  refine wpList_plain hg fun K' hK' => ?_
  obtain ⟨v, ps, hrun, hv⟩ := hown.lookup K ht hz hzd hkey
  unfold Oper.wp
  simp [execOp, hop, hm, hx, hrun, Result.andThen]
  exact hK' _ _ (hK v ps hv)
end
end Go.Proofs.YthiefficgmokgaaDoor
