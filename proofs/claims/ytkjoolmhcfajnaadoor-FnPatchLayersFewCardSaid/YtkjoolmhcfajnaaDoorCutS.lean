/-
  An entry cut out of a layer: CutEntry of the specification. Conditions: parts of at most 1048576 bytes.
-/
import Derived.Test.YtkjoolmhcfajnaaDoorCutE
namespace Go.Proofs.YtkjoolmhcfajnaaDoor
open Go.RowKit

theorem EntsAt.drop {w : World} {b o : Nat} {es : List Ent} (h : EntsAt w (some ⟨b, o, none⟩) es) (k : Nat) : EntsAt w (some ⟨b, o + k * 4, none⟩) (es.drop k) := fun h0 => by
  have hl : 0 < es.length := by rw [List.length_drop] at h0; omega
  obtain ⟨b', o', e, hb, hc⟩ := h hl
  injection e with e
  injection e with e1 e2
  subst e1; subst e2
  refine ⟨b, o + k * 4, rfl, hb, fun i hi => ?_⟩
  rw [List.length_drop] at hi
  rw [List.getElem_drop]
  have := hc (k + i) (by omega)
  rwa [show o + (k + i) * 4 = o + k * 4 + i * 4 from by omega] at this
theorem entIdx_no {es : List Ent} {s k : ByteArray} (h : es.any (fun x => x.of s k) = false) : entIdx es s k = -1 := entIdx_none h

end Go.Proofs.YtkjoolmhcfajnaaDoor
