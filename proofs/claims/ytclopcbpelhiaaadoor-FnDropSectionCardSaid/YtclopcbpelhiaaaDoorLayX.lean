/-
  What the two tests of a layer return: the plain test 'vlayer'. Conditions: parts of at most 1048576 bytes.
-/
import Derived.Test.YtclopcbpelhiaaaDoorLayW
namespace Go.Proofs.YtclopcbpelhiaaaDoor
open Go.RowKit

/-- the box of a layer -/
def lbox (A : Option Addr) (n c : Nat) : Obj := .cells #[.slice A n c] 35
theorem lbox_cell {w w' : World} {A : Option Addr} {n c : Nat} (h : Grows (w.alloc (lbox A n c)) w') : w'.cell? ⟨w.heap.size, 0, none⟩ = some (.slice A n c) :=
  (h.cell (p := ⟨w.heap.size, 0, none⟩) (by simp)).trans (by simp [lbox])
theorem vlayer_no {es : List Ent} (h : okE es = false) : vlayer es = false := by unfold vlayer; rw [h]; rfl
theorem okE_at_no {es : List Ent} {k : Nat} (hk : k < es.length) (h : (vent es[k] && freshE (es.take k) es[k]) = false) : okE es = false :=
  okE_take_not (k := k + 1) (by rw [okE_step hk, h]; simp)
theorem okE_at_yes {es : List Ent} {k : Nat} (hk : k < es.length) (h0 : okE (es.take k) = true) (h1 : vent es[k] = true) (h2 : freshE (es.take k) es[k] = true) : okE (es.take (k + 1)) = true := by
  rw [okE_step hk, h0, h1, h2]; rfl
theorem EntsAt.take {w : World} {A : Option Addr} {es : List Ent} (h : EntsAt w A es) (k : Nat) : EntsAt w A (es.take k) := fun h0 => by
  have hl : 0 < es.length := by rw [List.length_take] at h0; omega
  obtain ⟨b, o, e, hb, hc⟩ := h hl
  refine ⟨b, o, e, hb, fun i hi => ?_⟩
  rw [List.length_take] at hi
  rw [List.getElem_take]
  exact hc i (by omega)
theorem entIdx_fresh {es : List Ent} {e : Ent} (h : freshE es e = true) : entIdx es e.s e.k = -1 := entIdx_none (by rw [any_fresh] at h; simpa using h)
theorem entIdx_old {es : List Ent} {e : Ent} (h : freshE es e = false) : ∃ j : Nat, entIdx es e.s e.k = (j : Int) := by
  rw [any_fresh] at h
  have h2 : es.any (fun x => x.of e.s e.k) = true := by simpa using h
  rw [List.any_eq_true] at h2
  have h3 : (es.find? fun x => x.of e.s e.k).isSome = true := by rw [List.find?_isSome]; exact h2
  obtain ⟨y, hy⟩ := Option.isSome_iff_exists.1 h3
  obtain ⟨j, _, h4, _⟩ := entIdx_some es 0 y hy
  exact ⟨j, by unfold entIdx; rw [h4]; omega⟩

end Go.Proofs.YtclopcbpelhiaaaDoor
