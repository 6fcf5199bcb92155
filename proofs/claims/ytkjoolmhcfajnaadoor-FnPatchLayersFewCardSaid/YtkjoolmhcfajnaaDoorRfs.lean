/-
  Rows of references: the places of layers as the specification tells them, each once, and what a flat layer has at a place. Conditions: parts of at most 1048576 bytes.
-/
import Derived.Test.YtkjoolmhcfajnaaDoorFltI
namespace Go.Proofs.YtkjoolmhcfajnaaDoor
open Go.RowKit

/-- the places lie in memory -/
def RfsAt (w : World) (A : Option Addr) (es : List Ent) : Prop :=
  0 < es.length → ∃ b, A = some ⟨b, 0, none⟩ ∧ b < w.heap.size ∧ ∀ i (h : i < es.length), w.cell? ⟨b, i * 2, none⟩ = some (.string es[i].s) ∧ w.cell? ⟨b, i * 2 + 1, none⟩ = some (.string es[i].k)
theorem RfsAt.keep {w w' : World} {A : Option Addr} {es : List Ent} (h : RfsAt w A es) (g : Grows w w') : RfsAt w' A es := fun h0 => by
  obtain ⟨b, e, hb, hc⟩ := h h0
  exact ⟨b, e, Nat.lt_of_lt_of_le hb g.size, fun i hi => ⟨(g.cell (p := ⟨b, i * 2, none⟩) hb).trans (hc i hi).1, (g.cell (p := ⟨b, i * 2 + 1, none⟩) hb).trans (hc i hi).2⟩⟩
theorem one_newsF (w : World) (e : Ent) (t : TypeId) {p : Nat} (hp : w.heap.size = p) : ∀ j u, (kcells [e])[j]? = some u → (w.alloc (.cells #[.string e.s, .string e.k] t)).cell? ((⟨p, 0, none⟩ : Addr).add j) = some u := fun j u hj => by
  subst hp
  exact World.news_of_block (heap_alloc_new w _) j u (by simpa [kcells, kcell] using hj)


/-- two places are the same -/
def sameK (a b : ByteArray) (c d : ByteArray) : Bool := (a.toList == c.toList) && (b.toList == d.toList)
theorem of_same (e : Ent) (s k : ByteArray) : e.of s k = sameK e.s e.k s k := by
  rw [Bool.eq_iff_iff, of_iff]
  unfold sameK
  rw [Bool.and_eq_true, beq_iff_eq, beq_iff_eq]
  exact ⟨fun ⟨h1, h2⟩ => ⟨by rw [h1], by rw [h2]⟩, fun ⟨h1, h2⟩ => ⟨toList_inj h1, toList_inj h2⟩⟩

/-- a call's end: an entry, and whether it is there -/
def StRet (es : List Ent) (s k : ByteArray) (w : World) (e : Ending) (w' : World) : Prop := e = .returned (.tuple #[((es.find? (fun x => x.of s k)).getD Ent.zero).agg, .bool (es.find? (fun x => x.of s k)).isSome]) ∧ Grows w w'
end Go.Proofs.YtkjoolmhcfajnaaDoor
