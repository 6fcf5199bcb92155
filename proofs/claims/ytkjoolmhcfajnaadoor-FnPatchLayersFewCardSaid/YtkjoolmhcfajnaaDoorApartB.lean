/-
  A row of entries is no box of a layer. No condition.
-/
import Derived.Test.YtkjoolmhcfajnaaDoorMeanP
namespace Go.Proofs.YtkjoolmhcfajnaaDoor
open Go.RowKit

theorem apartBox {w : World} {base b : Nat} {v u : Value} {xs : List Ent} (h : OwnE w base v xs) (hb : Box w b u 25) : v.ownBlock ≠ some b := by
  intro e
  rcases h.2 with ⟨rfl, _⟩ | ⟨g, cap, cur, rfl, _, hg, _⟩
  · cases e
  · injection e with e
    subst e
    unfold Box at hb
    have h2 := hg.symm.trans hb
    simp at h2
/-- an entry in a box of its own -/
def BoxE (w : World) (b : Nat) (e : Ent) (t : TypeId) : Prop := w.heap[b]? = some (.cells #[.string e.s, .string e.k, .int .i64 e.op, .string e.v] t (0, 0))
theorem BoxE.new (w : World) (e : Ent) (t : TypeId) : BoxE (w.alloc (.cells #[.string e.s, .string e.k, .int .i64 e.op, .string e.v] t)) w.heap.size e t := heap_alloc_new w _
theorem BoxE.lt {w : World} {b : Nat} {e : Ent} {t : TypeId} (h : BoxE w b e t) : b < w.heap.size := by
  rcases Nat.lt_or_ge b w.heap.size with hlt | hge
  · exact hlt
  · unfold BoxE at h; rw [Array.getElem?_eq_none hge] at h; cases h
theorem BoxE.keep {w w' : World} {b : Nat} {e : Ent} {t : TypeId} (h : BoxE w b e t) (g : Grows w w') : BoxE w' b e t := (g.block b h.lt).trans h
theorem BoxE.far {w w' : World} {b : Nat} {e : Ent} {t : TypeId} {row : Option Nat} (h : BoxE w b e t) (g : w.grownBy w' row) (hne : row ≠ some b) : BoxE w' b e t := (g.block b h.lt (by first | exact hne | exact fun e => hne e.symm)).trans h
theorem BoxE.at0 {w : World} {b : Nat} {e : Ent} {t : TypeId} (h : BoxE w b e t) : w.cell? ⟨b, 0, none⟩ = some (.string e.s) := by rw [cell_of_row w b 0 _ _ _ h]; rfl
theorem BoxE.at1 {w : World} {b : Nat} {e : Ent} {t : TypeId} (h : BoxE w b e t) : w.cell? ⟨b, 1, none⟩ = some (.string e.k) := by rw [cell_of_row w b 1 _ _ _ h]; rfl
theorem BoxE.at2 {w : World} {b : Nat} {e : Ent} {t : TypeId} (h : BoxE w b e t) : w.cell? ⟨b, 2, none⟩ = some (.int .i64 e.op) := by rw [cell_of_row w b 2 _ _ _ h]; rfl
theorem BoxE.at3 {w : World} {b : Nat} {e : Ent} {t : TypeId} (h : BoxE w b e t) : w.cell? ⟨b, 3, none⟩ = some (.string e.v) := by rw [cell_of_row w b 3 _ _ _ h]; rfl
end Go.Proofs.YtkjoolmhcfajnaaDoor
