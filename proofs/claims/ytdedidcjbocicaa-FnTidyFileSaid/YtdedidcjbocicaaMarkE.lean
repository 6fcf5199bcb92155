/-
  Marks on rows of entries that a call has made: markEntryS, heldEntryS, markLayer, heldLayer. Condition: at most 1048576 entries.
-/
import Derived.Test.YtdedidcjbocicaaEnt
import Derived.Deep.RegionHeld3
namespace Go.Proofs.Ytdedidcjbocicaa
open Go.RowKit

/-- the mark of cell j -/
def qcell (k0 j : Nat) : Value := if j % 4 = 2 then .int .i64 ((k0 + j : Nat) : Int) else .string (mtext (k0 + j))
def qcells (k0 n : Nat) : List Value := (List.range (n * 4)).map (qcell k0)
theorem qcells_length (k0 n : Nat) : (qcells k0 n).length = n * 4 := by simp [qcells]
theorem qcells_get (k0 n j : Nat) (h : j < n * 4) : (qcells k0 n)[j]? = some (qcell k0 j) := by simp [qcells, h]
theorem qcell_i (k0 k : Nat) : qcell k0 (k * 4 + 2) = .int .i64 ((k0 : Int) + k * 4 + 2) := by
  unfold qcell; rw [if_pos (by omega)]; congr 1
theorem qcell_s (k0 k d : Nat) (h0 : d ≠ 2) (h6 : d < 4) : qcell k0 (k * 4 + d) = .string (mtext (k0 + k * 4 + d)) := by
  unfold qcell; rw [if_neg (by omega), Nat.add_assoc]

/-- the first j cells bear their marks -/
def EUpto (k0 : Nat) (xs : List Value) (j : Nat) : Prop := ∀ i, i < j → xs[i]? = some (qcell k0 i)
theorem EUpto.zero (k0 : Nat) (xs : List Value) : EUpto k0 xs 0 := fun _ h => absurd h (Nat.not_lt_zero _)
theorem EUpto.succ {k0 j : Nat} {xs : List Value} (h : EUpto k0 xs j) (hj : j < xs.length) {u : Value} (hu : qcell k0 j = u) : EUpto k0 (xs.set j u) (j + 1) := by
  intro i hi
  rw [List.getElem?_set]
  split
  · rename_i e; subst e; rw [hu]
  · exact h i (by omega)
theorem EUpto.all {k0 n : Nat} {xs : List Value} (h : EUpto k0 xs (n * 4)) (hl : xs.length = n * 4) : xs = qcells k0 n := by
  apply List.ext_getElem? 
  intro i
  by_cases hi : i < n * 4
  · rw [h i hi, qcells_get _ _ _ hi]
  · rw [List.getElem?_eq_none (by omega), List.getElem?_eq_none (by rw [qcells_length]; omega)]
/-- the row bears all its marks -/
def MarkedE (w : World) (g n k0 : Nat) : Prop := g < w.heap.size ∧ ∀ j, j < n * 4 → w.cell? ⟨g, j, none⟩ = some (qcell k0 j)
theorem MarkedE.keep {a b : World} {g n k0 : Nat} (h : MarkedE a g n k0) (k : Grows a b) : MarkedE b g n k0 := ⟨Nat.lt_of_lt_of_le h.1 k.size, fun j hj => (k.cell (p := ⟨g, j, none⟩) h.1).trans (h.2 j hj)⟩
end Go.Proofs.Ytdedidcjbocicaa
