/-
  A slice of lines in memory, and what the specification's test of a file returns. Conditions: at most 1048576 lines, each part at most 1048576 bytes.
-/
import Derived.Test.YtkeiaenacpmilaaDoorLine3
namespace Go.Proofs.YtkeiaenacpmilaaDoor
open Go.RowKit

/-- the six cells of a line lie from place o of block b on -/
def LnAt (w : World) (b o : Nat) (l : Ln) : Prop :=
  w.cell? ⟨b, o, none⟩ = some (.int .i64 l.k) ∧ w.cell? ⟨b, o + 1, none⟩ = some (.string l.le) ∧ w.cell? ⟨b, o + 2, none⟩ = some (.string l.na) ∧
  w.cell? ⟨b, o + 3, none⟩ = some (.string l.se) ∧ w.cell? ⟨b, o + 4, none⟩ = some (.string l.va) ∧ w.cell? ⟨b, o + 5, none⟩ = some (.string l.ta)
/-- the slice's lines lie there -/
def LnsAt (w : World) (A : Option Addr) (ls : List Ln) : Prop :=
  0 < ls.length → ∃ b o, A = some ⟨b, o, none⟩ ∧ b < w.heap.size ∧ ∀ i (h : i < ls.length), LnAt w b (o + i * 6) ls[i]
theorem LnAt.keep {w w' : World} {b o : Nat} {l : Ln} (h : LnAt w b o l) (hb : b < w.heap.size) (g : Grows w w') : LnAt w' b o l := by
  obtain ⟨h0, h1, h2, h3, h4, h5⟩ := h
  exact ⟨(g.cell hb).trans h0, (g.cell hb).trans h1, (g.cell hb).trans h2, (g.cell hb).trans h3, (g.cell hb).trans h4, (g.cell hb).trans h5⟩
theorem LnsAt.keep {w w' : World} {A : Option Addr} {ls : List Ln} (h : LnsAt w A ls) (g : Grows w w') : LnsAt w' A ls := fun h0 => by
  obtain ⟨b, o, e, hb, hc⟩ := h h0
  exact ⟨b, o, e, Nat.lt_of_lt_of_le hb g.size, fun i hi => (hc i hi).keep hb g⟩
theorem LnsAt.nil (w : World) (A : Option Addr) : LnsAt w A [] := fun h => absurd h (Nat.lt_irrefl _)

def AllFit (ls : List Ln) : Prop := ls.length ≤ 1048576 ∧ ∀ i (h : i < ls.length), ls[i].fits
/-- all lines are valid -/
def vlines (ls : List Ln) : Bool := ls.all vline
def vfile (ls : List Ln) : Bool := vlines ls && decide (ls.length ≤ 20)
/-- the first k are valid -/
def VUpto (ls : List Ln) (k : Nat) : Prop := ∀ j (h : j < ls.length), j < k → vline ls[j] = true
theorem VUpto.zero (ls : List Ln) : VUpto ls 0 := fun _ _ h => absurd h (Nat.not_lt_zero _)
theorem VUpto.succ {ls : List Ln} {k : Nat} (h : VUpto ls k) (hk : k < ls.length) (hv : vline ls[k] = true) : VUpto ls (k + 1) := by
  intro j hj hjk
  by_cases e : j = k
  · subst e; exact hv
  · exact h j hj (by omega)
theorem VUpto.all {ls : List Ln} (h : VUpto ls ls.length) : vlines ls = true := by
  unfold vlines
  rw [List.all_eq_true]
  intro l hl
  obtain ⟨j, hj, rfl⟩ := List.getElem_of_mem hl
  exact h j hj hj
theorem vlines_not {ls : List Ln} {k : Nat} (hk : k < ls.length) (h : vline ls[k] = false) : vlines ls = false := by
  unfold vlines
  rw [← Bool.not_eq_true, List.all_eq_true]
  intro hall
  rw [hall _ (List.getElem_mem hk)] at h
  cases h

end Go.Proofs.YtkeiaenacpmilaaDoor
