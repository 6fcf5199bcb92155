/-
  Marks on rows of lines that a call has made: markLineS, heldLineS, markFile, heldFile. Condition: at most 1048576 lines.
-/
import Derived.Test.YtkeiaenacpmilaaDoorMark2
import Derived.Deep.RegionHeld3
namespace Go.Proofs.YtkeiaenacpmilaaDoor
open Go.RowKit

/-- the mark of cell j -/
def mcell (k0 j : Nat) : Value := if j % 6 = 0 then .int .i64 ((k0 + j : Nat) : Int) else .string (mtext (k0 + j))
def mcells (k0 n : Nat) : List Value := (List.range (n * 6)).map (mcell k0)
theorem mcells_length (k0 n : Nat) : (mcells k0 n).length = n * 6 := by simp [mcells]
theorem mcells_get (k0 n j : Nat) (h : j < n * 6) : (mcells k0 n)[j]? = some (mcell k0 j) := by simp [mcells, h]
theorem mcell_0 (k0 k : Nat) : mcell k0 (k * 6) = .int .i64 ((k0 : Int) + k * 6) := by
  unfold mcell; rw [if_pos (by omega)]; congr 1
theorem mcell_s (k0 k d : Nat) (h0 : 0 < d) (h6 : d < 6) : mcell k0 (k * 6 + d) = .string (mtext (k0 + k * 6 + d)) := by
  unfold mcell; rw [if_neg (by omega), Nat.add_assoc]

/-- the first j cells bear their marks -/
def MUpto (k0 : Nat) (xs : List Value) (j : Nat) : Prop := ∀ i, i < j → xs[i]? = some (mcell k0 i)
theorem MUpto.zero (k0 : Nat) (xs : List Value) : MUpto k0 xs 0 := fun _ h => absurd h (Nat.not_lt_zero _)
theorem MUpto.succ {k0 j : Nat} {xs : List Value} (h : MUpto k0 xs j) (hj : j < xs.length) {u : Value} (hu : mcell k0 j = u) : MUpto k0 (xs.set j u) (j + 1) := by
  intro i hi
  rw [List.getElem?_set]
  split
  · rename_i e; subst e; rw [hu]
  · exact h i (by omega)
theorem MUpto.all {k0 n : Nat} {xs : List Value} (h : MUpto k0 xs (n * 6)) (hl : xs.length = n * 6) : xs = mcells k0 n := by
  apply List.ext_getElem? 
  intro i
  by_cases hi : i < n * 6
  · rw [h i hi, mcells_get _ _ _ hi]
  · rw [List.getElem?_eq_none (by omega), List.getElem?_eq_none (by rw [mcells_length]; omega)]
/-- the row bears all its marks -/
def Marked (w : World) (g n k0 : Nat) : Prop := g < w.heap.size ∧ ∀ j, j < n * 6 → w.cell? ⟨g, j, none⟩ = some (mcell k0 j)
theorem Marked.keep {a b : World} {g n k0 : Nat} (h : Marked a g n k0) (k : Grows a b) : Marked b g n k0 := ⟨Nat.lt_of_lt_of_le h.1 k.size, fun j hj => (k.cell (p := ⟨g, j, none⟩) h.1).trans (h.2 j hj)⟩
/-- the cells of lines -/
def lcell (l : Ln) : List Value := [.int .i64 l.k, .string l.le, .string l.na, .string l.se, .string l.va, .string l.ta]
def lcells : List Ln → List Value
  | [] => []
  | l :: ls => lcell l ++ lcells ls
theorem lcells_length (ls : List Ln) : (lcells ls).length = ls.length * 6 := by
  induction ls with
  | nil => rfl
  | cons l ls ih => simp [lcells, lcell, ih]; omega
theorem lcells_snoc (ls : List Ln) (l : Ln) : lcells (ls ++ [l]) = lcells ls ++ lcell l := by
  induction ls with
  | nil => simp [lcells]
  | cons x ls ih => simp [lcells, ih, List.append_assoc]
theorem lcells_get (ls : List Ln) : ∀ (i : Nat) (h : i < ls.length) (d : Nat), d < 6 → (lcells ls)[i * 6 + d]? = (lcell ls[i])[d]? := by
  induction ls with
  | nil => intro i h; exact absurd h (by simp)
  | cons l ls ih =>
    intro i h d hd
    have hl : (lcell l).length = 6 := rfl
    cases i with
    | zero => rw [lcells, Nat.zero_mul, Nat.zero_add, List.getElem?_append_left (by rw [hl]; exact hd)]; rfl
    | succ i =>
      rw [lcells, List.getElem?_append_right (by rw [hl]; omega), hl]
      rw [show (i + 1) * 6 + d - 6 = i * 6 + d from by omega, ih i (by simpa using h) d hd]
      rfl
/-- what lies in other blocks stays -/
theorem LnsAt.only {w w' : World} {A : Option Addr} {ls : List Ln} {v : Value} (h : LnsAt w A ls) (k : Only v w w') (hne : ∀ b o, A = some ⟨b, o, none⟩ → v.ownBlock ≠ some b) : LnsAt w' A ls := fun h0 => by
  obtain ⟨b, o, e, hb, hc⟩ := h h0
  refine ⟨b, o, e, Nat.lt_of_lt_of_le hb k.size, fun i hi => ?_⟩
  have hbk : w'.heap[b]? = w.heap[b]? := k.block b hb (by first | exact fun e2 => hne b o e e2 | exact fun e2 => hne b o e e2.symm)
  have hx : ∀ q, w'.cell? ⟨b, q, none⟩ = w.cell? ⟨b, q, none⟩ := fun q => World.cell?_of_block (w := w) hbk
  obtain ⟨h0, h1, h2, h3, h4, h5⟩ := hc i hi
  exact ⟨(hx _).trans h0, (hx _).trans h1, (hx _).trans h2, (hx _).trans h3, (hx _).trans h4, (hx _).trans h5⟩

end Go.Proofs.YtkeiaenacpmilaaDoor
