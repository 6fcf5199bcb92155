/-
  The comparison of two lists of entries, sameEntries of the specification. Condition: at most 1048576 entries.
-/
import Derived.Test.YtdedidcjbocicaaEnt
import Derived.Deep.RegionHeld3
namespace Go.Proofs.Ytdedidcjbocicaa
open Go.RowKit

/-- two entries are the same in every part -/
def Ent.same (a b : Ent) : Bool := (a.s.toList == b.s.toList) && ((a.k.toList == b.k.toList) && ((a.op == b.op) && (a.v.toList == b.v.toList)))
theorem entFrom_cases (s k : ByteArray) : ∀ (es : List Ent) (i : Nat), entFrom s k es i = -1 ∨ ∃ q, i ≤ q ∧ q < i + es.length ∧ entFrom s k es i = (q : Int) := by
  intro es
  induction es with
  | nil => intro i; exact .inl rfl
  | cons e es ih =>
    intro i
    rw [entFrom]
    split
    · exact .inr ⟨i, Nat.le_refl _, by simp, rfl⟩
    · rcases ih (i + 1) with h | ⟨q, h1, h2, h3⟩
      · exact .inl h
      · exact .inr ⟨q, by omega, by simp; omega, h3⟩
theorem entIdx_cases (es : List Ent) (s k : ByteArray) : entIdx es s k = -1 ∨ ∃ q, q < es.length ∧ entIdx es s k = (q : Int) := by
  rcases entFrom_cases s k es 0 with h | ⟨q, _, h2, h3⟩
  · exact .inl h
  · exact .inr ⟨q, by omega, h3⟩
/-- the entry is in the list, the same in every part, and the first of its key -/
def inE (bs : List Ent) (e : Ent) : Bool := match bs[(entIdx bs e.s e.k).toNat]? with
  | some x => decide (0 ≤ entIdx bs e.s e.k) && x.same e
  | none => false
def sameE (fs bs : List Ent) : Bool := decide (fs.length = bs.length) && fs.all (inE bs)
def AllE (fs bs : List Ent) (j : Nat) : Prop := ∀ i (h : i < fs.length), i < j → inE bs fs[i] = true
theorem AllE.zero (fs bs : List Ent) : AllE fs bs 0 := fun _ _ h => absurd h (Nat.not_lt_zero _)
theorem AllE.succ {fs bs : List Ent} {j : Nat} (h : AllE fs bs j) (hj : j < fs.length) (hl : inE bs fs[j] = true) : AllE fs bs (j + 1) := by
  intro i hi hij
  by_cases e : i = j
  · subst e; exact hl
  · exact h i hi (by omega)
theorem sameE_yes {fs bs : List Ent} (hl : fs.length = bs.length) (h : AllE fs bs fs.length) : sameE fs bs = true := by
  unfold sameE
  rw [decide_eq_true hl, Bool.true_and, List.all_eq_true]
  intro e he
  obtain ⟨j, hj, rfl⟩ := List.getElem_of_mem he
  exact h j hj hj
theorem sameE_no {fs bs : List Ent} {j : Nat} (hj : j < fs.length) (h : inE bs fs[j] = false) : sameE fs bs = false := by
  have : fs.all (inE bs) = false := by
    rw [← Bool.not_eq_true, List.all_eq_true]
    intro hall
    rw [hall _ (List.getElem_mem hj)] at h
    cases h
  unfold sameE; rw [this, Bool.and_false]

end Go.Proofs.Ytdedidcjbocicaa
