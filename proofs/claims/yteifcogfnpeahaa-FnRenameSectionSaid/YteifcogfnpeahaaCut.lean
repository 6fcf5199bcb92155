/-
  Lines cut out of a file: cutLines of the program, at the indices that meet a test. Condition: at most 1048576 lines.
-/
import Derived.Test.YteifcogfnpeahaaCopyL
namespace Go.Proofs.Yteifcogfnpeahaa
open Go.RowKit

/-- the lines among the first k that do not meet the test -/
def keepL (ls : List Ln) (P : Nat → Bool) (k : Nat) : List Ln := ((List.range k).filter fun i => !P i).map fun i => ls[i]!
theorem keepL_yes {ls : List Ln} {P : Nat → Bool} {k : Nat} (h : P k = true) : keepL ls P (k + 1) = keepL ls P k := by
  unfold keepL; rw [List.range_succ, List.filter_append]; simp [h]
theorem keepL_no {ls : List Ln} {P : Nat → Bool} {k : Nat} (h : P k = false) : keepL ls P (k + 1) = keepL ls P k ++ [ls[k]!] := by
  unfold keepL; rw [List.range_succ, List.filter_append]; simp [h]
theorem keepL_le (ls : List Ln) (P : Nat → Bool) (k : Nat) : (keepL ls P k).length ≤ k := by
  unfold keepL
  rw [List.length_map]
  exact Nat.le_trans (List.length_filter_le _ _) (by simp)
/-- the indices from k on that meet the test -/
def restI (P : Nat → Bool) (n k : Nat) : List Nat := (List.range' k (n - k)).filter P
theorem restI_yes {P : Nat → Bool} {n k : Nat} (hk : k < n) (h : P k = true) : restI P n k = k :: restI P n (k + 1) := by
  unfold restI
  rw [show n - k = (n - (k + 1)) + 1 from by omega, List.range'_succ, List.filter_cons, if_pos h]
theorem restI_no {P : Nat → Bool} {n k : Nat} (hk : k < n) (h : P k = false) : restI P n k = restI P n (k + 1) := by
  unfold restI
  rw [show n - k = (n - (k + 1)) + 1 from by omega, List.range'_succ, List.filter_cons, if_neg (by rw [h]; simp)]
theorem restI_ge {P : Nat → Bool} {n k i : Nat} (h : i ∈ restI P n k) : k ≤ i := by
  unfold restI at h
  have := (List.mem_filter.1 h).1
  rw [List.mem_range'_1] at this
  exact this.1
theorem restI_head {P : Nat → Bool} {n k : Nat} (h : P k = false) (hk : k < n) (h0 : 0 < (restI P n k).length) : (restI P n k)[0] ≠ k := by
  intro e
  have hm : (restI P n k)[0] ∈ restI P n (k + 1) := by rw [← restI_no hk h]; exact List.getElem_mem _
  have := restI_ge hm
  omega
theorem restI_zero (P : Nat → Bool) (n : Nat) : restI P n 0 = (List.range n).filter P := by
  unfold restI; rw [Nat.sub_zero, List.range_eq_range']
theorem restI_le (P : Nat → Bool) (n k : Nat) : (restI P n k).length ≤ n - k := by
  unfold restI
  exact Nat.le_trans (List.length_filter_le _ _) (by simp)

/-- a call's end: it returns lines in a row of the call's own -/
def RetL (ls : List Ln) (w : World) (e : Ending) (w' : World) : Prop := ∃ v, e = .returned v ∧ OwnL w' w.heap.size v ls ∧ Grows w w'
theorem OwnL.made (w : World) (c : Nat) (base : Nat) (hb : base ≤ w.heap.size) (hc : c ≤ 1048576) : OwnL (w.alloc (.cells (madeCells Ln.zero.agg.cells (c * 6)) 43)) base (.slice (some ⟨w.heap.size, 0, none⟩) 0 c) [] :=
  ⟨rfl, .inr ⟨w.heap.size, c, _, rfl, hb, heap_alloc_new w _, Nat.zero_le _, by unfold maxLen; omega, size_madeCells _ _, rfl⟩⟩

theorem one_newsA (w : World) (l : Ln) (t : TypeId) {p : Nat} (hp : w.heap.size = p) : ∀ j u, (lcells [l])[j]? = some u → (w.alloc (.cells #[.int .i64 l.k, .string l.le, .string l.na, .string l.se, .string l.va, .string l.ta] t)).cell? ((⟨p, 0, none⟩ : Addr).add j) = some u := fun j u hj => by
  subst hp
  exact World.news_of_block (heap_alloc_new w _) j u (by simpa [lcells, lcell] using hj)
/-- the cells lie in another block than the row that turns -/
theorem ValsAt.farV {w w' : World} {A : Option Addr} {xs : List Value} {row : Option Nat} (h : ValsAt w A xs) (g : w.grownBy w' row) (hne : ∀ b, row = some b → ∀ o, A ≠ some ⟨b, o, none⟩) : ValsAt w' A xs := fun h0 => by
  obtain ⟨b, o, e, hb, hc⟩ := h h0
  refine ⟨b, o, e, Nat.lt_of_lt_of_le hb g.size, fun i hi => ?_⟩
  rw [g.cell_far ⟨b, o + i, none⟩ hb (fun e2 => hne b e2.symm o e)]
  exact hc i hi

end Go.Proofs.Yteifcogfnpeahaa
