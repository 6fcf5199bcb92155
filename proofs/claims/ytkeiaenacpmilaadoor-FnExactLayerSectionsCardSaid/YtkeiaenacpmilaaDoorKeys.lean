/-
  The keys of a section: KeysOf of the program and of the specification. Conditions: at most 1048576 bytes in all.
-/
import Derived.Test.YtkeiaenacpmilaaDoorOnce
import Derived.Test.YtkeiaenacpmilaaDoorWhere
namespace Go.Proofs.YtkeiaenacpmilaaDoor
open Go.RowKit

/-- the keys of a section among the first k lines -/
def keysTo (ls : List Ln) (s : ByteArray) : Nat → List ByteArray
  | 0 => []
  | k + 1 => if (ls[k]!.k == 3 && inSec ls s k) = true then addT (keysTo ls s k) ls[k]!.na else keysTo ls s k
theorem keysTo_yes {ls : List Ln} {s : ByteArray} {k : Nat} (h : (ls[k]!.k == 3 && inSec ls s k) = true) : keysTo ls s (k + 1) = addT (keysTo ls s k) ls[k]!.na := by
  show (if _ then _ else _) = _
  rw [if_pos h]
theorem keysTo_no {ls : List Ln} {s : ByteArray} {k : Nat} (h : (ls[k]!.k == 3 && inSec ls s k) = false) : keysTo ls s (k + 1) = keysTo ls s k := by
  show (if _ then _ else _) = _
  rw [if_neg (by rw [h]; simp)]
theorem keysTo_le (ls : List Ln) (s : ByteArray) (k : Nat) : (keysTo ls s k).length ≤ k := by
  induction k with
  | zero => exact Nat.le_refl _
  | succ k ih =>
    by_cases h : (ls[k]!.k == 3 && inSec ls s k) = true
    · rw [keysTo_yes h]
      have := addT_le (keysTo ls s k) ls[k]!.na
      omega
    · rw [keysTo_no (by simpa using h)]; omega
/-- the keys of a section by its lines -/
def keysBy (ls : List Ln) (L : List Nat) : List ByteArray := L.foldl (fun acc i => if (ls[i]!.k == 3) = true then addT acc ls[i]!.na else acc) []
theorem keysBy_snoc (ls : List Ln) (L : List Nat) (i : Nat) : keysBy ls (L ++ [i]) = if (ls[i]!.k == 3) = true then addT (keysBy ls L) ls[i]!.na else keysBy ls L := by
  unfold keysBy
  rw [List.foldl_append]
  rfl
theorem keysBy_le (ls : List Ln) (L : List Nat) : (keysBy ls L).length ≤ L.length := by
  rw [← List.reverse_reverse L]
  generalize L.reverse = M
  induction M with
  | nil => exact Nat.le_refl _
  | cons i M ih =>
    rw [List.reverse_cons, keysBy_snoc, List.length_append, List.length_singleton]
    split
    · have := addT_le (keysBy ls M.reverse) ls[i]!.na
      omega
    · omega
theorem keysBy_eq (ls : List Ln) (s : ByteArray) (k : Nat) : keysBy ls (secTo ls s k) = keysTo ls s k := by
  induction k with
  | zero => rfl
  | succ k ih =>
    by_cases h : inSec ls s k = true
    · rw [secTo_yes h, keysBy_snoc, ih]
      by_cases h3 : (ls[k]!.k == 3) = true
      · rw [if_pos h3, keysTo_yes (by rw [h3, h]; rfl)]
      · rw [if_neg h3, keysTo_no (by rw [Bool.eq_false_iff.2 h3, Bool.false_and])]
    · have h' : inSec ls s k = false := by simpa using h
      rw [secTo_no h', ih, keysTo_no (by rw [h', Bool.and_false])]
/-- the keys of a section of a file, none if it is not valid -/
def keysOf' (ls : List Ln) (s : ByteArray) : List ByteArray := if vfile ls = true then keysTo ls s ls.length else []
theorem keysOf_by (ls : List Ln) (s : ByteArray) : keysBy ls (secOf ls s) = keysOf' ls s := by
  unfold secOf keysOf'
  split
  · exact keysBy_eq _ _ _
  · rfl

/-- a call's end: it returns a list of texts in rows of the call's own -/
def StrsRet (xs : List ByteArray) (w : World) (e : Ending) (w' : World) : Prop := ∃ v, e = .returned v ∧ OwnS w' w.heap.size v xs ∧ Grows w w'
theorem OwnS.nil (w : World) (base : Nat) : OwnS w base (.slice none 0 0) [] := World.ownsRow_nil _ _ _ _
theorem OwnS.empty (w : World) (base : Nat) (hb : base ≤ w.heap.size) : OwnS (w.alloc (.cells #[] 9)) base (.slice (some ⟨w.heap.size, 0, none⟩) 0 0) [] :=
  World.ownsRow_lit w #[] 0 hb (Nat.zero_le _) rfl
theorem OwnS.less {w : World} {base base' : Nat} {v : Value} {xs : List ByteArray} (h : OwnS w base v xs) (hb : base' ≤ base) : OwnS w base' v xs := by
  refine ⟨h.1, ?_⟩
  rcases h.2 with h2 | ⟨g, cap, cur, hv, hg, hr⟩
  · exact .inl h2
  · exact .inr ⟨g, cap, cur, hv, by omega, hr⟩

theorem keysOf_le (ls : List Ln) (s : ByteArray) : (keysOf' ls s).length ≤ ls.length := by
  unfold keysOf'
  split
  · exact keysTo_le _ _ _
  · exact Nat.zero_le _
theorem Grows.mark {a b c : World} {row : Option Nat} (h : Grows a b) (hg : b.grownBy c row) (hr : ∀ k, row = some k → a.heap.size ≤ k) : Grows a c := Below.grown h hg h.size hr
theorem OwnS.far {a b : World} {base : Nat} {v : Value} {xs : List ByteArray} {row : Option Nat} (h : OwnS a base v xs) (hg : a.grownBy b row) (hne : ∀ k, v.ownBlock = some k → row ≠ some k) : OwnS b base v xs := by
  refine World.ownsRow.kept h hg ?_
  rcases hb : v.ownBlock with _ | k
  · exact .inl rfl
  · exact .inr (fun e => hne k hb e.symm)
end Go.Proofs.YtkeiaenacpmilaaDoor
