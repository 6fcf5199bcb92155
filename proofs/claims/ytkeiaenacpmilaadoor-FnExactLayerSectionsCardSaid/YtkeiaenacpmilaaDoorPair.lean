/-
  The pairs of a key, the line of a key and its value: pairsOf, WhereIs and GetValue of the program, lastPair, WhereIs and GetValue of the specification. Conditions: at most 1048576 bytes in all.
-/
import Derived.Test.YtkeiaenacpmilaaDoorSec
namespace Go.Proofs.YtkeiaenacpmilaaDoor
open Go.RowKit

/-- line i is a pair of the key -/
def isKey (ls : List Ln) (key : ByteArray) (i : Nat) : Bool := (ls[i]!.k == 3) && (ls[i]!.na.toList == key.toList)
/-- line i is a pair of the key in the section -/
def isPair (ls : List Ln) (s key : ByteArray) (i : Nat) : Bool := isKey ls key i && inSec ls s i
/-- the last pair below k, -1 if there is none -/
def lastP (ls : List Ln) (s key : ByteArray) : Nat → Int
  | 0 => -1
  | k + 1 => if isPair ls s key k = true then (k : Int) else lastP ls s key k
def pairsTo (ls : List Ln) (s key : ByteArray) (k : Nat) : List Nat := (List.range k).filter (isPair ls s key)
theorem pairsTo_eq (ls : List Ln) (s key : ByteArray) (k : Nat) : (secTo ls s k).filter (isKey ls key) = pairsTo ls s key k := by
  unfold secTo pairsTo isPair
  rw [List.filter_filter]
theorem lastP_lt (ls : List Ln) (s key : ByteArray) (k : Nat) : lastP ls s key k < k ∧ -1 ≤ lastP ls s key k := by
  induction k with
  | zero => exact ⟨by show (-1 : Int) < 0; omega, Int.le_refl _⟩
  | succ k ih =>
    unfold lastP
    split <;> omega
theorem lastP_pairs (ls : List Ln) (s key : ByteArray) (k : Nat) : lastP ls s key k = match (pairsTo ls s key k).getLast? with | some i => (i : Int) | none => -1 := by
  induction k with
  | zero => rfl
  | succ k ih =>
    have hs : pairsTo ls s key (k + 1) = pairsTo ls s key k ++ (if isPair ls s key k = true then [k] else []) := by
      unfold pairsTo
      rw [List.range_succ, List.filter_append]
      congr 1
      by_cases h : isPair ls s key k = true <;> simp [h]
    unfold lastP
    rw [hs]
    by_cases h : isPair ls s key k = true
    · rw [if_pos h, if_pos h, List.getLast?_append]
      rfl
    · rw [if_neg h, if_neg h, List.append_nil]
      exact ih
theorem get_bang {ls : List Ln} {k : Nat} (h : k < ls.length) : ls[k]! = ls[k] := by
  rw [List.getElem!_eq_getElem?_getD, List.getElem?_eq_getElem h]; rfl

theorem lastP_yes {ls : List Ln} {s key : ByteArray} {k : Nat} (h : isPair ls s key k = true) : lastP ls s key (k + 1) = k := by
  show (if isPair ls s key k = true then (k : Int) else lastP ls s key k) = k
  rw [if_pos h]
theorem lastP_no {ls : List Ln} {s key : ByteArray} {k : Nat} (h : isPair ls s key k = false) : lastP ls s key (k + 1) = lastP ls s key k := by
  show (if isPair ls s key k = true then (k : Int) else lastP ls s key k) = _
  rw [if_neg (by rw [h]; simp)]

/-- the line of a key in a file, -1 if there is none or the file is not valid -/
def whereOf (ls : List Ln) (s key : ByteArray) : Int := if vfile ls = true then lastP ls s key ls.length else -1
theorem whereOf_yes {ls : List Ln} (s key : ByteArray) (h : vfile ls = true) : whereOf ls s key = lastP ls s key ls.length := by rw [whereOf, if_pos h]
theorem whereOf_no {ls : List Ln} (s key : ByteArray) (h : vfile ls = false) : whereOf ls s key = -1 := by rw [whereOf, if_neg (by rw [h]; simp)]

end Go.Proofs.YtkeiaenacpmilaaDoor
