/-
  The law's own helpers: sizes, copies and comparison of files. Conditions: sizes that an int holds.
-/
import Derived.Test.YtdedidcjbocicaaMem
import Derived.Test.YtdedidcjbocicaaSame
import Derived.Deep.RegionWith
namespace Go.Proofs.Ytdedidcjbocicaa
open Go.RowKit

/-- how much a line weighs -/
def Ln.size (l : Ln) : Nat := l.le.size + l.na.size + l.se.size + l.va.size + l.ta.size
/-- what is left of a purse behind a weight; -1 if it does not do -/
def less (left : Int) (t : Nat) : Int := if (t : Int) ≤ left then left - t else -1
theorem less_of {left : Int} {t : Nat} (h : (t : Int) ≤ left) : less left t = left - t := by rw [less, if_pos h]
theorem less_no {left : Int} {t : Nat} (h : left < (t : Int)) : less left t = -1 := by rw [less, if_neg (by omega)]

/-- each part is no longer than a text may be -/
def Ln.inReach (l : Ln) : Prop := l.le.size ≤ maxLen ∧ l.na.size ≤ maxLen ∧ l.se.size ≤ maxLen ∧ l.va.size ≤ maxLen ∧ l.ta.size ≤ maxLen

/-- the weight of the first k lines -/
def wsum (ls : List Ln) (k : Nat) : Nat := ((ls.take k).map Ln.size).sum
theorem wsum_succ {ls : List Ln} {k : Nat} (hk : k < ls.length) : wsum ls (k + 1) = wsum ls k + ls[k].size := by
  unfold wsum
  rw [List.take_succ_eq_append_getElem hk, List.map_append, List.sum_append]
  simp
theorem wsum_le (ls : List Ln) (k : Nat) : wsum ls k ≤ wsum ls ls.length := by
  unfold wsum
  rw [List.take_length]
  have h := List.take_append_drop k ls
  have : (ls.map Ln.size).sum = ((ls.take k).map Ln.size).sum + ((ls.drop k).map Ln.size).sum := by
    rw [← List.sum_append, ← List.map_append, h]
  omega
/-- the weight of lines: their number and their parts -/
def wlines (ls : List Ln) : Nat := ls.length + wsum ls ls.length

theorem Ln.same_self (l : Ln) : l.same l = true := by simp [Ln.same]

end Go.Proofs.Ytdedidcjbocicaa
