/-
  What the specification's test of a line returns: the plain test 'vline' of its six parts. Conditions: parts no longer than an int says.
-/
import Derived.Test.YtkeiaenacpmilaaDoorStr
namespace Go.Proofs.YtkeiaenacpmilaaDoor
open Go.RowKit

/-- a line: its kind, what it begins with, its name, what separates, its value, what it ends with -/
structure Ln where
  k : Int
  le : ByteArray
  na : ByteArray
  se : ByteArray
  va : ByteArray
  ta : ByteArray
def Ln.cells (l : Ln) : List Value := [.int .i64 l.k, .string l.le, .string l.na, .string l.se, .string l.va, .string l.ta]
def Ln.agg (l : Ln) : Value := .agg #[.int .i64 l.k, .string l.le, .string l.na, .string l.se, .string l.va, .string l.ta]
/-- the parts' lengths fit an int -/
def Ln.fits (l : Ln) : Prop := l.le.size ≤ maxLen ∧ l.na.size ≤ 1048576 ∧ l.se.size ≤ maxLen ∧ l.va.size ≤ maxLen ∧ l.ta.size ≤ maxLen

def nul (s : ByteArray) : Bool := s.toList.isEmpty
/-- the value of a note -/
def vnote (s : ByteArray) : Bool := allB pr s && ((decide (1 ≤ s.size) && decide (s.size ≤ 40)) && decide (s.data.toList.head? = some 35))
def vline (l : Ln) : Bool :=
  vspaces l.le && (
    if l.k = 0 then nul l.na && (nul l.se && (nul l.va && nul l.ta))
    else if l.k = 1 then nul l.na && (nul l.se && (nul l.ta && vnote l.va))
    else if l.k = 2 then vname l.na && (nul l.se && (nul l.va && vspaces l.ta))
    else if l.k = 3 then vname l.na && (vsep l.se && (vvalue l.va && (vspaces l.ta && (!nul l.va || nul l.ta))))
    else false)

theorem vnote_head (s : ByteArray) (h : 0 < s.size) : decide (s.data.toList.head? = some 35) = (((s[0]'h).toNat : Int) == 35) := by
  rw [head_eq s h, Bool.eq_iff_iff, decide_eq_true_iff, beq_iff_eq, Option.some.injEq]
  exact ⟨fun e => by rw [e]; rfl, fun e => UInt8.toNat_inj.1 (by show _ = 35; omega)⟩

end Go.Proofs.YtkeiaenacpmilaaDoor
