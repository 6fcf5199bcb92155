/-
  A slice of lines in memory, and what the specification's test of a file returns. Conditions: at most 1048576 lines, each part at most 1048576 bytes.
  The law's own helpers: sizes, copies and comparison of files. Conditions: sizes that an int holds.
  A slice of lines that a call itself makes, and the law's copies of files. Conditions: at most 1048576 lines.
-/
import Derived.Test.YtkjoolmhcfajnaaDoorStr
import Derived.Deep.RegionWith
import Derived.Laws.MakeOwn
namespace Go.Proofs.YtkjoolmhcfajnaaDoor
open Go.RowKit

/-- the six cells of a line lie from place o of block b on -/
def LnAt (w : World) (b o : Nat) (l : Ln) : Prop :=
  w.cell? ⟨b, o, none⟩ = some (.int .i64 l.k) ∧ w.cell? ⟨b, o + 1, none⟩ = some (.string l.le) ∧ w.cell? ⟨b, o + 2, none⟩ = some (.string l.na) ∧
  w.cell? ⟨b, o + 3, none⟩ = some (.string l.se) ∧ w.cell? ⟨b, o + 4, none⟩ = some (.string l.va) ∧ w.cell? ⟨b, o + 5, none⟩ = some (.string l.ta)
/-- the slice's lines lie there -/
def LnsAt (w : World) (A : Option Addr) (ls : List Ln) : Prop :=
  0 < ls.length → ∃ b o, A = some ⟨b, o, none⟩ ∧ b < w.heap.size ∧ ∀ i (h : i < ls.length), LnAt w b (o + i * 6) ls[i]
theorem LnAt.keep {w w' : World} {b o : Nat} {l : Ln} (h : LnAt w b o l) (hb : b < w.heap.size) (g : Grows w w') : LnAt w' b o l := by
  obtain ⟨h0, h1, h2, h3, h4, h5⟩ := h
  exact ⟨(g.cell hb).trans h0, (g.cell hb).trans h1, (g.cell hb).trans h2, (g.cell hb).trans h3, (g.cell hb).trans h4, (g.cell hb).trans h5⟩
theorem LnsAt.keep {w w' : World} {A : Option Addr} {ls : List Ln} (h : LnsAt w A ls) (g : Grows w w') : LnsAt w' A ls := fun h0 => by
  obtain ⟨b, o, e, hb, hc⟩ := h h0
  exact ⟨b, o, e, Nat.lt_of_lt_of_le hb g.size, fun i hi => (hc i hi).keep hb g⟩
theorem LnsAt.nil (w : World) (A : Option Addr) : LnsAt w A [] := fun h => absurd h (Nat.lt_irrefl _)

def AllFit (ls : List Ln) : Prop := ls.length ≤ 1048576 ∧ ∀ i (h : i < ls.length), ls[i].fits
/-- all lines are valid -/
def vlines (ls : List Ln) : Bool := ls.all vline
def vfile (ls : List Ln) : Bool := vlines ls && decide (ls.length ≤ 20)
/-- the first k are valid -/
def VUpto (ls : List Ln) (k : Nat) : Prop := ∀ j (h : j < ls.length), j < k → vline ls[j] = true
theorem VUpto.zero (ls : List Ln) : VUpto ls 0 := fun _ _ h => absurd h (Nat.not_lt_zero _)
theorem VUpto.succ {ls : List Ln} {k : Nat} (h : VUpto ls k) (hk : k < ls.length) (hv : vline ls[k] = true) : VUpto ls (k + 1) := by
  intro j hj hjk
  by_cases e : j = k
  · subst e; exact hv
  · exact h j hj (by omega)
theorem VUpto.all {ls : List Ln} (h : VUpto ls ls.length) : vlines ls = true := by
  unfold vlines
  rw [List.all_eq_true]
  intro l hl
  obtain ⟨j, hj, rfl⟩ := List.getElem_of_mem hl
  exact h j hj hj
theorem vlines_not {ls : List Ln} {k : Nat} (hk : k < ls.length) (h : vline ls[k] = false) : vlines ls = false := by
  unfold vlines
  rw [← Bool.not_eq_true, List.all_eq_true]
  intro hall
  rw [hall _ (List.getElem_mem hk)] at h
  cases h

end Go.Proofs.YtkjoolmhcfajnaaDoor
namespace Go.Proofs.YtkjoolmhcfajnaaDoor
open Go.RowKit

/-- how much a line weighs -/
def Ln.size (l : Ln) : Nat := l.le.size + l.na.size + l.se.size + l.va.size + l.ta.size
/-- what is left of a purse behind a weight; -1 if it does not do -/
def less (left : Int) (t : Nat) : Int := if (t : Int) ≤ left then left - t else -1
theorem less_of {left : Int} {t : Nat} (h : (t : Int) ≤ left) : less left t = left - t := by rw [less, if_pos h]
theorem less_no {left : Int} {t : Nat} (h : left < (t : Int)) : less left t = -1 := by rw [less, if_neg (by omega)]

/-- each part is no longer than a text may be -/
def Ln.inReach (l : Ln) : Prop := l.le.size ≤ maxLen ∧ l.na.size ≤ maxLen ∧ l.se.size ≤ maxLen ∧ l.va.size ≤ maxLen ∧ l.ta.size ≤ maxLen

/-- the weight of the first k lines -/
def wsum (ls : List Ln) (k : Nat) : Nat := ((ls.take k).map Ln.size).sum
theorem wsum_succ {ls : List Ln} {k : Nat} (hk : k < ls.length) : wsum ls (k + 1) = wsum ls k + ls[k].size := by
  unfold wsum
  rw [List.take_succ_eq_append_getElem hk, List.map_append, List.sum_append]
  simp
theorem wsum_le (ls : List Ln) (k : Nat) : wsum ls k ≤ wsum ls ls.length := by
  unfold wsum
  rw [List.take_length]
  have h := List.take_append_drop k ls
  have : (ls.map Ln.size).sum = ((ls.take k).map Ln.size).sum + ((ls.drop k).map Ln.size).sum := by
    rw [← List.sum_append, ← List.map_append, h]
  omega
/-- the weight of lines: their number and their parts -/
def wlines (ls : List Ln) : Nat := ls.length + wsum ls ls.length

theorem Ln.same_self (l : Ln) : l.same l = true := by simp [Ln.same]

end Go.Proofs.YtkjoolmhcfajnaaDoor
namespace Go.Proofs.YtkjoolmhcfajnaaDoor
open Go.RowKit

theorem run_make_rowN {P : Program} (t e : TypeId) (i : TypeInfo) (z : Value) (ht : P.underlying t = some (.slice e)) (hi : P.info? e = some i) (hz : i.zero = some z)
    (kl kc : IntKind) (n c : Nat) (hnc : n ≤ c) (hbytes : i.bytes * c ≤ 281474976710656) (h63 : c ≤ 9223372036854775807) (w : World) :
    (Instr.makeSlice t (.int kl (n : Int)) (.int kc (c : Int))).run P w = .ok (.slice (some ⟨w.heap.size, 0, none⟩) n c) (w.alloc (.cells (madeCells z.cells (c * i.size)) e)) := by
  have hb : (i.bytes : Int) * (c : Int) ≤ 281474976710656 := by
    have h : ((i.bytes * c : Nat) : Int) ≤ 281474976710656 := by omega
    rwa [Int.natCast_mul] at h
  have hr := run_make (P := P) w t e i z ht hi hz kl kc n c (by omega) (by omega) hb (by omega)
  simp only [Int.toNat_natCast] at hr
  exact hr

/-- a line of nothing -/
def Ln.zero : Ln := ⟨0, ⟨#[]⟩, ⟨#[]⟩, ⟨#[]⟩, ⟨#[]⟩, ⟨#[]⟩⟩
/-- a line stored -/
def st6 (w : World) (g o : Nat) (l : Ln) : World :=
  (((((w.setCell ⟨g, o, none⟩ (.int .i64 l.k)).setCell ⟨g, o + 1, none⟩ (.string l.le)).setCell ⟨g, o + 2, none⟩ (.string l.na)).setCell ⟨g, o + 3, none⟩ (.string l.se)).setCell ⟨g, o + 4, none⟩ (.string l.va)).setCell ⟨g, o + 5, none⟩ (.string l.ta)
theorem Grows.st {a w : World} (h : Grows a w) {g : Nat} (hg : a.heap.size ≤ g) (o : Nat) (l : Ln) : Grows a (st6 w g o l) :=
  (((((h.setCell hg _).setCell hg _).setCell hg _).setCell hg _).setCell hg _).setCell hg _

theorem Grows.bf {a b : World} (h : Grows a b) : ∀ k o, k < a.heap.size → b.frozen? ⟨k, o, none⟩ = a.frozen? ⟨k, o, none⟩ := fun k o hk => Below.frozen (p := ⟨k, o, none⟩) h hk

theorem LnAt.setCell {w : World} {b o : Nat} {l : Ln} (h : LnAt w b o l) {p : Addr} (hp : b ≠ p.block) (u : Value) : LnAt (w.setCell p u) b o l := by
  obtain ⟨h0, h1, h2, h3, h4, h5⟩ := h
  have k : ∀ i, (w.setCell p u).cell? ⟨b, i, none⟩ = w.cell? ⟨b, i, none⟩ := fun i => World.cell?_setCell_other w p ⟨b, i, none⟩ u (fun e => hp (by rw [e]))
  exact ⟨(k _).trans h0, (k _).trans h1, (k _).trans h2, (k _).trans h3, (k _).trans h4, (k _).trans h5⟩
theorem LnsAt.setCell {w : World} {b o : Nat} {ls : List Ln} (h : LnsAt w (some ⟨b, o, none⟩) ls) {p : Addr} (hp : b ≠ p.block) (u : Value) : LnsAt (w.setCell p u) (some ⟨b, o, none⟩) ls := fun h0 => by
  obtain ⟨b', o', e, hb, hc⟩ := h h0
  injection e with e
  injection e with e1 e2
  subst e1; subst e2
  exact ⟨b, o, rfl, by simpa [World.setCell] using hb, fun i hi => (hc i hi).setCell hp u⟩

/-- a call's end: it returns a file whose lines are ls, in memory that is new -/
def FileRet (ls : List Ln) (w : World) (e : Ending) (w' : World) : Prop :=
  ∃ B : Addr, e = .returned (.agg #[.slice (some B) ls.length ls.length]) ∧ LnsAt w' (some B) ls ∧ Grows w w'

end Go.Proofs.YtkjoolmhcfajnaaDoor
