/-
  A slice of lines that a call itself makes, and the law's copies of files. Conditions: at most 1048576 lines.
-/
import Derived.Test.YtkeiaenacpmilaaDoorHelp
import Derived.Laws.MakeOwn
namespace Go.Proofs.YtkeiaenacpmilaaDoor
open Go.RowKit

theorem run_make_rowN {P : Program} (t e : TypeId) (i : TypeInfo) (z : Value) (ht : P.underlying t = some (.slice e)) (hi : P.info? e = some i) (hz : i.zero = some z)
    (kl kc : IntKind) (n c : Nat) (hnc : n ≤ c) (hbytes : i.bytes * c ≤ 281474976710656) (h63 : c ≤ 9223372036854775807) (w : World) :
    (Instr.makeSlice t (.int kl (n : Int)) (.int kc (c : Int))).run P w = .ok (.slice (some ⟨w.heap.size, 0, none⟩) n c) (w.alloc (.cells (madeCells z.cells (c * i.size)) e)) := by
  have hb : (i.bytes : Int) * (c : Int) ≤ 281474976710656 := by
    have h : ((i.bytes * c : Nat) : Int) ≤ 281474976710656 := by omega
    rwa [Int.natCast_mul] at h
  have hr := run_make (P := P) w t e i z ht hi hz kl kc n c (by omega) (by omega) hb (by omega)
  simp only [Int.toNat_natCast] at hr
  exact hr

/-- a line of nothing -/
def Ln.zero : Ln := ⟨0, ⟨#[]⟩, ⟨#[]⟩, ⟨#[]⟩, ⟨#[]⟩, ⟨#[]⟩⟩
/-- a line stored -/
def st6 (w : World) (g o : Nat) (l : Ln) : World :=
  (((((w.setCell ⟨g, o, none⟩ (.int .i64 l.k)).setCell ⟨g, o + 1, none⟩ (.string l.le)).setCell ⟨g, o + 2, none⟩ (.string l.na)).setCell ⟨g, o + 3, none⟩ (.string l.se)).setCell ⟨g, o + 4, none⟩ (.string l.va)).setCell ⟨g, o + 5, none⟩ (.string l.ta)
theorem Grows.st {a w : World} (h : Grows a w) {g : Nat} (hg : a.heap.size ≤ g) (o : Nat) (l : Ln) : Grows a (st6 w g o l) :=
  (((((h.setCell hg _).setCell hg _).setCell hg _).setCell hg _).setCell hg _).setCell hg _

theorem Grows.bc {a b : World} (h : Grows a b) : ∀ k o, k < a.heap.size → b.cell? ⟨k, o, none⟩ = a.cell? ⟨k, o, none⟩ := fun k o hk => Below.cell (p := ⟨k, o, none⟩) h hk
theorem Grows.bf {a b : World} (h : Grows a b) : ∀ k o, k < a.heap.size → b.frozen? ⟨k, o, none⟩ = a.frozen? ⟨k, o, none⟩ := fun k o hk => Below.frozen (p := ⟨k, o, none⟩) h hk

theorem LnAt.setCell {w : World} {b o : Nat} {l : Ln} (h : LnAt w b o l) {p : Addr} (hp : b ≠ p.block) (u : Value) : LnAt (w.setCell p u) b o l := by
  obtain ⟨h0, h1, h2, h3, h4, h5⟩ := h
  have k : ∀ i, (w.setCell p u).cell? ⟨b, i, none⟩ = w.cell? ⟨b, i, none⟩ := fun i => World.cell?_setCell_other w p ⟨b, i, none⟩ u (fun e => hp (by rw [e]))
  exact ⟨(k _).trans h0, (k _).trans h1, (k _).trans h2, (k _).trans h3, (k _).trans h4, (k _).trans h5⟩
theorem LnsAt.setCell {w : World} {b o : Nat} {ls : List Ln} (h : LnsAt w (some ⟨b, o, none⟩) ls) {p : Addr} (hp : b ≠ p.block) (u : Value) : LnsAt (w.setCell p u) (some ⟨b, o, none⟩) ls := fun h0 => by
  obtain ⟨b', o', e, hb, hc⟩ := h h0
  injection e with e
  injection e with e1 e2
  subst e1; subst e2
  exact ⟨b, o, rfl, by simpa [World.setCell] using hb, fun i hi => (hc i hi).setCell hp u⟩

/-- a call's end: it returns a file whose lines are ls, in memory that is new -/
def FileRet (ls : List Ln) (w : World) (e : Ending) (w' : World) : Prop :=
  ∃ B : Addr, e = .returned (.agg #[.slice (some B) ls.length ls.length]) ∧ LnsAt w' (some B) ls ∧ Grows w w'

end Go.Proofs.YtkeiaenacpmilaaDoor
