/-
  The law's own marks on files: copies that are known to be new, markLineS, markFile, heldStringS. Condition: at most 1048576 lines.
-/
import Derived.Test.YtdedidcjbocicaaMark
namespace Go.Proofs.Ytdedidcjbocicaa
open Go.RowKit

theorem Own6.other {w : World} {g n : Nat} (h : Own6 w g n) {p : Addr} (hp : g ≠ p.block) (u : Value) : Own6 (w.setCell p u) g n := by
  obtain ⟨cs, h, hs⟩ := h
  exact ⟨cs, (Below.heap_setCell w p u g hp).trans h, hs⟩
/-- a call's end: it returns a file whose lines are ls, in a row that is new -/
def FileOwn (ls : List Ln) (w : World) (e : Ending) (w' : World) : Prop :=
  ∃ g : Nat, e = .returned (.agg #[.slice (some ⟨g, 0, none⟩) ls.length ls.length]) ∧ LnsAt w' (some ⟨g, 0, none⟩) ls ∧ Own6 w' g ls.length ∧ w.heap.size ≤ g ∧ Grows w w'

theorem gb_set {w a : World} {g : Nat} (h : w.grownBy a (some g)) (i : Nat) (u : Value) : w.grownBy (a.setCell ⟨g, i, none⟩ u) (some g) :=
  ⟨h.os, h.tape, h.output, by simpa [World.setCell] using h.size, fun k hk hne => (Below.heap_setCell a ⟨g, i, none⟩ u k (fun e => hne (by rw [e]))).trans (h.block k hk hne)⟩
theorem gb_grows {w a b : World} {g : Nat} (h : w.grownBy a (some g)) (k : Grows a b) : w.grownBy b (some g) :=
  ⟨k.os.trans h.os, k.tape.trans h.tape, k.output.trans h.output, Nat.le_trans h.size k.size, fun i hi hne => (k.block i (Nat.lt_of_lt_of_le hi h.size)).trans (h.block i hi hne)⟩
theorem gb_of {w a : World} {g : Nat} (h : Grows w a) : w.grownBy a (some g) := ⟨h.os, h.tape, h.output, h.size, fun i hi _ => h.block i hi⟩

end Go.Proofs.Ytdedidcjbocicaa
