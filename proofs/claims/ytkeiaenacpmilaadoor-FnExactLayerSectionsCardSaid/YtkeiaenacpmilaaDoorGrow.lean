/-
  Rows of lines that a call makes by append: the row of nothing, one more line, what a call that returns a file hands over. Condition: at most 1048576 lines.
-/
import Derived.Test.YtkeiaenacpmilaaDoorMarkL
import Derived.Test.YtkeiaenacpmilaaDoorSecs
import Derived.Test.YtkeiaenacpmilaaDoorGet
import Derived.Test.YtkeiaenacpmilaaDoorKeys
import Derived.Deep.AppendLies
namespace Go.Proofs.YtkeiaenacpmilaaDoor
open Go.RowKit

theorem gb_of2 {w a : World} (h : Grows w a) (row : Option Nat) : w.grownBy a row := ⟨h.os, h.tape, h.output, h.size, fun i hi _ => h.block i hi⟩
/-- the rows of two values are not the same block -/
def Apart (v u : Value) : Prop := ∀ k, v.ownBlock = some k → u.ownBlock ≠ some k
/-- the row of the new value is the old one's, or it is new -/
def Near (v v' : Value) (w : World) : Prop := ∀ k, v'.ownBlock = some k → v.ownBlock = some k ∨ k = w.heap.size
theorem near_of {v : Value} {g n c : Nat} {w : World} (h : v.ownBlock = some g ∨ g = w.heap.size) : Near v (.slice (some ⟨g, 0, none⟩) n c) w := fun k hk => by
  injection hk with hk
  subst hk
  exact h
theorem Apart.less {v u : Value} {b : Nat} (hv : ∀ k, v.ownBlock = some k → k < b) (hu : ∀ k, u.ownBlock = some k → b ≤ k) : Apart v u := fun k hk e => by
  have := hv k hk
  have := hu k e
  omega
theorem Apart.more {v u : Value} {b : Nat} (hv : ∀ k, v.ownBlock = some k → b ≤ k) (hu : ∀ k, u.ownBlock = some k → k < b) : Apart v u := fun k hk e => by
  have := hv k hk
  have := hu k e
  omega
theorem Apart.near {v v' u : Value} {w : World} (h : Apart v u) (hn : Near v v' w) (hu : ∀ k, u.ownBlock = some k → k < w.heap.size) : Apart v' u := fun k hk e => by
  rcases hn k hk with h1 | h1
  · exact h k h1 e
  · have := hu k e
    omega
theorem lcell_one (l : Ln) : ∀ u ∈ lcell l, u.oneCell' = true := by
  intro u hu
  simp [lcell] at hu
  rcases hu with rfl | rfl | rfl | rfl | rfl | rfl <;> rfl
theorem lcells_one (ls : List Ln) : ∀ u ∈ lcells ls, u.oneCell' = true := by
  induction ls with
  | nil => intro u hu; simp [lcells] at hu
  | cons l ls ih =>
    intro u hu
    rw [lcells, List.mem_append] at hu
    rcases hu with h | h
    · exact lcell_one l u h
    · exact ih u h
theorem LnAt.cells {w : World} {b o : Nat} {l : Ln} (h : LnAt w b o l) : ∀ j u, (lcell l)[j]? = some u → w.cell? ((⟨b, o, none⟩ : Addr).add j) = some u := by
  obtain ⟨h0, h1, h2, h3, h4, h5⟩ := h
  intro j u hj
  match j, hj with
  | 0, hj => simp [lcell] at hj; subst hj; simpa [Addr.add] using h0
  | 1, hj => simp [lcell] at hj; subst hj; simpa [Addr.add] using h1
  | 2, hj => simp [lcell] at hj; subst hj; simpa [Addr.add] using h2
  | 3, hj => simp [lcell] at hj; subst hj; simpa [Addr.add] using h3
  | 4, hj => simp [lcell] at hj; subst hj; simpa [Addr.add] using h4
  | 5, hj => simp [lcell] at hj; subst hj; simpa [Addr.add] using h5
  | j + 6, hj => simp [lcell] at hj
theorem LnsAt.cells {w : World} {b o : Nat} {ls : List Ln} (h : ∀ i (h : i < ls.length), LnAt w b (o + i * 6) ls[i]) : ∀ j u, (lcells ls)[j]? = some u → w.cell? ((⟨b, o, none⟩ : Addr).add j) = some u := by
  intro j u hj
  have hlt : j < ls.length * 6 := by
    rw [← lcells_length]
    rcases Nat.lt_or_ge j (lcells ls).length with h | h
    · exact h
    · rw [List.getElem?_eq_none h] at hj; cases hj
  have hi : j / 6 < ls.length := by omega
  have hd : j % 6 < 6 := Nat.mod_lt _ (by omega)
  have hjj : j / 6 * 6 + j % 6 = j := by omega
  have hg := lcells_get ls (j / 6) hi (j % 6) hd
  rw [hjj, hj] at hg
  have := (h (j / 6) hi).cells (j % 6) u hg.symm
  have e : (⟨b, o + j / 6 * 6, none⟩ : Addr).add (j % 6) = (⟨b, o, none⟩ : Addr).add j := by
    have ha : ∀ (x y z : Nat), (⟨x, y, none⟩ : Addr).add z = ⟨x, y + z, none⟩ := fun x y z => by unfold Addr.add; split <;> simp_all
    rw [ha, ha, show o + j / 6 * 6 + j % 6 = o + j from by omega]
  rw [← e]
  exact this

theorem lcells_append (a b : List Ln) : lcells (a ++ b) = lcells a ++ lcells b := by
  induction a with
  | nil => rfl
  | cons y a ih => simp [lcells, ih, List.append_assoc]
/-- block b is a box of one cell -/
def Box (w : World) (b : Nat) (v : Value) (T : TypeId) : Prop := w.heap[b]? = some (.cells #[v] T (0, 0))
theorem Box.lt {w : World} {b : Nat} {v : Value} {T : TypeId} (h : Box w b v T) : b < w.heap.size := by
  rcases Nat.lt_or_ge b w.heap.size with hlt | hge
  · exact hlt
  · unfold Box at h; rw [Array.getElem?_eq_none hge] at h; cases h
theorem Box.cell {w : World} {b : Nat} {v : Value} {T : TypeId} (h : Box w b v T) : w.cell? ⟨b, 0, none⟩ = some v := by
  rw [cell_of_row w b 0 _ _ _ h]; rfl
theorem Box.free {w : World} {b : Nat} {v : Value} {T : TypeId} (h : Box w b v T) : w.frozen? ⟨b, 0, none⟩ = false := frozen_of_row w b 0 _ _ h
theorem Box.keep {w w' : World} {b : Nat} {v : Value} {T : TypeId} (h : Box w b v T) (g : Grows w w') : Box w' b v T := (g.block b h.lt).trans h
theorem Box.far {w w' : World} {b : Nat} {v : Value} {T : TypeId} {row : Option Nat} (h : Box w b v T) (g : w.grownBy w' row) (hne : row ≠ some b) : Box w' b v T := (g.block b h.lt (by first | exact hne | exact fun e => hne e.symm)).trans h
theorem Box.set_ {w : World} {b : Nat} {v : Value} {T : TypeId} (h : Box w b v T) (u : Value) : Box (w.setCell ⟨b, 0, none⟩ u) b u T := by
  unfold Box
  unfold Box at h
  simp [World.setCell, Array.getElem?_modify, h]
theorem Box.new (w : World) (v : Value) (T : TypeId) : Box (w.alloc (.cells #[v] T)) w.heap.size v T := heap_alloc_new w _
theorem OwnS.setFar {w : World} {base : Nat} {v : Value} {K : List ByteArray} (h : OwnS w base v K) {p i : Nat} (hp : v.ownBlock ≠ some p) (u : Value) : OwnS (w.setCell ⟨p, i, none⟩ u) base v K :=
  OwnS.far h (row := some p) (gb_set (World.grownBy.refl _ _) i u) (fun k hk e => by
    injection e with e
    subst e
    exact hp hk)
end Go.Proofs.YtkeiaenacpmilaaDoor
