/-
  Marks on rows of lines that a call has made: markLineS, heldLineS, markFile, heldFile. Condition: at most 1048576 lines.
-/
import Derived.Test.YtdedidcjbocicaaMark2
import Derived.Deep.RegionHeld3
namespace Go.Proofs.Ytdedidcjbocicaa
open Go.RowKit

/-- the slice v owns a row of n lines with the cells xs -/
def OwnR (w : World) (base : Nat) (v : Value) (n : Nat) (xs : List Value) : Prop := w.ownsRow base 39 6 v n xs
/-- the mark of cell j -/
def mcell (k0 j : Nat) : Value := if j % 6 = 0 then .int .i64 ((k0 + j : Nat) : Int) else .string (mtext (k0 + j))
def mcells (k0 n : Nat) : List Value := (List.range (n * 6)).map (mcell k0)
theorem mcells_length (k0 n : Nat) : (mcells k0 n).length = n * 6 := by simp [mcells]
theorem mcells_get (k0 n j : Nat) (h : j < n * 6) : (mcells k0 n)[j]? = some (mcell k0 j) := by simp [mcells, h]
theorem mcell_0 (k0 k : Nat) : mcell k0 (k * 6) = .int .i64 ((k0 : Int) + k * 6) := by
  unfold mcell; rw [if_pos (by omega)]; congr 1
theorem mcell_s (k0 k d : Nat) (h0 : 0 < d) (h6 : d < 6) : mcell k0 (k * 6 + d) = .string (mtext (k0 + k * 6 + d)) := by
  unfold mcell; rw [if_neg (by omega), Nat.add_assoc]

theorem OwnR.form {w : World} {base n : Nat} {v : Value} {xs : List Value} (h : OwnR w base v n xs) : ∃ A c, v = .slice A n c ∧ (0 < n → ∃ g, A = some ⟨g, 0, none⟩ ∧ base ≤ g ∧ g < w.heap.size ∧
    (∀ j, j < n * 6 → w.cell? ⟨g, j, none⟩ = xs[j]?) ∧ ∀ j, w.frozen? ⟨g, j, none⟩ = false) := by
  rcases Nat.eq_zero_or_pos n with h0 | h0
  · rcases h.2 with ⟨rfl, _⟩ | ⟨g, cap, cur, rfl, _⟩
    · exact ⟨none, 0, by rw [h0], fun hh => absurd hh (by omega)⟩
    · exact ⟨_, _, rfl, fun hh => absurd hh (by omega)⟩
  · obtain ⟨g, cap, hv, hb, hlt⟩ := World.ownsRow.form h h0
    subst hv
    exact ⟨_, _, rfl, fun _ => ⟨g, rfl, hb, hlt, fun j hj => World.ownsRow.cellAt h j hj, fun j => World.ownsRow.frozenAt h j⟩⟩
theorem OwnR.size {w : World} {base n : Nat} {v : Value} {xs : List Value} (h : OwnR w base v n xs) : xs.length = n * 6 := h.1
theorem OwnR.keep {w w' : World} {base n : Nat} {v : Value} {xs : List Value} (h : OwnR w base v n xs) (g : Grows w w') : OwnR w' base v n xs := by
  have hlt := World.ownsRow.lt h
  refine World.ownsRow.kept (row := some w.heap.size) h ⟨g.os, g.tape, g.output, g.size, fun i hi _ => g.block i hi⟩ ?_
  rcases hb : v.ownBlock with _ | k
  · exact .inl rfl
  · exact .inr (fun e => by
      have := (hlt k hb).2
      injection e with e
      omega)
theorem OwnR.set_ {w : World} {base g n c : Nat} {xs : List Value} (h : OwnR w base (.slice (some ⟨g, 0, none⟩) n c) n xs) (j : Nat) (u : Value) : OwnR (w.setCell ⟨g, j, none⟩ u) base (.slice (some ⟨g, 0, none⟩) n c) n (xs.set j u) :=
  (World.ownsRow.stored h j u).1
/-- the first j cells bear their marks -/
def MUpto (k0 : Nat) (xs : List Value) (j : Nat) : Prop := ∀ i, i < j → xs[i]? = some (mcell k0 i)
theorem MUpto.zero (k0 : Nat) (xs : List Value) : MUpto k0 xs 0 := fun _ h => absurd h (Nat.not_lt_zero _)
theorem MUpto.succ {k0 j : Nat} {xs : List Value} (h : MUpto k0 xs j) (hj : j < xs.length) {u : Value} (hu : mcell k0 j = u) : MUpto k0 (xs.set j u) (j + 1) := by
  intro i hi
  rw [List.getElem?_set]
  split
  · rename_i e; subst e; rw [hu]
  · exact h i (by omega)
theorem MUpto.all {k0 n : Nat} {xs : List Value} (h : MUpto k0 xs (n * 6)) (hl : xs.length = n * 6) : xs = mcells k0 n := by
  apply List.ext_getElem? 
  intro i
  by_cases hi : i < n * 6
  · rw [h i hi, mcells_get _ _ _ hi]
  · rw [List.getElem?_eq_none (by omega), List.getElem?_eq_none (by rw [mcells_length]; omega)]
/-- a state of the marking: the row with its first j marks -/
def MSt (w0 w : World) (base g n c k0 j : Nat) : Prop := (∃ xs, OwnR w base (.slice (some ⟨g, 0, none⟩) n c) n xs ∧ MUpto k0 xs j) ∧ w0.grownBy w (some g)
theorem MSt.start {w : World} {base g n c : Nat} {xs : List Value} (h : OwnR w base (.slice (some ⟨g, 0, none⟩) n c) n xs) (k0 : Nat) : MSt w w base g n c k0 0 := ⟨⟨xs, h, MUpto.zero _ _⟩, World.grownBy.refl _ _⟩
theorem MSt.grows {w0 a b : World} {base g n c k0 j : Nat} (h : MSt w0 a base g n c k0 j) (k : Grows a b) : MSt w0 b base g n c k0 j := by
  obtain ⟨⟨xs, h1, h2⟩, h3⟩ := h
  exact ⟨⟨xs, h1.keep k, h2⟩, gb_grows h3 k⟩
theorem MSt.put {w0 a : World} {base g n c k0 j : Nat} (h : MSt w0 a base g n c k0 j) (hj : j < n * 6) {u : Value} (hu : mcell k0 j = u) : MSt w0 (a.setCell ⟨g, j, none⟩ u) base g n c k0 (j + 1) := by
  obtain ⟨⟨xs, h1, h2⟩, h3⟩ := h
  exact ⟨⟨xs.set j u, h1.set_ j u, h2.succ (by rw [h1.size]; exact hj) hu⟩, gb_set h3 _ _⟩
theorem MSt.cell {w0 a : World} {base g n c k0 j : Nat} (h : MSt w0 a base g n c k0 j) {i : Nat} (hi : i < n * 6) : ∃ v, a.cell? ⟨g, i, none⟩ = some v := by
  obtain ⟨⟨xs, h1, h2⟩, h3⟩ := h
  rw [World.ownsRow.cellAt h1 i hi]
  exact ⟨_, List.getElem?_eq_getElem (by rw [h1.size]; exact hi)⟩
theorem MSt.frozen {w0 a : World} {base g n c k0 j : Nat} (h : MSt w0 a base g n c k0 j) (i : Nat) : a.frozen? ⟨g, i, none⟩ = false := by
  obtain ⟨⟨xs, h1, h2⟩, h3⟩ := h
  exact World.ownsRow.frozenAt h1 i

/-- the row bears all its marks -/
def Marked (w : World) (g n k0 : Nat) : Prop := g < w.heap.size ∧ ∀ j, j < n * 6 → w.cell? ⟨g, j, none⟩ = some (mcell k0 j)
theorem Marked.keep {a b : World} {g n k0 : Nat} (h : Marked a g n k0) (k : Grows a b) : Marked b g n k0 := ⟨Nat.lt_of_lt_of_le h.1 k.size, fun j hj => (k.cell (p := ⟨g, j, none⟩) h.1).trans (h.2 j hj)⟩
theorem MSt.marked {w0 w : World} {base g n c k0 : Nat} (h : MSt w0 w base g n c k0 (n * 6)) : Marked w g n k0 := by
  obtain ⟨⟨xs, h1, h2⟩, h3⟩ := h
  refine ⟨(World.ownsRow.lt h1 g rfl).2, fun j hj => ?_⟩
  rw [World.ownsRow.cellAt h1 j hj, h2 j hj]

/-- the cells of lines -/
def lcell (l : Ln) : List Value := [.int .i64 l.k, .string l.le, .string l.na, .string l.se, .string l.va, .string l.ta]
def lcells : List Ln → List Value
  | [] => []
  | l :: ls => lcell l ++ lcells ls
theorem lcells_length (ls : List Ln) : (lcells ls).length = ls.length * 6 := by
  induction ls with
  | nil => rfl
  | cons l ls ih => simp [lcells, lcell, ih]; omega
theorem lcells_snoc (ls : List Ln) (l : Ln) : lcells (ls ++ [l]) = lcells ls ++ lcell l := by
  induction ls with
  | nil => simp [lcells]
  | cons x ls ih => simp [lcells, ih, List.append_assoc]
theorem lcells_get (ls : List Ln) : ∀ (i : Nat) (h : i < ls.length) (d : Nat), d < 6 → (lcells ls)[i * 6 + d]? = (lcell ls[i])[d]? := by
  induction ls with
  | nil => intro i h; exact absurd h (by simp)
  | cons l ls ih =>
    intro i h d hd
    have hl : (lcell l).length = 6 := rfl
    cases i with
    | zero => rw [lcells, Nat.zero_mul, Nat.zero_add, List.getElem?_append_left (by rw [hl]; exact hd)]; rfl
    | succ i =>
      rw [lcells, List.getElem?_append_right (by rw [hl]; omega), hl]
      rw [show (i + 1) * 6 + d - 6 = i * 6 + d from by omega, ih i (by simpa using h) d hd]
      rfl
/-- the slice v owns these lines -/
def OwnL (w : World) (base : Nat) (v : Value) (ls : List Ln) : Prop := OwnR w base v ls.length (lcells ls)
theorem OwnL.at {w : World} {base : Nat} {A : Option Addr} {c : Nat} {ls : List Ln} (h : OwnL w base (.slice A ls.length c) ls) : LnsAt w A ls := fun h0 => by
  obtain ⟨A', c', hv, hA⟩ := OwnR.form h
  injection hv with e1 e2 e3
  subst e1
  obtain ⟨g, rfl, hb, hg, hc, _⟩ := hA h0
  refine ⟨g, 0, rfl, hg, fun i hi => ?_⟩
  have hx := fun d (hd : d < 6) => (hc (i * 6 + d) (by omega)).trans (lcells_get ls i hi d hd)
  rw [Nat.zero_add]
  exact ⟨hx 0 (by omega), hx 1 (by omega), hx 2 (by omega), hx 3 (by omega), hx 4 (by omega), hx 5 (by omega)⟩
theorem OwnL.keep {w w' : World} {base : Nat} {v : Value} {ls : List Ln} (h : OwnL w base v ls) (g : Grows w w') : OwnL w' base v ls := OwnR.keep h g
/-- the row of n lines bears its marks, and nothing else has turned -/
def Signed (w w' : World) (base : Nat) (v : Value) (n k0 : Nat) : Prop := OwnR w' base v n (mcells k0 n) ∧ Only v w w'
theorem MSt.signed {w0 w : World} {base g n c k0 : Nat} (h : MSt w0 w base g n c k0 (n * 6)) : Signed w0 w base (.slice (some ⟨g, 0, none⟩) n c) n k0 := by
  obtain ⟨⟨xs, h1, h2⟩, h3⟩ := h
  rw [h2.all h1.size] at h1
  exact ⟨h1, h3⟩
/-- what lies in other blocks stays -/
theorem LnsAt.only {w w' : World} {A : Option Addr} {ls : List Ln} {v : Value} (h : LnsAt w A ls) (k : Only v w w') (hne : ∀ b o, A = some ⟨b, o, none⟩ → v.ownBlock ≠ some b) : LnsAt w' A ls := fun h0 => by
  obtain ⟨b, o, e, hb, hc⟩ := h h0
  refine ⟨b, o, e, Nat.lt_of_lt_of_le hb k.size, fun i hi => ?_⟩
  have hbk : w'.heap[b]? = w.heap[b]? := k.block b hb (by first | exact fun e2 => hne b o e e2 | exact fun e2 => hne b o e e2.symm)
  have hx : ∀ q, w'.cell? ⟨b, q, none⟩ = w.cell? ⟨b, q, none⟩ := fun q => World.cell?_of_block (w := w) hbk
  obtain ⟨h0, h1, h2, h3, h4, h5⟩ := hc i hi
  exact ⟨(hx _).trans h0, (hx _).trans h1, (hx _).trans h2, (hx _).trans h3, (hx _).trans h4, (hx _).trans h5⟩

theorem Signed.alloc {w w' : World} {base n k0 : Nat} {v : Value} {o : Obj} (h : Signed (w.alloc o) w' base v n k0) : Signed w w' base v n k0 :=
  ⟨h.1, ⟨h.2.os, h.2.tape, h.2.output, Nat.le_trans (by simp) h.2.size, fun i hi hne => (h.2.block i (Nat.lt_of_lt_of_le hi (by simp)) hne).trans (Below.heap_alloc _ _ _ hi)⟩⟩

theorem toList_inj {a b : ByteArray} (h : a.toList = b.toList) : a = b := by
  rw [Lib.toList_data, Lib.toList_data] at h
  cases a; cases b
  simp at h
  rw [h]
end Go.Proofs.Ytdedidcjbocicaa
