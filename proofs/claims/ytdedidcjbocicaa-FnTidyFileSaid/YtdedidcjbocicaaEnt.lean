/-
  Entries of layers in memory, rows of them that a call has made, and what entryAt of the specification returns. Condition: at most 1048576 entries.
-/
import Derived.Test.YtdedidcjbocicaaMarkL
namespace Go.Proofs.Ytdedidcjbocicaa
open Go.RowKit

/-- an entry: section, key, op, value -/
structure Ent where
  s : ByteArray
  k : ByteArray
  op : Int
  v : ByteArray
def Ent.agg (e : Ent) : Value := .agg #[.string e.s, .string e.k, .int .i64 e.op, .string e.v]
/-- the four cells of an entry lie from place o of block b on -/
def EntAt (w : World) (b o : Nat) (e : Ent) : Prop :=
  w.cell? ⟨b, o, none⟩ = some (.string e.s) ∧ w.cell? ⟨b, o + 1, none⟩ = some (.string e.k) ∧ w.cell? ⟨b, o + 2, none⟩ = some (.int .i64 e.op) ∧ w.cell? ⟨b, o + 3, none⟩ = some (.string e.v)
def EntsAt (w : World) (A : Option Addr) (es : List Ent) : Prop :=
  0 < es.length → ∃ b o, A = some ⟨b, o, none⟩ ∧ b < w.heap.size ∧ ∀ i (h : i < es.length), EntAt w b (o + i * 4) es[i]
theorem EntAt.keep {w w' : World} {b o : Nat} {e : Ent} (h : EntAt w b o e) (hb : b < w.heap.size) (g : Grows w w') : EntAt w' b o e := by
  obtain ⟨h0, h1, h2, h3⟩ := h
  exact ⟨(g.cell hb).trans h0, (g.cell hb).trans h1, (g.cell hb).trans h2, (g.cell hb).trans h3⟩
theorem EntsAt.keep {w w' : World} {A : Option Addr} {es : List Ent} (h : EntsAt w A es) (g : Grows w w') : EntsAt w' A es := fun h0 => by
  obtain ⟨b, o, e, hb, hc⟩ := h h0
  exact ⟨b, o, e, Nat.lt_of_lt_of_le hb g.size, fun i hi => (hc i hi).keep hb g⟩
theorem EntsAt.nil (w : World) (A : Option Addr) : EntsAt w A [] := fun h => absurd h (Nat.lt_irrefl _)

def ecell (e : Ent) : List Value := [.string e.s, .string e.k, .int .i64 e.op, .string e.v]
def ecells : List Ent → List Value
  | [] => []
  | e :: es => ecell e ++ ecells es
theorem ecells_length (es : List Ent) : (ecells es).length = es.length * 4 := by
  induction es with
  | nil => rfl
  | cons e es ih => simp [ecells, ecell, ih]; omega
theorem ecells_snoc (es : List Ent) (e : Ent) : ecells (es ++ [e]) = ecells es ++ ecell e := by
  induction es with
  | nil => simp [ecells]
  | cons x es ih => simp [ecells, ih, List.append_assoc]
theorem ecells_get (es : List Ent) : ∀ (i : Nat) (h : i < es.length) (d : Nat), d < 4 → (ecells es)[i * 4 + d]? = (ecell es[i])[d]? := by
  induction es with
  | nil => intro i h; exact absurd h (by simp)
  | cons e es ih =>
    intro i h d hd
    have hl : (ecell e).length = 4 := rfl
    cases i with
    | zero => rw [ecells, Nat.zero_mul, Nat.zero_add, List.getElem?_append_left (by rw [hl]; exact hd)]; rfl
    | succ i =>
      rw [ecells, List.getElem?_append_right (by rw [hl]; omega), hl]
      rw [show (i + 1) * 4 + d - 4 = i * 4 + d from by omega, ih i (by simpa using h) d hd]
      rfl
/-- is the entry of this key -/
def Ent.of (e : Ent) (s k : ByteArray) : Bool := (e.s.toList == s.toList) && (e.k.toList == k.toList)
/-- the place of a key, from i on -/
def entFrom (s k : ByteArray) : List Ent → Nat → Int
  | [], _ => -1
  | e :: es, i => if e.of s k then i else entFrom s k es (i + 1)
def entIdx (es : List Ent) (s k : ByteArray) : Int := entFrom s k es 0
def NoneE (es : List Ent) (s k : ByteArray) (j : Nat) : Prop := ∀ i (h : i < es.length), i < j → es[i].of s k = false
theorem NoneE.zero (es : List Ent) (s k : ByteArray) : NoneE es s k 0 := fun _ _ h => absurd h (Nat.not_lt_zero _)
theorem NoneE.succ {es : List Ent} {s k : ByteArray} {j : Nat} (h : NoneE es s k j) (hj : j < es.length) (hl : es[j].of s k = false) : NoneE es s k (j + 1) := by
  intro i hi hij
  by_cases e : i = j
  · subst e; exact hl
  · exact h i hi (by omega)
theorem entFrom_at (s k : ByteArray) : ∀ (es : List Ent) (i j : Nat), NoneE es s k j → ∀ (hj : j < es.length), es[j].of s k = true → entFrom s k es i = ((i + j : Nat) : Int) := by
  intro es
  induction es with
  | nil => intro i j _ hj; exact absurd hj (by simp)
  | cons e es ih =>
    intro i j hn hj ht
    cases j with
    | zero => simp only [List.getElem_cons_zero] at ht; rw [entFrom, if_pos ht]; simp
    | succ j =>
      have h0 : e.of s k = false := hn 0 (by simp) (by omega)
      rw [entFrom, if_neg (by rw [h0]; simp), ih (i + 1) j (fun q hq hqj => hn (q + 1) (by simpa using hq) (by omega)) (by simpa using hj) (by simpa using ht)]
      omega
theorem entFrom_none (s k : ByteArray) : ∀ (es : List Ent) (i : Nat), NoneE es s k es.length → entFrom s k es i = -1 := by
  intro es
  induction es with
  | nil => intro i _; rfl
  | cons e es ih =>
    intro i hn
    have h0 : e.of s k = false := hn 0 (by simp) (by simp)
    rw [entFrom, if_neg (by rw [h0]; simp), ih (i + 1) (fun q hq hqj => hn (q + 1) (by simpa using hq) (by simpa using hqj))]

end Go.Proofs.Ytdedidcjbocicaa
