/-
  The law's own marks: markText. Condition: numbers below 2^62.
-/
import Derived.Test.YtdedidcjbocicaaSec
namespace Go.Proofs.Ytdedidcjbocicaa
open Go.RowKit

/-- decimal digits ahead of a text -/
def dg (k : Nat) (acc : List UInt8) : List UInt8 := if h : k = 0 then acc else dg (k / 10) (UInt8.ofNat (48 + k % 10) :: acc)
termination_by k
decreasing_by omega
def mtext (k : Nat) : ByteArray := ⟨(109 :: (if k = 0 then [48] else dg k [])).toArray⟩

/-- texts as cells -/
def strs' (l : List ByteArray) : List Value := l.map Value.string
theorem strs_length (l : List ByteArray) : (strs' l).length = l.length := by simp [strs']
theorem strs_get (l : List ByteArray) (i : Nat) (h : i < l.length) : (strs' l)[i]? = some (.string l[i]) := by simp [strs', h]
theorem strs_snoc (l : List ByteArray) (x : ByteArray) : strs' (l ++ [x]) = strs' l ++ [.string x] := by simp [strs']
/-- the slice v owns the texts xs -/
def OwnS (w : World) (base : Nat) (v : Value) (xs : List ByteArray) : Prop := w.ownsRow base 9 1 v xs.length (strs' xs)
/-- a slice of texts: nil or at the head of a row -/
theorem OwnS.form {w : World} {base : Nat} {v : Value} {xs : List ByteArray} (h : OwnS w base v xs) : ∃ A c, v = .slice A xs.length c ∧ (0 < xs.length → ∃ g, A = some ⟨g, 0, none⟩ ∧ base ≤ g ∧ g < w.heap.size ∧
    (∀ i (hi : i < xs.length), w.cell? ⟨g, i, none⟩ = some (.string xs[i])) ∧ ∀ i, w.frozen? ⟨g, i, none⟩ = false) := by
  rcases Nat.eq_zero_or_pos xs.length with h0 | h0
  · rcases h.2 with ⟨rfl, _⟩ | ⟨g, cap, cur, rfl, _⟩
    · exact ⟨none, 0, by rw [h0], fun hh => absurd hh (by omega)⟩
    · exact ⟨_, _, rfl, fun hh => absurd hh (by omega)⟩
  · obtain ⟨g, cap, hv, hb, hlt⟩ := World.ownsRow.form h h0
    subst hv
    refine ⟨_, _, rfl, fun _ => ⟨g, rfl, hb, hlt, fun i hi => ?_, fun i => World.ownsRow.frozenAt h i⟩⟩
    rw [World.ownsRow.cellAt h i (by omega), strs_get _ _ hi]

/-- the marks that a row of n texts gets from k on -/
def marks (k n : Nat) : List ByteArray := (List.range n).map fun i => mtext (k + i)
theorem marks_length (k n : Nat) : (marks k n).length = n := by simp [marks]
theorem marks_get (k n i : Nat) (h : i < (marks k n).length) : (marks k n)[i] = mtext (k + i) := by simp [marks]
/-- only block g has turned -/
def Only (v : Value) (w w' : World) : Prop := w.grownBy w' v.ownBlock
theorem Only.refl (v : Value) (w : World) : Only v w w := World.grownBy.refl w _
theorem Only.grows {v : Value} {a b c : World} (h : Only v a b) (k : Grows b c) : Only v a c :=
  ⟨k.os.trans h.os, k.tape.trans h.tape, k.output.trans h.output, Nat.le_trans h.size k.size, fun i hi hne => (k.block i (Nat.lt_of_lt_of_le hi h.size)).trans (h.block i hi hne)⟩
theorem Only.set_ {A : Option Addr} {n c g : Nat} {a b : World} (h : Only (.slice A n c) a b) (hA : A = some ⟨g, 0, none⟩) (i : Nat) (u : Value) : Only (.slice A n c) a (b.setCell ⟨g, i, none⟩ u) := by
  subst hA
  exact ⟨h.os, h.tape, h.output, by simpa [World.setCell] using h.size, fun k hk hne => (Below.heap_setCell b ⟨g, i, none⟩ u k (fun e => hne (by rw [e]; rfl))).trans (h.block k hk hne)⟩

theorem OwnS.keep {w w' : World} {base : Nat} {v : Value} {xs : List ByteArray} (h : OwnS w base v xs) (g : Grows w w') : OwnS w' base v xs := by
  have hlt := World.ownsRow.lt h
  refine World.ownsRow.kept (row := some w.heap.size) h ⟨g.os, g.tape, g.output, g.size, fun i hi _ => g.block i hi⟩ ?_
  rcases hb : v.ownBlock with _ | k
  · exact .inl rfl
  · exact .inr (fun e => by
      have := (hlt k hb).2
      injection e with e
      omega)
theorem OwnS.set_ {w : World} {base g n c : Nat} {xs : List ByteArray} (h : OwnS w base (.slice (some ⟨g, 0, none⟩) n c) xs) (k : Nat) (x : ByteArray) : OwnS (w.setCell ⟨g, k, none⟩ (.string x)) base (.slice (some ⟨g, 0, none⟩) n c) (xs.set k x) := by
  obtain ⟨A', c', hv, _⟩ := h.form
  injection hv with _ e2 _
  subst e2
  have := (World.ownsRow.stored h k (.string x)).1
  unfold OwnS
  rw [List.length_set]
  have e : strs' (xs.set k x) = (strs' xs).set k (.string x) := by simp [strs', List.map_set]
  rw [e]
  exact this

end Go.Proofs.Ytdedidcjbocicaa
