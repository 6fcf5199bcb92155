/-
  The law's own marks: markText. Condition: numbers below 2^62.
  The law's own marks on files: copies that are known to be new, markLineS, markFile, heldStringS. Condition: at most 1048576 lines.
  Marks on rows of lines that a call has made: markLineS, heldLineS, markFile, heldFile. Condition: at most 1048576 lines.
  Lists of texts that have each text once: addOnce of the program, hasText and addText of the specification. Condition: at most 1048576 texts.
-/
import Derived.Test.YtkjoolmhcfajnaaDoorSec
import Derived.Deep.RegionHeld3
namespace Go.Proofs.YtkjoolmhcfajnaaDoor
open Go.RowKit

/-- decimal digits ahead of a text -/
def dg (k : Nat) (acc : List UInt8) : List UInt8 := if h : k = 0 then acc else dg (k / 10) (UInt8.ofNat (48 + k % 10) :: acc)
termination_by k
decreasing_by omega
def mtext (k : Nat) : ByteArray := ⟨(109 :: (if k = 0 then [48] else dg k [])).toArray⟩

/-- texts as cells -/
def strs' (l : List ByteArray) : List Value := l.map Value.string
theorem strs_length (l : List ByteArray) : (strs' l).length = l.length := by simp [strs']
theorem strs_get (l : List ByteArray) (i : Nat) (h : i < l.length) : (strs' l)[i]? = some (.string l[i]) := by simp [strs', h]
theorem strs_snoc (l : List ByteArray) (x : ByteArray) : strs' (l ++ [x]) = strs' l ++ [.string x] := by simp [strs']
/-- the slice v owns the texts xs -/
def OwnS (w : World) (base : Nat) (v : Value) (xs : List ByteArray) : Prop := w.ownsRow base 9 1 v xs.length (strs' xs)
/-- a slice of texts: nil or at the head of a row -/
theorem OwnS.form {w : World} {base : Nat} {v : Value} {xs : List ByteArray} (h : OwnS w base v xs) : ∃ A c, v = .slice A xs.length c ∧ (0 < xs.length → ∃ g, A = some ⟨g, 0, none⟩ ∧ base ≤ g ∧ g < w.heap.size ∧
    (∀ i (hi : i < xs.length), w.cell? ⟨g, i, none⟩ = some (.string xs[i])) ∧ ∀ i, w.frozen? ⟨g, i, none⟩ = false) := by
  rcases Nat.eq_zero_or_pos xs.length with h0 | h0
  · rcases h.2 with ⟨rfl, _⟩ | ⟨g, cap, cur, rfl, _⟩
    · exact ⟨none, 0, by rw [h0], fun hh => absurd hh (by omega)⟩
    · exact ⟨_, _, rfl, fun hh => absurd hh (by omega)⟩
  · obtain ⟨g, cap, hv, hb, hlt⟩ := World.ownsRow.form h h0
    subst hv
    refine ⟨_, _, rfl, fun _ => ⟨g, rfl, hb, hlt, fun i hi => ?_, fun i => World.ownsRow.frozenAt h i⟩⟩
    rw [World.ownsRow.cellAt h i (by omega), strs_get _ _ hi]

/-- the marks that a row of n texts gets from k on -/
def marks (k n : Nat) : List ByteArray := (List.range n).map fun i => mtext (k + i)
theorem marks_length (k n : Nat) : (marks k n).length = n := by simp [marks]
theorem marks_get (k n i : Nat) (h : i < (marks k n).length) : (marks k n)[i] = mtext (k + i) := by simp [marks]
/-- only block g has turned -/
def Only (v : Value) (w w' : World) : Prop := w.grownBy w' v.ownBlock
theorem Only.refl (v : Value) (w : World) : Only v w w := World.grownBy.refl w _
theorem Only.grows {v : Value} {a b c : World} (h : Only v a b) (k : Grows b c) : Only v a c :=
  ⟨k.os.trans h.os, k.tape.trans h.tape, k.output.trans h.output, Nat.le_trans h.size k.size, fun i hi hne => (k.block i (Nat.lt_of_lt_of_le hi h.size)).trans (h.block i hi hne)⟩
theorem Only.set_ {A : Option Addr} {n c g : Nat} {a b : World} (h : Only (.slice A n c) a b) (hA : A = some ⟨g, 0, none⟩) (i : Nat) (u : Value) : Only (.slice A n c) a (b.setCell ⟨g, i, none⟩ u) := by
  subst hA
  exact ⟨h.os, h.tape, h.output, by simpa [World.setCell] using h.size, fun k hk hne => (Below.heap_setCell b ⟨g, i, none⟩ u k (fun e => hne (by rw [e]; rfl))).trans (h.block k hk hne)⟩

theorem OwnS.keep {w w' : World} {base : Nat} {v : Value} {xs : List ByteArray} (h : OwnS w base v xs) (g : Grows w w') : OwnS w' base v xs := by
  have hlt := World.ownsRow.lt h
  refine World.ownsRow.kept (row := some w.heap.size) h ⟨g.os, g.tape, g.output, g.size, fun i hi _ => g.block i hi⟩ ?_
  rcases hb : v.ownBlock with _ | k
  · exact .inl rfl
  · exact .inr (fun e => by
      have := (hlt k hb).2
      injection e with e
      omega)
theorem OwnS.set_ {w : World} {base g n c : Nat} {xs : List ByteArray} (h : OwnS w base (.slice (some ⟨g, 0, none⟩) n c) xs) (k : Nat) (x : ByteArray) : OwnS (w.setCell ⟨g, k, none⟩ (.string x)) base (.slice (some ⟨g, 0, none⟩) n c) (xs.set k x) := by
  obtain ⟨A', c', hv, _⟩ := h.form
  injection hv with _ e2 _
  subst e2
  have := (World.ownsRow.stored h k (.string x)).1
  unfold OwnS
  rw [List.length_set]
  have e : strs' (xs.set k x) = (strs' xs).set k (.string x) := by simp [strs', List.map_set]
  rw [e]
  exact this

end Go.Proofs.YtkjoolmhcfajnaaDoor
namespace Go.Proofs.YtkjoolmhcfajnaaDoor
open Go.RowKit

theorem gb_set {w a : World} {g : Nat} (h : w.grownBy a (some g)) (i : Nat) (u : Value) : w.grownBy (a.setCell ⟨g, i, none⟩ u) (some g) :=
  ⟨h.os, h.tape, h.output, by simpa [World.setCell] using h.size, fun k hk hne => (Below.heap_setCell a ⟨g, i, none⟩ u k (fun e => hne (by rw [e]))).trans (h.block k hk hne)⟩
theorem gb_grows {w a b : World} {g : Nat} (h : w.grownBy a (some g)) (k : Grows a b) : w.grownBy b (some g) :=
  ⟨k.os.trans h.os, k.tape.trans h.tape, k.output.trans h.output, Nat.le_trans h.size k.size, fun i hi hne => (k.block i (Nat.lt_of_lt_of_le hi h.size)).trans (h.block i hi hne)⟩
theorem gb_of {w a : World} {g : Nat} (h : Grows w a) : w.grownBy a (some g) := ⟨h.os, h.tape, h.output, h.size, fun i hi _ => h.block i hi⟩

end Go.Proofs.YtkjoolmhcfajnaaDoor
namespace Go.Proofs.YtkjoolmhcfajnaaDoor
open Go.RowKit

/-- the mark of cell j -/
def mcell (k0 j : Nat) : Value := if j % 6 = 0 then .int .i64 ((k0 + j : Nat) : Int) else .string (mtext (k0 + j))
def mcells (k0 n : Nat) : List Value := (List.range (n * 6)).map (mcell k0)
theorem mcells_length (k0 n : Nat) : (mcells k0 n).length = n * 6 := by simp [mcells]
theorem mcells_get (k0 n j : Nat) (h : j < n * 6) : (mcells k0 n)[j]? = some (mcell k0 j) := by simp [mcells, h]
theorem mcell_0 (k0 k : Nat) : mcell k0 (k * 6) = .int .i64 ((k0 : Int) + k * 6) := by
  unfold mcell; rw [if_pos (by omega)]; congr 1
theorem mcell_s (k0 k d : Nat) (h0 : 0 < d) (h6 : d < 6) : mcell k0 (k * 6 + d) = .string (mtext (k0 + k * 6 + d)) := by
  unfold mcell; rw [if_neg (by omega), Nat.add_assoc]

/-- the first j cells bear their marks -/
def MUpto (k0 : Nat) (xs : List Value) (j : Nat) : Prop := ∀ i, i < j → xs[i]? = some (mcell k0 i)
theorem MUpto.zero (k0 : Nat) (xs : List Value) : MUpto k0 xs 0 := fun _ h => absurd h (Nat.not_lt_zero _)
theorem MUpto.succ {k0 j : Nat} {xs : List Value} (h : MUpto k0 xs j) (hj : j < xs.length) {u : Value} (hu : mcell k0 j = u) : MUpto k0 (xs.set j u) (j + 1) := by
  intro i hi
  rw [List.getElem?_set]
  split
  · rename_i e; subst e; rw [hu]
  · exact h i (by omega)
theorem MUpto.all {k0 n : Nat} {xs : List Value} (h : MUpto k0 xs (n * 6)) (hl : xs.length = n * 6) : xs = mcells k0 n := by
  apply List.ext_getElem? 
  intro i
  by_cases hi : i < n * 6
  · rw [h i hi, mcells_get _ _ _ hi]
  · rw [List.getElem?_eq_none (by omega), List.getElem?_eq_none (by rw [mcells_length]; omega)]
/-- the row bears all its marks -/
def Marked (w : World) (g n k0 : Nat) : Prop := g < w.heap.size ∧ ∀ j, j < n * 6 → w.cell? ⟨g, j, none⟩ = some (mcell k0 j)
theorem Marked.keep {a b : World} {g n k0 : Nat} (h : Marked a g n k0) (k : Grows a b) : Marked b g n k0 := ⟨Nat.lt_of_lt_of_le h.1 k.size, fun j hj => (k.cell (p := ⟨g, j, none⟩) h.1).trans (h.2 j hj)⟩
/-- the cells of lines -/
def lcell (l : Ln) : List Value := [.int .i64 l.k, .string l.le, .string l.na, .string l.se, .string l.va, .string l.ta]
def lcells : List Ln → List Value
  | [] => []
  | l :: ls => lcell l ++ lcells ls
theorem lcells_length (ls : List Ln) : (lcells ls).length = ls.length * 6 := by
  induction ls with
  | nil => rfl
  | cons l ls ih => simp [lcells, lcell, ih]; omega
theorem lcells_snoc (ls : List Ln) (l : Ln) : lcells (ls ++ [l]) = lcells ls ++ lcell l := by
  induction ls with
  | nil => simp [lcells]
  | cons x ls ih => simp [lcells, ih, List.append_assoc]
theorem lcells_get (ls : List Ln) : ∀ (i : Nat) (h : i < ls.length) (d : Nat), d < 6 → (lcells ls)[i * 6 + d]? = (lcell ls[i])[d]? := by
  induction ls with
  | nil => intro i h; exact absurd h (by simp)
  | cons l ls ih =>
    intro i h d hd
    have hl : (lcell l).length = 6 := rfl
    cases i with
    | zero => rw [lcells, Nat.zero_mul, Nat.zero_add, List.getElem?_append_left (by rw [hl]; exact hd)]; rfl
    | succ i =>
      rw [lcells, List.getElem?_append_right (by rw [hl]; omega), hl]
      rw [show (i + 1) * 6 + d - 6 = i * 6 + d from by omega, ih i (by simpa using h) d hd]
      rfl
/-- what lies in other blocks stays -/
theorem LnsAt.only {w w' : World} {A : Option Addr} {ls : List Ln} {v : Value} (h : LnsAt w A ls) (k : Only v w w') (hne : ∀ b o, A = some ⟨b, o, none⟩ → v.ownBlock ≠ some b) : LnsAt w' A ls := fun h0 => by
  obtain ⟨b, o, e, hb, hc⟩ := h h0
  refine ⟨b, o, e, Nat.lt_of_lt_of_le hb k.size, fun i hi => ?_⟩
  have hbk : w'.heap[b]? = w.heap[b]? := k.block b hb (by first | exact fun e2 => hne b o e e2 | exact fun e2 => hne b o e e2.symm)
  have hx : ∀ q, w'.cell? ⟨b, q, none⟩ = w.cell? ⟨b, q, none⟩ := fun q => World.cell?_of_block (w := w) hbk
  obtain ⟨h0, h1, h2, h3, h4, h5⟩ := hc i hi
  exact ⟨(hx _).trans h0, (hx _).trans h1, (hx _).trans h2, (hx _).trans h3, (hx _).trans h4, (hx _).trans h5⟩

theorem toList_inj {a b : ByteArray} (h : a.toList = b.toList) : a = b := by
  rw [Lib.toList_data, Lib.toList_data] at h
  cases a; cases b
  simp at h
  rw [h]
end Go.Proofs.YtkjoolmhcfajnaaDoor
namespace Go.Proofs.YtkjoolmhcfajnaaDoor
open Go.RowKit

/-- a text is in a list -/
def hasT (xs : List ByteArray) (s : ByteArray) : Bool := xs.any fun x => x.toList == s.toList
/-- a list with one text more, once -/
def addT (xs : List ByteArray) (s : ByteArray) : List ByteArray := if hasT xs s = true then xs else xs ++ [s]
theorem addT_yes {xs : List ByteArray} {s : ByteArray} (h : hasT xs s = true) : addT xs s = xs := by rw [addT, if_pos h]
theorem addT_no {xs : List ByteArray} {s : ByteArray} (h : hasT xs s = false) : addT xs s = xs ++ [s] := by rw [addT, if_neg (by rw [h]; simp)]
theorem addT_le (xs : List ByteArray) (s : ByteArray) : (addT xs s).length ≤ xs.length + 1 := by
  unfold addT
  split
  · omega
  · simp
theorem hasT_yes {xs : List ByteArray} {s : ByteArray} {k : Nat} (hk : k < xs.length) (h : (xs[k].toList == s.toList) = true) : hasT xs s = true := by
  unfold hasT
  rw [List.any_eq_true]
  exact ⟨xs[k], List.getElem_mem hk, h⟩
/-- none of the first k texts is s -/
def NoneT (xs : List ByteArray) (s : ByteArray) (k : Nat) : Prop := ∀ j (h : j < xs.length), j < k → (xs[j].toList == s.toList) = false
theorem NoneT.zero (xs : List ByteArray) (s : ByteArray) : NoneT xs s 0 := fun _ _ h => absurd h (Nat.not_lt_zero _)
theorem NoneT.succ {xs : List ByteArray} {s : ByteArray} {k : Nat} (h : NoneT xs s k) (hk : k < xs.length) (hl : (xs[k].toList == s.toList) = false) : NoneT xs s (k + 1) := by
  intro j hj hjk
  by_cases e : j = k
  · subst e; exact hl
  · exact h j hj (by omega)
theorem NoneT.all {xs : List ByteArray} {s : ByteArray} (h : NoneT xs s xs.length) : hasT xs s = false := by
  unfold hasT
  rw [← Bool.not_eq_true, List.any_eq_true]
  rintro ⟨x, hx, e⟩
  obtain ⟨j, hj, rfl⟩ := List.getElem_of_mem hx
  rw [h j hj hj] at e
  cases e

theorem infoStr : (Tryd.prog.info? 9).map (fun i => (i.zero, i.size, i.bytes)) = some (some (.string ⟨#[]⟩), 1, 16) := by kernel_rfl

/-- a call's end: it returns a list of texts that lies in rows from base on -/
def AddRet (base : Nat) (xs : List ByteArray) (w : World) (e : Ending) (w' : World) : Prop := ∃ v, e = .returned v ∧ OwnS w' base v xs ∧ Below base w w'

theorem below_keep {base : Nat} {w w' : World} {e : TypeId} {size n : Nat} {v : Value} {xs : List Value} (ho : w.ownsRow base e size v n xs) (hb : base ≤ w.heap.size) (hg : w.grownBy w' v.ownBlock) : Below base w w' :=
  (Below.refl base w).grown hg hb (own_base ho)

end Go.Proofs.YtkjoolmhcfajnaaDoor
