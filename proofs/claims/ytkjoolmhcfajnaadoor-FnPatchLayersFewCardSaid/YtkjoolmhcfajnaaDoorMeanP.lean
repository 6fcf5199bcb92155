/-
  Entries of layers in memory, rows of them that a call has made, and what entryAt of the specification returns. Condition: at most 1048576 entries.
  Marks on rows of entries that a call has made: markEntryS, heldEntryS, markLayer, heldLayer. Condition: at most 1048576 entries.
  Rows of entries that a call makes by append: the row of nothing, one more entry, what a call that returns a layer hands over. Condition: at most 1048576 entries.
  What the layer of a file is: its entries as a function of the lines of a valid file. No program, no condition.
  The comparison of two lists of entries, sameEntries of the specification. Condition: at most 1048576 entries.
  When two files tell the same: the two tests, of all keys both ways and of the lists of entries, agree. No program; condition: both files are valid.
-/
import Derived.Test.YtkjoolmhcfajnaaDoorMark
import Derived.Deep.RegionHeld3
import Derived.Test.YtkjoolmhcfajnaaDoorGrow
import Derived.Deep.AppendLies
import Derived.Test.YtkjoolmhcfajnaaDoorQP
namespace Go.Proofs.YtkjoolmhcfajnaaDoor
open Go.RowKit

/-- an entry: section, key, op, value -/
structure Ent where
  s : ByteArray
  k : ByteArray
  op : Int
  v : ByteArray
def Ent.agg (e : Ent) : Value := .agg #[.string e.s, .string e.k, .int .i64 e.op, .string e.v]
/-- the four cells of an entry lie from place o of block b on -/
def EntAt (w : World) (b o : Nat) (e : Ent) : Prop :=
  w.cell? ⟨b, o, none⟩ = some (.string e.s) ∧ w.cell? ⟨b, o + 1, none⟩ = some (.string e.k) ∧ w.cell? ⟨b, o + 2, none⟩ = some (.int .i64 e.op) ∧ w.cell? ⟨b, o + 3, none⟩ = some (.string e.v)
def EntsAt (w : World) (A : Option Addr) (es : List Ent) : Prop :=
  0 < es.length → ∃ b o, A = some ⟨b, o, none⟩ ∧ b < w.heap.size ∧ ∀ i (h : i < es.length), EntAt w b (o + i * 4) es[i]
theorem EntAt.keep {w w' : World} {b o : Nat} {e : Ent} (h : EntAt w b o e) (hb : b < w.heap.size) (g : Grows w w') : EntAt w' b o e := by
  obtain ⟨h0, h1, h2, h3⟩ := h
  exact ⟨(g.cell hb).trans h0, (g.cell hb).trans h1, (g.cell hb).trans h2, (g.cell hb).trans h3⟩
theorem EntsAt.keep {w w' : World} {A : Option Addr} {es : List Ent} (h : EntsAt w A es) (g : Grows w w') : EntsAt w' A es := fun h0 => by
  obtain ⟨b, o, e, hb, hc⟩ := h h0
  exact ⟨b, o, e, Nat.lt_of_lt_of_le hb g.size, fun i hi => (hc i hi).keep hb g⟩
theorem EntsAt.nil (w : World) (A : Option Addr) : EntsAt w A [] := fun h => absurd h (Nat.lt_irrefl _)

def ecell (e : Ent) : List Value := [.string e.s, .string e.k, .int .i64 e.op, .string e.v]
def ecells : List Ent → List Value
  | [] => []
  | e :: es => ecell e ++ ecells es
theorem ecells_length (es : List Ent) : (ecells es).length = es.length * 4 := by
  induction es with
  | nil => rfl
  | cons e es ih => simp [ecells, ecell, ih]; omega
theorem ecells_snoc (es : List Ent) (e : Ent) : ecells (es ++ [e]) = ecells es ++ ecell e := by
  induction es with
  | nil => simp [ecells]
  | cons x es ih => simp [ecells, ih, List.append_assoc]
theorem ecells_get (es : List Ent) : ∀ (i : Nat) (h : i < es.length) (d : Nat), d < 4 → (ecells es)[i * 4 + d]? = (ecell es[i])[d]? := by
  induction es with
  | nil => intro i h; exact absurd h (by simp)
  | cons e es ih =>
    intro i h d hd
    have hl : (ecell e).length = 4 := rfl
    cases i with
    | zero => rw [ecells, Nat.zero_mul, Nat.zero_add, List.getElem?_append_left (by rw [hl]; exact hd)]; rfl
    | succ i =>
      rw [ecells, List.getElem?_append_right (by rw [hl]; omega), hl]
      rw [show (i + 1) * 4 + d - 4 = i * 4 + d from by omega, ih i (by simpa using h) d hd]
      rfl
/-- the slice v owns these entries -/
def OwnE (w : World) (base : Nat) (v : Value) (es : List Ent) : Prop := w.ownsRow base 33 4 v es.length (ecells es)
theorem OwnE.form {w : World} {base : Nat} {v : Value} {es : List Ent} (h : OwnE w base v es) : ∃ A c, v = .slice A es.length c ∧ EntsAt w A es := by
  rcases Nat.eq_zero_or_pos es.length with h0 | h0
  · rcases h.2 with ⟨rfl, _⟩ | ⟨g, cap, cur, rfl, _⟩
    · exact ⟨none, 0, by rw [h0], fun hh => absurd hh (by omega)⟩
    · exact ⟨_, _, rfl, fun hh => absurd hh (by omega)⟩
  · obtain ⟨g, cap, hv, hb, hlt⟩ := World.ownsRow.form h h0
    subst hv
    refine ⟨_, _, rfl, fun _ => ⟨g, 0, rfl, hlt, fun i hi => ?_⟩⟩
    have hx := fun d (hd : d < 4) => (World.ownsRow.cellAt h (i * 4 + d) (by omega)).trans (ecells_get es i hi d hd)
    rw [Nat.zero_add]
    exact ⟨hx 0 (by omega), hx 1 (by omega), hx 2 (by omega), hx 3 (by omega)⟩
theorem OwnE.keep {w w' : World} {base : Nat} {v : Value} {es : List Ent} (h : OwnE w base v es) (g : Grows w w') : OwnE w' base v es := by
  have hlt := World.ownsRow.lt h
  refine World.ownsRow.kept (row := some w.heap.size) h ⟨g.os, g.tape, g.output, g.size, fun i hi _ => g.block i hi⟩ ?_
  rcases hb : v.ownBlock with _ | k
  · exact .inl rfl
  · exact .inr (fun e => by
      have := (hlt k hb).2
      injection e with e
      omega)

/-- is the entry of this key -/
def Ent.of (e : Ent) (s k : ByteArray) : Bool := (e.s.toList == s.toList) && (e.k.toList == k.toList)
/-- the place of a key, from i on -/
def entFrom (s k : ByteArray) : List Ent → Nat → Int
  | [], _ => -1
  | e :: es, i => if e.of s k then i else entFrom s k es (i + 1)
def entIdx (es : List Ent) (s k : ByteArray) : Int := entFrom s k es 0
def NoneE (es : List Ent) (s k : ByteArray) (j : Nat) : Prop := ∀ i (h : i < es.length), i < j → es[i].of s k = false
theorem NoneE.zero (es : List Ent) (s k : ByteArray) : NoneE es s k 0 := fun _ _ h => absurd h (Nat.not_lt_zero _)
theorem NoneE.succ {es : List Ent} {s k : ByteArray} {j : Nat} (h : NoneE es s k j) (hj : j < es.length) (hl : es[j].of s k = false) : NoneE es s k (j + 1) := by
  intro i hi hij
  by_cases e : i = j
  · subst e; exact hl
  · exact h i hi (by omega)
theorem entFrom_at (s k : ByteArray) : ∀ (es : List Ent) (i j : Nat), NoneE es s k j → ∀ (hj : j < es.length), es[j].of s k = true → entFrom s k es i = ((i + j : Nat) : Int) := by
  intro es
  induction es with
  | nil => intro i j _ hj; exact absurd hj (by simp)
  | cons e es ih =>
    intro i j hn hj ht
    cases j with
    | zero => simp only [List.getElem_cons_zero] at ht; rw [entFrom, if_pos ht]; simp
    | succ j =>
      have h0 : e.of s k = false := hn 0 (by simp) (by omega)
      rw [entFrom, if_neg (by rw [h0]; simp), ih (i + 1) j (fun q hq hqj => hn (q + 1) (by simpa using hq) (by omega)) (by simpa using hj) (by simpa using ht)]
      omega
theorem entFrom_none (s k : ByteArray) : ∀ (es : List Ent) (i : Nat), NoneE es s k es.length → entFrom s k es i = -1 := by
  intro es
  induction es with
  | nil => intro i _; rfl
  | cons e es ih =>
    intro i hn
    have h0 : e.of s k = false := hn 0 (by simp) (by simp)
    rw [entFrom, if_neg (by rw [h0]; simp), ih (i + 1) (fun q hq hqj => hn (q + 1) (by simpa using hq) (by simpa using hqj))]

set_option maxRecDepth 100000 in
set_option maxHeartbeats 1000000 in
theorem entryAt_any (A : Option Addr) (c : Nat) (es : List Ent) (s key : ByteArray) (w : World) (hn : es.length ≤ 1048576) (hA : EntsAt w A es) :
    Calls Tryd.prog 32 #[.slice A es.length c, .string s, .string key] w fun e w' => e = .returned (.int .i64 (entIdx es s key)) ∧ w = w' := by
  have HA := Lib.hid hA
  clear hA
  obtain ⟨n, hnn⟩ : ∃ n, es.length = n := ⟨_, rfl⟩
  rw [hnn] at hn
  rw [hnn]
  have HN := Lib.hid hnn
  clear hnn
  go_enter Tryd.func32, Tryd.ntmps32
  go_wp2
  go_loop [7] (fun i => ∃ k : Nat, k ≤ n ∧ i = .int .i64 k ∧ NoneE es s key k) (fun i => n - (intOf i).toNat)
  case atStart => exact ⟨0, Nat.zero_le _, rfl, NoneE.zero _ _ _⟩
  case round =>
    obtain ⟨k, hk, rfl, hL⟩ := hrel
    have HL := Lib.hid hL
    clear hL
    by_cases hlt : k < n
    · have hk2 : k < es.length := by rw [HN.out]; exact hlt
      obtain ⟨b, o, rfl, _, hc⟩ := HA.out (by omega)
      obtain ⟨x, hx⟩ : ∃ x, es[k] = x := ⟨_, rfl⟩
      have hat := hc k hk2
      rw [hx] at hat
      obtain ⟨c0, c1, c2, c3⟩ := hat
      have HX := Lib.hid hx
      clear hx hc
      by_cases h1 : (x.s.toList == s.toList) = true
      · by_cases h2 : (x.k.toList == key.toList) = true
        · have HV : Hid (entIdx es s key = (k : Int)) := by
            unfold Hid entIdx
            rw [entFrom_at s key es 0 k HL.out hk2 (by rw [HX.out]; unfold Ent.of; rw [h1, h2]; rfl), Nat.zero_add]
          go_wp2
          go_ret
          exact ⟨by rw [HV.out]; rfl, rfl⟩
        · have h2' : (x.k.toList == key.toList) = false := by simpa using h2
          have HS : Hid (NoneE es s key (k + 1)) := HL.out.succ hk2 (by rw [HX.out]; unfold Ent.of; rw [h1, h2']; rfl)
          clear h2
          go_wp2
          go_round
          case rel => exact ⟨k + 1, by omega, by go_num, HS.out⟩
          case measure => simp [intOf]; omega
      · have h1' : (x.s.toList == s.toList) = false := by simpa using h1
        have HS : Hid (NoneE es s key (k + 1)) := HL.out.succ hk2 (by rw [HX.out]; unfold Ent.of; rw [h1']; rfl)
        clear h1
        go_wp2
        go_round
        case rel => exact ⟨k + 1, by omega, by go_num, HS.out⟩
        case measure => simp [intOf]; omega
    · obtain rfl : k = n := by omega
      have HV : Hid (entIdx es s key = -1) := entFrom_none s key es 0 (by rw [HN.out]; exact HL.out)
      go_wp2
      go_ret
      exact ⟨by rw [HV.out]; rfl, rfl⟩
end Go.Proofs.YtkjoolmhcfajnaaDoor
namespace Go.Proofs.YtkjoolmhcfajnaaDoor
open Go.RowKit

/-- the slice v owns a row of n lines with the cells xs -/
def OwnQ (w : World) (base : Nat) (v : Value) (n : Nat) (xs : List Value) : Prop := w.ownsRow base 33 4 v n xs
/-- the mark of cell j -/
def qcell (k0 j : Nat) : Value := if j % 4 = 2 then .int .i64 ((k0 + j : Nat) : Int) else .string (mtext (k0 + j))
def qcells (k0 n : Nat) : List Value := (List.range (n * 4)).map (qcell k0)
theorem qcells_length (k0 n : Nat) : (qcells k0 n).length = n * 4 := by simp [qcells]
theorem qcells_get (k0 n j : Nat) (h : j < n * 4) : (qcells k0 n)[j]? = some (qcell k0 j) := by simp [qcells, h]
theorem qcell_i (k0 k : Nat) : qcell k0 (k * 4 + 2) = .int .i64 ((k0 : Int) + k * 4 + 2) := by
  unfold qcell; rw [if_pos (by omega)]; congr 1
theorem qcell_s (k0 k d : Nat) (h0 : d ≠ 2) (h6 : d < 4) : qcell k0 (k * 4 + d) = .string (mtext (k0 + k * 4 + d)) := by
  unfold qcell; rw [if_neg (by omega), Nat.add_assoc]

theorem OwnQ.form {w : World} {base n : Nat} {v : Value} {xs : List Value} (h : OwnQ w base v n xs) : ∃ A c, v = .slice A n c ∧ (0 < n → ∃ g, A = some ⟨g, 0, none⟩ ∧ base ≤ g ∧ g < w.heap.size ∧
    (∀ j, j < n * 4 → w.cell? ⟨g, j, none⟩ = xs[j]?) ∧ ∀ j, w.frozen? ⟨g, j, none⟩ = false) := by
  rcases Nat.eq_zero_or_pos n with h0 | h0
  · rcases h.2 with ⟨rfl, _⟩ | ⟨g, cap, cur, rfl, _⟩
    · exact ⟨none, 0, by rw [h0], fun hh => absurd hh (by omega)⟩
    · exact ⟨_, _, rfl, fun hh => absurd hh (by omega)⟩
  · obtain ⟨g, cap, hv, hb, hlt⟩ := World.ownsRow.form h h0
    subst hv
    exact ⟨_, _, rfl, fun _ => ⟨g, rfl, hb, hlt, fun j hj => World.ownsRow.cellAt h j hj, fun j => World.ownsRow.frozenAt h j⟩⟩
theorem OwnQ.size {w : World} {base n : Nat} {v : Value} {xs : List Value} (h : OwnQ w base v n xs) : xs.length = n * 4 := h.1
theorem OwnQ.keep {w w' : World} {base n : Nat} {v : Value} {xs : List Value} (h : OwnQ w base v n xs) (g : Grows w w') : OwnQ w' base v n xs := by
  have hlt := World.ownsRow.lt h
  refine World.ownsRow.kept (row := some w.heap.size) h ⟨g.os, g.tape, g.output, g.size, fun i hi _ => g.block i hi⟩ ?_
  rcases hb : v.ownBlock with _ | k
  · exact .inl rfl
  · exact .inr (fun e => by
      have := (hlt k hb).2
      injection e with e
      omega)
theorem OwnQ.set_ {w : World} {base g n c : Nat} {xs : List Value} (h : OwnQ w base (.slice (some ⟨g, 0, none⟩) n c) n xs) (j : Nat) (u : Value) : OwnQ (w.setCell ⟨g, j, none⟩ u) base (.slice (some ⟨g, 0, none⟩) n c) n (xs.set j u) :=
  (World.ownsRow.stored h j u).1
/-- the first j cells bear their marks -/
def EUpto (k0 : Nat) (xs : List Value) (j : Nat) : Prop := ∀ i, i < j → xs[i]? = some (qcell k0 i)
theorem EUpto.zero (k0 : Nat) (xs : List Value) : EUpto k0 xs 0 := fun _ h => absurd h (Nat.not_lt_zero _)
theorem EUpto.succ {k0 j : Nat} {xs : List Value} (h : EUpto k0 xs j) (hj : j < xs.length) {u : Value} (hu : qcell k0 j = u) : EUpto k0 (xs.set j u) (j + 1) := by
  intro i hi
  rw [List.getElem?_set]
  split
  · rename_i e; subst e; rw [hu]
  · exact h i (by omega)
theorem EUpto.all {k0 n : Nat} {xs : List Value} (h : EUpto k0 xs (n * 4)) (hl : xs.length = n * 4) : xs = qcells k0 n := by
  apply List.ext_getElem? 
  intro i
  by_cases hi : i < n * 4
  · rw [h i hi, qcells_get _ _ _ hi]
  · rw [List.getElem?_eq_none (by omega), List.getElem?_eq_none (by rw [qcells_length]; omega)]
/-- a state of the marking: the row with its first j marks -/
def ESt (w0 w : World) (base g n c k0 j : Nat) : Prop := (∃ xs, OwnQ w base (.slice (some ⟨g, 0, none⟩) n c) n xs ∧ EUpto k0 xs j) ∧ w0.grownBy w (some g)
theorem ESt.start {w : World} {base g n c : Nat} {xs : List Value} (h : OwnQ w base (.slice (some ⟨g, 0, none⟩) n c) n xs) (k0 : Nat) : ESt w w base g n c k0 0 := ⟨⟨xs, h, EUpto.zero _ _⟩, World.grownBy.refl _ _⟩
theorem ESt.grows {w0 a b : World} {base g n c k0 j : Nat} (h : ESt w0 a base g n c k0 j) (k : Grows a b) : ESt w0 b base g n c k0 j := by
  obtain ⟨⟨xs, h1, h2⟩, h3⟩ := h
  exact ⟨⟨xs, h1.keep k, h2⟩, gb_grows h3 k⟩
theorem ESt.put {w0 a : World} {base g n c k0 j : Nat} (h : ESt w0 a base g n c k0 j) (hj : j < n * 4) {u : Value} (hu : qcell k0 j = u) : ESt w0 (a.setCell ⟨g, j, none⟩ u) base g n c k0 (j + 1) := by
  obtain ⟨⟨xs, h1, h2⟩, h3⟩ := h
  exact ⟨⟨xs.set j u, h1.set_ j u, h2.succ (by rw [h1.size]; exact hj) hu⟩, gb_set h3 _ _⟩
theorem ESt.cell {w0 a : World} {base g n c k0 j : Nat} (h : ESt w0 a base g n c k0 j) {i : Nat} (hi : i < n * 4) : ∃ v, a.cell? ⟨g, i, none⟩ = some v := by
  obtain ⟨⟨xs, h1, h2⟩, h3⟩ := h
  rw [World.ownsRow.cellAt h1 i hi]
  exact ⟨_, List.getElem?_eq_getElem (by rw [h1.size]; exact hi)⟩
theorem ESt.frozen {w0 a : World} {base g n c k0 j : Nat} (h : ESt w0 a base g n c k0 j) (i : Nat) : a.frozen? ⟨g, i, none⟩ = false := by
  obtain ⟨⟨xs, h1, h2⟩, h3⟩ := h
  exact World.ownsRow.frozenAt h1 i

/-- the row bears all its marks -/
def MarkedE (w : World) (g n k0 : Nat) : Prop := g < w.heap.size ∧ ∀ j, j < n * 4 → w.cell? ⟨g, j, none⟩ = some (qcell k0 j)
theorem MarkedE.keep {a b : World} {g n k0 : Nat} (h : MarkedE a g n k0) (k : Grows a b) : MarkedE b g n k0 := ⟨Nat.lt_of_lt_of_le h.1 k.size, fun j hj => (k.cell (p := ⟨g, j, none⟩) h.1).trans (h.2 j hj)⟩
theorem ESt.marked {w0 w : World} {base g n c k0 : Nat} (h : ESt w0 w base g n c k0 (n * 4)) : MarkedE w g n k0 := by
  obtain ⟨⟨xs, h1, h2⟩, h3⟩ := h
  refine ⟨(World.ownsRow.lt h1 g rfl).2, fun j hj => ?_⟩
  rw [World.ownsRow.cellAt h1 j hj, h2 j hj]

/-- the row of n entries bears its marks, and nothing else has turned -/
def SignedE (w w' : World) (base : Nat) (v : Value) (n k0 : Nat) : Prop := OwnQ w' base v n (qcells k0 n) ∧ Only v w w'
theorem ESt.signed {w0 w : World} {base g n c k0 : Nat} (h : ESt w0 w base g n c k0 (n * 4)) : SignedE w0 w base (.slice (some ⟨g, 0, none⟩) n c) n k0 := by
  obtain ⟨⟨xs, h1, h2⟩, h3⟩ := h
  rw [h2.all h1.size] at h1
  exact ⟨h1, h3⟩
theorem SignedE.alloc {w w' : World} {base n k0 : Nat} {v : Value} {o : Obj} (h : SignedE (w.alloc o) w' base v n k0) : SignedE w w' base v n k0 :=
  ⟨h.1, ⟨h.2.os, h.2.tape, h.2.output, Nat.le_trans (by simp) h.2.size, fun i hi hne => (h.2.block i (Nat.lt_of_lt_of_le hi (by simp)) hne).trans (Below.heap_alloc _ _ _ hi)⟩⟩

end Go.Proofs.YtkjoolmhcfajnaaDoor
namespace Go.Proofs.YtkjoolmhcfajnaaDoor
open Go.RowKit

/-- an entry of nothing -/
def Ent.zero : Ent := ⟨⟨#[]⟩, ⟨#[]⟩, 0, ⟨#[]⟩⟩
theorem infoEntry : (Tryd.prog.info? 33).map (fun i => (i.zero, i.size, i.bytes)) = some (some Ent.zero.agg, 4, 56) := by kernel_rfl
theorem OwnE.nil (w : World) (base : Nat) : OwnE w base (.slice none 0 0) [] := World.ownsRow_nil _ _ _ _
theorem OwnE.empty (w : World) (base : Nat) (hb : base ≤ w.heap.size) : OwnE (w.alloc (.cells #[] 33)) base (.slice (some ⟨w.heap.size, 0, none⟩) 0 0) [] :=
  World.ownsRow_lit w #[] 0 hb (Nat.zero_le _) rfl
theorem OwnE.less {w : World} {base base' : Nat} {v : Value} {xs : List Ent} (h : OwnE w base v xs) (hb : base' ≤ base) : OwnE w base' v xs := by
  refine ⟨h.1, ?_⟩
  rcases h.2 with h2 | ⟨g, cap, cur, hv, hg, hr⟩
  · exact .inl h2
  · exact .inr ⟨g, cap, cur, hv, by omega, hr⟩
theorem OwnE.far {a b : World} {base : Nat} {v : Value} {xs : List Ent} {row : Option Nat} (h : OwnE a base v xs) (hg : a.grownBy b row) (hne : ∀ k, v.ownBlock = some k → row ≠ some k) : OwnE b base v xs := by
  refine World.ownsRow.kept h hg ?_
  rcases hb : v.ownBlock with _ | k
  · exact .inl rfl
  · exact .inr (fun e => hne k hb e.symm)
theorem OwnQ.far {a b : World} {base n : Nat} {v : Value} {xs : List Value} {row : Option Nat} (h : OwnQ a base v n xs) (hg : a.grownBy b row) (hne : ∀ k, v.ownBlock = some k → row ≠ some k) : OwnQ b base v n xs := by
  refine World.ownsRow.kept h hg ?_
  rcases hb : v.ownBlock with _ | k
  · exact .inl rfl
  · exact .inr (fun e => hne k hb e.symm)
theorem OwnE.form3 {w : World} {base : Nat} {v : Value} {es : List Ent} (h : OwnE w base v es) : ∃ A n c, v = .slice A n c := by
  obtain ⟨A, c, rfl, _⟩ := OwnE.form h
  exact ⟨A, _, c, rfl⟩
theorem OwnE.lt {w : World} {base : Nat} {v : Value} {es : List Ent} (h : OwnE w base v es) : ∀ k, v.ownBlock = some k → base ≤ k ∧ k < w.heap.size := World.ownsRow.lt h
theorem OwnE.row {w : World} {base : Nat} {v : Value} {es : List Ent} (h : OwnE w base v es) : OwnQ w base v es.length (ecells es) := h
theorem OwnE.setFar {w : World} {base : Nat} {v : Value} {K : List Ent} (h : OwnE w base v K) {p i : Nat} (hp : v.ownBlock ≠ some p) (u : Value) : OwnE (w.setCell ⟨p, i, none⟩ u) base v K :=
  OwnE.far h (row := some p) (gb_set (World.grownBy.refl _ _) i u) (fun k hk e => by
    injection e with e
    subst e
    exact hp hk)
theorem OwnE.setOther {w : World} {base : Nat} {v : Value} {K : List Ent} (h : OwnE w base v K) {p i : Nat} (hp : p < base) (u : Value) : OwnE (w.setCell ⟨p, i, none⟩ u) base v K :=
  OwnE.setFar h (fun e => by have := (h.lt _ e).1; omega) u
/-- a call's end: it returns a layer in a row of the call's own -/
def ResE (es : List Ent) (w : World) (e : Ending) (w' : World) : Prop := ∃ v, e = .returned (.agg #[v]) ∧ OwnE w' w.heap.size v es ∧ Grows w w'
/-- a call's end: it returns a layer in a row of the call's own, and a Bool -/
def ResEB (es : List Ent) (b : Bool) (w : World) (e : Ending) (w' : World) : Prop := ∃ v, e = .returned (.tuple #[.agg #[v], .bool b]) ∧ OwnE w' w.heap.size v es ∧ Grows w w'
theorem ecells_append (a b : List Ent) : ecells (a ++ b) = ecells a ++ ecells b := by
  induction a with
  | nil => rfl
  | cons y a ih => simp [ecells, ih, List.append_assoc]
theorem ecells_one (es : List Ent) : ∀ u ∈ ecells es, u.oneCell' = true := by
  induction es with
  | nil => intro u hu; simp [ecells] at hu
  | cons e es ih =>
    intro u hu
    rw [ecells, List.mem_append] at hu
    rcases hu with h | h
    · simp [ecell] at h
      rcases h with rfl | rfl | rfl | rfl <;> rfl
    · exact ih u h
/-- one more entry, or several: append to a row of the call's own -/
theorem appEs {w : World} {ops : Array Oper} {rest : List Oper} {o : Oper} {a : Act} {Q : Exit → Act → World → Prop} (hgd : o.guard = none) (s x : Operand)
    (ho : o.op = .call { callee := .builtin .append, args := #[s, x], argTypes := #[23, 23] })
    (base : Nat) (v : Value) (K : List Ent) (hs : a.eval s = v) (hown : OwnE w base v K) (ad : Addr) (m c : Nat) (ns : List Ent) (hx : a.eval x = .slice (some ad) m c) (hm : ns.length = m) (hm0 : 0 < m)
    (hnews : ∀ j u, (ecells ns)[j]? = some u → w.cell? (ad.add j) = some u) (hK : K.length ≤ 4194304) (hm2 : m ≤ 1048576) (hbase : base ≤ w.heap.size)
    (h : ∀ v' w', Hid (OwnE w' base v' (K ++ ns)) → Hid (w.grownBy w' v.ownBlock) → Hid (Near v v' w) → wpList Tryd.prog ops Q rest (a.put o.dst v') w') : wpList Tryd.prog ops Q (o :: rest) a w := by
  obtain ⟨i0, hi, hz0, hz1, hz2⟩ := info_parts infoEntry
  refine wpList_append_lies _ hgd s x 23 ho base 33 i0 Ent.zero.agg 4 56 Tryd.underlying23 hi hz0 hz1 hz2 rfl (by decide) v K.length (ecells K) hs hown ad m c (ecells ns) hx (by rw [ecells_length, hm]) hnews (ecells_one ns) hm0 (by unfold maxLen; omega) (by omega) hbase _ rfl ?_
  intro g cap w' h1 h2 h3 _
  refine h _ w' ?_ h2 (near_of h3)
  unfold Hid OwnE
  rw [List.length_append, ecells_append, hm]
  exact h1
theorem one_newsE (w : World) (e : Ent) (t : TypeId) {p : Nat} (hp : w.heap.size = p) : ∀ j u, (ecells [e])[j]? = some u → (w.alloc (.cells #[.string e.s, .string e.k, .int .i64 e.op, .string e.v] t)).cell? ((⟨p, 0, none⟩ : Addr).add j) = some u := fun j u hj => by
  subst hp
  exact World.news_of_block (heap_alloc_new w _) j u (by simpa [ecells, ecell] using hj)
end Go.Proofs.YtkjoolmhcfajnaaDoor
namespace Go.Proofs.YtkjoolmhcfajnaaDoor
open Go.RowKit

/-- the entry of a key -/
def entL (ls : List Ln) (s k : ByteArray) : Ent := ⟨s, k, 0, getV ls s k⟩
def ekeys (ls : List Ln) (s : ByteArray) (ks : List ByteArray) : List Ent := ks.map (entL ls s)
def esecs (ls : List Ln) (ss : List ByteArray) : List Ent := ss.flatMap fun s => ekeys ls s (keysOf' ls s)
/-- the entries of the layer of a file -/
def layOf (ls : List Ln) : List Ent := esecs ls (secsOf' ls)
theorem ekeys_succ (ls : List Ln) (s : ByteArray) {ks : List ByteArray} {j : Nat} (h : j < ks.length) : ekeys ls s (ks.take (j + 1)) = ekeys ls s (ks.take j) ++ [entL ls s ks[j]] := by
  unfold ekeys
  rw [List.take_succ_eq_append_getElem h, List.map_append]
  rfl
theorem esecs_succ (ls : List Ln) {ss : List ByteArray} {j : Nat} (h : j < ss.length) : esecs ls (ss.take (j + 1)) = esecs ls (ss.take j) ++ ekeys ls ss[j] (keysOf' ls ss[j]) := by
  unfold esecs
  rw [List.take_succ_eq_append_getElem h, List.flatMap_append]
  simp
theorem ekeys_length (ls : List Ln) (s : ByteArray) (ks : List ByteArray) : (ekeys ls s ks).length = ks.length := by simp [ekeys]
theorem esecs_le (ls : List Ln) (ss : List ByteArray) : (esecs ls ss).length ≤ ss.length * 20 := by
  induction ss with
  | nil => simp [esecs]
  | cons s ss ih =>
    have := keys_20 ls s
    have e : esecs ls (s :: ss) = ekeys ls s (keysOf' ls s) ++ esecs ls ss := by simp [esecs]
    rw [e, List.length_append, List.length_cons, ekeys_length]
    omega
theorem lay_le (ls : List Ln) : (layOf ls).length ≤ 400 := by
  have := esecs_le ls (secsOf' ls)
  have := secs_20 ls
  unfold layOf
  omega
theorem lay_no {ls : List Ln} (h : vfile ls = false) : layOf ls = [] := by
  unfold layOf secsOf'
  rw [if_neg (by rw [h]; simp)]
  rfl
end Go.Proofs.YtkjoolmhcfajnaaDoor
namespace Go.Proofs.YtkjoolmhcfajnaaDoor
open Go.RowKit

/-- two entries are the same in every part -/
def Ent.same (a b : Ent) : Bool := (a.s.toList == b.s.toList) && ((a.k.toList == b.k.toList) && ((a.op == b.op) && (a.v.toList == b.v.toList)))
theorem eqEnt (a b : Ent) (w : World) : (binOp .eql 33 a.agg b.agg).run Tryd.prog w = .ok (.bool (a.same b)) w := by
  unfold Ent.agg
  go_simp
  unfold Ent.same
  repeat' split
  all_goals simp_all
theorem neEnt (a b : Ent) (w : World) : (binOp .neq 33 a.agg b.agg).run Tryd.prog w = .ok (.bool (!a.same b)) w := by
  unfold Ent.agg
  go_simp
  unfold Ent.same
  repeat' split
  all_goals simp_all
theorem entFrom_cases (s k : ByteArray) : ∀ (es : List Ent) (i : Nat), entFrom s k es i = -1 ∨ ∃ q, i ≤ q ∧ q < i + es.length ∧ entFrom s k es i = (q : Int) := by
  intro es
  induction es with
  | nil => intro i; exact .inl rfl
  | cons e es ih =>
    intro i
    rw [entFrom]
    split
    · exact .inr ⟨i, Nat.le_refl _, by simp, rfl⟩
    · rcases ih (i + 1) with h | ⟨q, h1, h2, h3⟩
      · exact .inl h
      · exact .inr ⟨q, by omega, by simp; omega, h3⟩
theorem entIdx_cases (es : List Ent) (s k : ByteArray) : entIdx es s k = -1 ∨ ∃ q, q < es.length ∧ entIdx es s k = (q : Int) := by
  rcases entFrom_cases s k es 0 with h | ⟨q, _, h2, h3⟩
  · exact .inl h
  · exact .inr ⟨q, by omega, h3⟩
/-- the entry is in the list, the same in every part, and the first of its key -/
def inE (bs : List Ent) (e : Ent) : Bool := match bs[(entIdx bs e.s e.k).toNat]? with
  | some x => decide (0 ≤ entIdx bs e.s e.k) && x.same e
  | none => false
def sameE (fs bs : List Ent) : Bool := decide (fs.length = bs.length) && fs.all (inE bs)
def AllE (fs bs : List Ent) (j : Nat) : Prop := ∀ i (h : i < fs.length), i < j → inE bs fs[i] = true
theorem AllE.zero (fs bs : List Ent) : AllE fs bs 0 := fun _ _ h => absurd h (Nat.not_lt_zero _)
theorem AllE.succ {fs bs : List Ent} {j : Nat} (h : AllE fs bs j) (hj : j < fs.length) (hl : inE bs fs[j] = true) : AllE fs bs (j + 1) := by
  intro i hi hij
  by_cases e : i = j
  · subst e; exact hl
  · exact h i hi (by omega)
theorem sameE_yes {fs bs : List Ent} (hl : fs.length = bs.length) (h : AllE fs bs fs.length) : sameE fs bs = true := by
  unfold sameE
  rw [decide_eq_true hl, Bool.true_and, List.all_eq_true]
  intro e he
  obtain ⟨j, hj, rfl⟩ := List.getElem_of_mem he
  exact h j hj hj
theorem sameE_no {fs bs : List Ent} {j : Nat} (hj : j < fs.length) (h : inE bs fs[j] = false) : sameE fs bs = false := by
  have : fs.all (inE bs) = false := by
    rw [← Bool.not_eq_true, List.all_eq_true]
    intro hall
    rw [hall _ (List.getElem_mem hj)] at h
    cases h
  unfold sameE; rw [this, Bool.and_false]

end Go.Proofs.YtkjoolmhcfajnaaDoor
namespace Go.Proofs.YtkjoolmhcfajnaaDoor
open Go.RowKit

/-- the first file has the key of the second one, with its value -/
def tells1 (f g : List Ln) (s k : ByteArray) : Bool := getB f s k && ((getV f s k).toList == (getV g s k).toList)
def tellsK (f g : List Ln) (s : ByteArray) (ks : List ByteArray) : Bool := ks.all (tells1 f g s)
def tellsS (f g : List Ln) (ss : List ByteArray) : Bool := ss.all fun s => tellsK f g s (keysOf' g s)
/-- the first file has all keys of the second one -/
def tellsB (f g : List Ln) : Bool := tellsS f g (secsOf' g)

/-! ### entries -/
theorem lay_mem {ls : List Ln} {e : Ent} : e ∈ layOf ls ↔ ∃ s, s ∈ secsOf' ls ∧ ∃ k, k ∈ keysOf' ls s ∧ e = entL ls s k := by
  unfold layOf esecs ekeys
  simp only [List.mem_flatMap, List.mem_map]
  constructor
  · rintro ⟨s, hs, k, hk, rfl⟩; exact ⟨s, hs, k, hk, rfl⟩
  · rintro ⟨s, hs, k, hk, rfl⟩; exact ⟨s, hs, k, hk, rfl⟩
theorem lay_mem_get {ls : List Ln} (hv : vfile ls = true) {e : Ent} : e ∈ layOf ls ↔ getB ls e.s e.k = true ∧ e = entL ls e.s e.k := by
  rw [lay_mem]
  constructor
  · rintro ⟨s, hs, k, hk, rfl⟩
    exact ⟨(getB_iff hv s k).2 ⟨hs, hk⟩, rfl⟩
  · rintro ⟨h, h2⟩
    obtain ⟨h3, h4⟩ := (getB_iff hv _ _).1 h
    exact ⟨e.s, h3, e.k, h4, h2⟩
theorem of_iff (e : Ent) (s k : ByteArray) : e.of s k = true ↔ e.s = s ∧ e.k = k := by
  unfold Ent.of
  rw [Bool.and_eq_true]
  constructor
  · rintro ⟨h1, h2⟩; exact ⟨toList_inj (by simpa using h1), toList_inj (by simpa using h2)⟩
  · rintro ⟨rfl, rfl⟩; simp
theorem entFrom_spec (s k : ByteArray) : ∀ (es : List Ent) (i : Nat), (∃ q, ∃ h : q < es.length, entFrom s k es i = ((i + q : Nat) : Int) ∧ es[q].of s k = true) ∨ (entFrom s k es i = -1 ∧ ∀ e ∈ es, e.of s k = false) := by
  intro es
  induction es with
  | nil => intro i; exact .inr ⟨rfl, fun e h => by cases h⟩
  | cons e es ih =>
    intro i
    rw [entFrom]
    by_cases h : e.of s k = true
    · exact .inl ⟨0, by simp, by rw [if_pos h]; simp, by simpa using h⟩
    · rw [if_neg h]
      rcases ih (i + 1) with ⟨q, hq, h1, h2⟩ | ⟨h1, h2⟩
      · exact .inl ⟨q + 1, by simpa using hq, by rw [h1]; omega, by simpa using h2⟩
      · refine .inr ⟨h1, fun x hx => ?_⟩
        rcases List.mem_cons.1 hx with rfl | hx
        · simpa using h
        · exact h2 x hx
theorem same_iff (a b : Ent) : a.same b = true ↔ a.s = b.s ∧ a.k = b.k ∧ a.op = b.op ∧ a.v = b.v := by
  unfold Ent.same
  simp only [Bool.and_eq_true, beq_iff_eq]
  constructor
  · rintro ⟨h1, h2, h3, h4⟩; exact ⟨toList_inj h1, toList_inj h2, h3, toList_inj h4⟩
  · rintro ⟨h1, h2, h3, h4⟩; rw [h1, h2, h3, h4]; exact ⟨rfl, rfl, rfl, rfl⟩
/-- the entry of a key of f is in the layer of g exactly if g tells it -/
theorem inE_lay {g : List Ln} (hg : vfile g = true) (s k v : ByteArray) : inE (layOf g) ⟨s, k, 0, v⟩ = (getB g s k && ((getV g s k).toList == v.toList)) := by
  unfold inE entIdx
  rcases entFrom_spec s k (layOf g) 0 with ⟨q, hq, h1, h2⟩ | ⟨h1, h2⟩
  · simp only [h1]
    rw [Nat.zero_add, Int.toNat_natCast, List.getElem?_eq_getElem hq]
    obtain ⟨h3, h4⟩ := (of_iff _ _ _).1 h2
    obtain ⟨h5, h6⟩ := (lay_mem_get hg).1 (List.getElem_mem hq)
    rw [h3, h4] at h5 h6
    simp only [h5, Bool.true_and]
    rw [h6]
    rw [Bool.eq_iff_iff, Bool.and_eq_true, same_iff]
    simp only [entL, beq_iff_eq, decide_eq_true_eq]
    constructor
    · intro h
      simp at h
      rw [h]
    · intro h
      have h9 := toList_inj h
      rw [h9]
      simp
  · have h3 : getB g s k = false := by
      rcases hb : getB g s k with _ | _
      · rfl
      · have := h2 (entL g s k) ((lay_mem_get hg).2 ⟨hb, rfl⟩)
        have h9 := (of_iff (entL g s k) s k).2 ⟨rfl, rfl⟩
        rw [h9] at this; cases this
    rw [h3, Bool.false_and]
    simp only [h1]
    split <;> rfl

/-! ### counting -/
/-- the key of an entry, as something to be compared -/
def Ent.key (e : Ent) : List UInt8 × List UInt8 := (e.s.toList, e.k.toList)
theorem key_inj {a b : Ent} (h : a.key = b.key) : a.s = b.s ∧ a.k = b.k := by
  unfold Ent.key at h
  injection h with h1 h2
  exact ⟨toList_inj h1, toList_inj h2⟩
theorem len_le {α : Type} [DecidableEq α] : ∀ (xs ys : List α), xs.Nodup → (∀ x ∈ xs, x ∈ ys) → xs.length ≤ ys.length := by
  intro xs
  induction xs with
  | nil => intro ys _ _; simp
  | cons x xs ih =>
    intro ys hn hs
    rw [List.nodup_cons] at hn
    have hx := hs x (by simp)
    have h1 := ih (ys.erase x) hn.2 (fun y hy => by
      have hne : y ≠ x := fun e => hn.1 (e ▸ hy)
      exact (List.mem_erase_of_ne hne).2 (hs y (by simp [hy])))
    rw [List.length_erase_of_mem hx] at h1
    have : 0 < ys.length := List.length_pos_of_mem hx
    simp
    omega
theorem all_in {α : Type} [DecidableEq α] {xs ys : List α} (hn : xs.Nodup) (hs : ∀ x ∈ xs, x ∈ ys) (hl : ys.length ≤ xs.length) : ∀ y ∈ ys, y ∈ xs := by
  intro y hy
  by_cases h : y ∈ xs
  · exact h
  · exfalso
    have h1 := len_le xs (ys.erase y) hn (fun x hx => by
      have hne : x ≠ y := fun e => h (e ▸ hx)
      exact (List.mem_erase_of_ne hne).2 (hs x hx))
    rw [List.length_erase_of_mem hy] at h1
    have : 0 < ys.length := List.length_pos_of_mem hy
    omega
theorem toLists_nodup {xs : List ByteArray} (h : xs.Nodup) : (xs.map ByteArray.toList).Nodup := by
  induction xs with
  | nil => exact List.nodup_nil
  | cons x xs ih =>
    rw [List.nodup_cons] at h
    rw [List.map_cons, List.nodup_cons]
    refine ⟨fun hm => ?_, ih h.2⟩
    obtain ⟨y, hy, e⟩ := List.mem_map.1 hm
    have : y = x := toList_inj e
    exact h.1 (this ▸ hy)
theorem ekeys_keys (ls : List Ln) (s : ByteArray) (ks : List ByteArray) (h : ks.Nodup) : ((ekeys ls s ks).map Ent.key).Nodup := by
  induction ks with
  | nil => exact List.nodup_nil
  | cons k ks ih =>
    rw [List.nodup_cons] at h
    unfold ekeys at ih ⊢
    rw [List.map_cons, List.map_cons, List.nodup_cons]
    refine ⟨fun hm => ?_, ih h.2⟩
    obtain ⟨e, he, h2⟩ := List.mem_map.1 hm
    obtain ⟨k2, hk2, rfl⟩ := List.mem_map.1 he
    have := (key_inj h2).2
    simp only [entL] at this
    exact h.1 (this ▸ hk2)
theorem esecs_keys (ls : List Ln) (hk : ∀ s, (keysOf' ls s).Nodup) : ∀ ss : List ByteArray, ss.Nodup → ((esecs ls ss).map Ent.key).Nodup := by
  intro ss
  induction ss with
  | nil => intro _; exact List.nodup_nil
  | cons s ss ih =>
    intro h
    rw [List.nodup_cons] at h
    have e : esecs ls (s :: ss) = ekeys ls s (keysOf' ls s) ++ esecs ls ss := by simp [esecs]
    rw [e, List.map_append, List.nodup_append]
    refine ⟨ekeys_keys ls s _ (hk s), ih h.2, ?_⟩
    intro a ha b hb hab
    subst hab
    obtain ⟨e1, h1, rfl⟩ := List.mem_map.1 ha
    obtain ⟨e2, h2, h3⟩ := List.mem_map.1 hb
    unfold ekeys at h1
    obtain ⟨k1, _, rfl⟩ := List.mem_map.1 h1
    unfold esecs ekeys at h2
    obtain ⟨s2, hs2, h4⟩ := List.mem_flatMap.1 h2
    obtain ⟨k2, _, rfl⟩ := List.mem_map.1 h4
    have := (key_inj h3).1
    simp only [entL] at this
    exact h.1 (this ▸ hs2)
theorem lay_keys (ls : List Ln) : ((layOf ls).map Ent.key).Nodup := by
  refine esecs_keys ls (fun s => ?_) _ ?_
  · unfold keysOf'; split
    · exact keysTo_nodup _ _ _
    · exact List.nodup_nil
  · unfold secsOf'; split
    · exact secsTo_nodup _ _
    · exact List.nodup_nil
theorem tellsB_iff {f g : List Ln} (hg : vfile g = true) : tellsB f g = true ↔ ∀ s k, getB g s k = true → tells1 f g s k = true := by
  unfold tellsB tellsS tellsK
  simp only [List.all_eq_true]
  constructor
  · intro h s k hb
    obtain ⟨h1, h2⟩ := (getB_iff hg s k).1 hb
    exact h s h1 k h2
  · intro h s hs k hk
    exact h s k ((getB_iff hg s k).2 ⟨hs, hk⟩)
theorem all_inE {f g : List Ln} (hf : vfile f = true) (hg : vfile g = true) : (layOf f).all (inE (layOf g)) = tellsB g f := by
  rw [Bool.eq_iff_iff, tellsB_iff hf, List.all_eq_true]
  constructor
  · intro h s k hb
    have := h (entL f s k) ((lay_mem_get hf).2 ⟨hb, rfl⟩)
    unfold entL at this
    rw [inE_lay hg] at this
    exact this
  · intro h e he
    obtain ⟨h1, h2⟩ := (lay_mem_get hf).1 he
    rw [h2]
    unfold entL
    rw [inE_lay hg]
    exact h _ _ h1
/-- the two tests agree -/
theorem same_tells {f g : List Ln} (hf : vfile f = true) (hg : vfile g = true) : sameE (layOf f) (layOf g) = (tellsB f g && tellsB g f) := by
  unfold sameE
  rw [all_inE hf hg]
  rcases h1 : tellsB g f with _ | _
  · rw [Bool.and_false, Bool.and_false]
  · rw [Bool.and_true, Bool.and_true]
    have hsub : ∀ x ∈ (layOf f).map Ent.key, x ∈ (layOf g).map Ent.key := by
      intro x hx
      obtain ⟨e, he, rfl⟩ := List.mem_map.1 hx
      obtain ⟨h2, _⟩ := (lay_mem_get hf).1 he
      have h3 := (tellsB_iff hf).1 h1 _ _ h2
      unfold tells1 at h3
      rw [Bool.and_eq_true] at h3
      exact List.mem_map.2 ⟨entL g e.s e.k, (lay_mem_get hg).2 ⟨h3.1, rfl⟩, rfl⟩
    rw [Bool.eq_iff_iff, decide_eq_true_iff, tellsB_iff hg]
    constructor
    · intro hl s k hb
      have h4 := all_in (lay_keys f) hsub (by rw [List.length_map, List.length_map]; omega) (entL g s k).key (List.mem_map.2 ⟨_, (lay_mem_get hg).2 ⟨hb, rfl⟩, rfl⟩)
      obtain ⟨e, he, h5⟩ := List.mem_map.1 h4
      obtain ⟨h6, h7⟩ := key_inj h5
      simp only [entL] at h6 h7
      obtain ⟨h8, _⟩ := (lay_mem_get hf).1 he
      rw [h6, h7] at h8
      have h9 := (tellsB_iff hf).1 h1 s k h8
      unfold tells1 at h9 ⊢
      rw [Bool.and_eq_true] at h9
      rw [h8, Bool.true_and]
      have := h9.2
      simp only [beq_iff_eq] at this ⊢
      exact this.symm
    · intro h2
      have h3 : ∀ x ∈ (layOf g).map Ent.key, x ∈ (layOf f).map Ent.key := by
        intro x hx
        obtain ⟨e, he, rfl⟩ := List.mem_map.1 hx
        obtain ⟨h4, _⟩ := (lay_mem_get hg).1 he
        have h5 := h2 _ _ h4
        unfold tells1 at h5
        rw [Bool.and_eq_true] at h5
        exact List.mem_map.2 ⟨entL f e.s e.k, (lay_mem_get hf).2 ⟨h5.1, rfl⟩, rfl⟩
      have h4 := len_le _ _ (lay_keys f) hsub
      have h5 := len_le _ _ (lay_keys g) h3
      rw [List.length_map, List.length_map] at h4 h5
      omega
end Go.Proofs.YtkjoolmhcfajnaaDoor
