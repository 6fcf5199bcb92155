/-
  Entries of layers in memory, rows of them that a call has made, and what entryAt of the specification returns. Condition: at most 1048576 entries.
-/
import Derived.Test.YteifcogfnpeahaaMarkL
namespace Go.Proofs.Yteifcogfnpeahaa
open Go.RowKit

/-- an entry: section, key, op, value -/
structure Ent where
  s : ByteArray
  k : ByteArray
  op : Int
  v : ByteArray
def Ent.agg (e : Ent) : Value := .agg #[.string e.s, .string e.k, .int .i64 e.op, .string e.v]
/-- the four cells of an entry lie from place o of block b on -/
def EntAt (w : World) (b o : Nat) (e : Ent) : Prop :=
  w.cell? ⟨b, o, none⟩ = some (.string e.s) ∧ w.cell? ⟨b, o + 1, none⟩ = some (.string e.k) ∧ w.cell? ⟨b, o + 2, none⟩ = some (.int .i64 e.op) ∧ w.cell? ⟨b, o + 3, none⟩ = some (.string e.v)
def EntsAt (w : World) (A : Option Addr) (es : List Ent) : Prop :=
  0 < es.length → ∃ b o, A = some ⟨b, o, none⟩ ∧ b < w.heap.size ∧ ∀ i (h : i < es.length), EntAt w b (o + i * 4) es[i]
theorem EntAt.keep {w w' : World} {b o : Nat} {e : Ent} (h : EntAt w b o e) (hb : b < w.heap.size) (g : Grows w w') : EntAt w' b o e := by
  obtain ⟨h0, h1, h2, h3⟩ := h
  exact ⟨(g.cell hb).trans h0, (g.cell hb).trans h1, (g.cell hb).trans h2, (g.cell hb).trans h3⟩
theorem EntsAt.keep {w w' : World} {A : Option Addr} {es : List Ent} (h : EntsAt w A es) (g : Grows w w') : EntsAt w' A es := fun h0 => by
  obtain ⟨b, o, e, hb, hc⟩ := h h0
  exact ⟨b, o, e, Nat.lt_of_lt_of_le hb g.size, fun i hi => (hc i hi).keep hb g⟩
theorem EntsAt.nil (w : World) (A : Option Addr) : EntsAt w A [] := fun h => absurd h (Nat.lt_irrefl _)

def ecell (e : Ent) : List Value := [.string e.s, .string e.k, .int .i64 e.op, .string e.v]
def ecells : List Ent → List Value
  | [] => []
  | e :: es => ecell e ++ ecells es
theorem ecells_length (es : List Ent) : (ecells es).length = es.length * 4 := by
  induction es with
  | nil => rfl
  | cons e es ih => simp [ecells, ecell, ih]; omega
theorem ecells_snoc (es : List Ent) (e : Ent) : ecells (es ++ [e]) = ecells es ++ ecell e := by
  induction es with
  | nil => simp [ecells]
  | cons x es ih => simp [ecells, ih, List.append_assoc]
theorem ecells_get (es : List Ent) : ∀ (i : Nat) (h : i < es.length) (d : Nat), d < 4 → (ecells es)[i * 4 + d]? = (ecell es[i])[d]? := by
  induction es with
  | nil => intro i h; exact absurd h (by simp)
  | cons e es ih =>
    intro i h d hd
    have hl : (ecell e).length = 4 := rfl
    cases i with
    | zero => rw [ecells, Nat.zero_mul, Nat.zero_add, List.getElem?_append_left (by rw [hl]; exact hd)]; rfl
    | succ i =>
      rw [ecells, List.getElem?_append_right (by rw [hl]; omega), hl]
      rw [show (i + 1) * 4 + d - 4 = i * 4 + d from by omega, ih i (by simpa using h) d hd]
      rfl
/-- the slice v owns these entries -/
def OwnE (w : World) (base : Nat) (v : Value) (es : List Ent) : Prop := w.ownsRow base 102 4 v es.length (ecells es)
theorem OwnE.form {w : World} {base : Nat} {v : Value} {es : List Ent} (h : OwnE w base v es) : ∃ A c, v = .slice A es.length c ∧ EntsAt w A es := by
  rcases Nat.eq_zero_or_pos es.length with h0 | h0
  · rcases h.2 with ⟨rfl, _⟩ | ⟨g, cap, cur, rfl, _⟩
    · exact ⟨none, 0, by rw [h0], fun hh => absurd hh (by omega)⟩
    · exact ⟨_, _, rfl, fun hh => absurd hh (by omega)⟩
  · obtain ⟨g, cap, hv, hb, hlt⟩ := World.ownsRow.form h h0
    subst hv
    refine ⟨_, _, rfl, fun _ => ⟨g, 0, rfl, hlt, fun i hi => ?_⟩⟩
    have hx := fun d (hd : d < 4) => (World.ownsRow.cellAt h (i * 4 + d) (by omega)).trans (ecells_get es i hi d hd)
    rw [Nat.zero_add]
    exact ⟨hx 0 (by omega), hx 1 (by omega), hx 2 (by omega), hx 3 (by omega)⟩
theorem OwnE.keep {w w' : World} {base : Nat} {v : Value} {es : List Ent} (h : OwnE w base v es) (g : Grows w w') : OwnE w' base v es := by
  have hlt := World.ownsRow.lt h
  refine World.ownsRow.kept (row := some w.heap.size) h ⟨g.os, g.tape, g.output, g.size, fun i hi _ => g.block i hi⟩ ?_
  rcases hb : v.ownBlock with _ | k
  · exact .inl rfl
  · exact .inr (fun e => by
      have := (hlt k hb).2
      injection e with e
      omega)

/-- is the entry of this key -/
def Ent.of (e : Ent) (s k : ByteArray) : Bool := (e.s.toList == s.toList) && (e.k.toList == k.toList)
/-- the place of a key, from i on -/
def entFrom (s k : ByteArray) : List Ent → Nat → Int
  | [], _ => -1
  | e :: es, i => if e.of s k then i else entFrom s k es (i + 1)
def entIdx (es : List Ent) (s k : ByteArray) : Int := entFrom s k es 0
def NoneE (es : List Ent) (s k : ByteArray) (j : Nat) : Prop := ∀ i (h : i < es.length), i < j → es[i].of s k = false
theorem NoneE.zero (es : List Ent) (s k : ByteArray) : NoneE es s k 0 := fun _ _ h => absurd h (Nat.not_lt_zero _)
theorem NoneE.succ {es : List Ent} {s k : ByteArray} {j : Nat} (h : NoneE es s k j) (hj : j < es.length) (hl : es[j].of s k = false) : NoneE es s k (j + 1) := by
  intro i hi hij
  by_cases e : i = j
  · subst e; exact hl
  · exact h i hi (by omega)
theorem entFrom_at (s k : ByteArray) : ∀ (es : List Ent) (i j : Nat), NoneE es s k j → ∀ (hj : j < es.length), es[j].of s k = true → entFrom s k es i = ((i + j : Nat) : Int) := by
  intro es
  induction es with
  | nil => intro i j _ hj; exact absurd hj (by simp)
  | cons e es ih =>
    intro i j hn hj ht
    cases j with
    | zero => simp only [List.getElem_cons_zero] at ht; rw [entFrom, if_pos ht]; simp
    | succ j =>
      have h0 : e.of s k = false := hn 0 (by simp) (by omega)
      rw [entFrom, if_neg (by rw [h0]; simp), ih (i + 1) j (fun q hq hqj => hn (q + 1) (by simpa using hq) (by omega)) (by simpa using hj) (by simpa using ht)]
      omega
theorem entFrom_none (s k : ByteArray) : ∀ (es : List Ent) (i : Nat), NoneE es s k es.length → entFrom s k es i = -1 := by
  intro es
  induction es with
  | nil => intro i _; rfl
  | cons e es ih =>
    intro i hn
    have h0 : e.of s k = false := hn 0 (by simp) (by simp)
    rw [entFrom, if_neg (by rw [h0]; simp), ih (i + 1) (fun q hq hqj => hn (q + 1) (by simpa using hq) (by simpa using hqj))]

set_option maxRecDepth 100000 in
set_option maxHeartbeats 1000000 in
theorem entryAt_any (A : Option Addr) (c : Nat) (es : List Ent) (s key : ByteArray) (w : World) (hn : es.length ≤ 1048576) (hA : EntsAt w A es) :
    Calls Try.prog 107 #[.slice A es.length c, .string s, .string key] w fun e w' => e = .returned (.int .i64 (entIdx es s key)) ∧ w = w' := by
  have HA := Lib.hid hA
  clear hA
  obtain ⟨n, hnn⟩ : ∃ n, es.length = n := ⟨_, rfl⟩
  rw [hnn] at hn
  rw [hnn]
  have HN := Lib.hid hnn
  clear hnn
  go_enter Try.func107, Try.ntmps107
  go_wp2
  go_loop [7] (fun i => ∃ k : Nat, k ≤ n ∧ i = .int .i64 k ∧ NoneE es s key k) (fun i => n - (intOf i).toNat)
  case atStart => exact ⟨0, Nat.zero_le _, rfl, NoneE.zero _ _ _⟩
  case round =>
    obtain ⟨k, hk, rfl, hL⟩ := hrel
    have HL := Lib.hid hL
    clear hL
    by_cases hlt : k < n
    · have hk2 : k < es.length := by rw [HN.out]; exact hlt
      obtain ⟨b, o, rfl, _, hc⟩ := HA.out (by omega)
      obtain ⟨x, hx⟩ : ∃ x, es[k] = x := ⟨_, rfl⟩
      have hat := hc k hk2
      rw [hx] at hat
      obtain ⟨c0, c1, c2, c3⟩ := hat
      have HX := Lib.hid hx
      clear hx hc
      by_cases h1 : (x.s.toList == s.toList) = true
      · by_cases h2 : (x.k.toList == key.toList) = true
        · have HV : Hid (entIdx es s key = (k : Int)) := by
            unfold Hid entIdx
            rw [entFrom_at s key es 0 k HL.out hk2 (by rw [HX.out]; unfold Ent.of; rw [h1, h2]; rfl), Nat.zero_add]
          go_wp2
          go_ret
          exact ⟨by rw [HV.out]; rfl, rfl⟩
        · have h2' : (x.k.toList == key.toList) = false := by simpa using h2
          have HS : Hid (NoneE es s key (k + 1)) := HL.out.succ hk2 (by rw [HX.out]; unfold Ent.of; rw [h1, h2']; rfl)
          clear h2
          go_wp2
          go_round
          case rel => exact ⟨k + 1, by omega, by go_num, HS.out⟩
          case measure => simp [intOf]; omega
      · have h1' : (x.s.toList == s.toList) = false := by simpa using h1
        have HS : Hid (NoneE es s key (k + 1)) := HL.out.succ hk2 (by rw [HX.out]; unfold Ent.of; rw [h1']; rfl)
        clear h1
        go_wp2
        go_round
        case rel => exact ⟨k + 1, by omega, by go_num, HS.out⟩
        case measure => simp [intOf]; omega
    · obtain rfl : k = n := by omega
      have HV : Hid (entIdx es s key = -1) := entFrom_none s key es 0 (by rw [HN.out]; exact HL.out)
      go_wp2
      go_ret
      exact ⟨by rw [HV.out]; rfl, rfl⟩
end Go.Proofs.Yteifcogfnpeahaa
