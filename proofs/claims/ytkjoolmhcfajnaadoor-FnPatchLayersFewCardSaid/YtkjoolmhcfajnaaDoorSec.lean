/-
  Which lines are of a section, plainly, and what the program's linesIn returns. Conditions: at most 1048576 bytes in all.
  The pairs of a key, the line of a key and its value: pairsOf, WhereIs and GetValue of the program, lastPair, WhereIs and GetValue of the specification. Conditions: at most 1048576 bytes in all.
  The pairs of a key and the line of a key: pairsOf and WhereIs of the program; GetValue of both. Conditions: at most 1048576 bytes in all.
  The value of a key: GetValue of the program and of the specification. Conditions: at most 1048576 bytes in all.
-/
import Derived.Test.YtkjoolmhcfajnaaDoorFile
import Derived.Laws.OwnMore
import Derived.Deep.AppendLies
import Derived.Maps.AppendAt
namespace Go.Proofs.YtkjoolmhcfajnaaDoor
open Go.RowKit

instance : Inhabited Ln := ⟨⟨0, ⟨#[]⟩, ⟨#[]⟩, ⟨#[]⟩, ⟨#[]⟩, ⟨#[]⟩⟩⟩
/-- the section behind k lines -/
def nowAt (ls : List Ln) (k : Nat) : ByteArray := (ls.take k).foldl (fun now l => if l.k = 2 then l.na else now) ⟨#[]⟩
theorem nowAt_succ {ls : List Ln} {k : Nat} (hk : k < ls.length) : nowAt ls (k + 1) = if ls[k].k = 2 then ls[k].na else nowAt ls k := by
  unfold nowAt
  rw [List.take_succ_eq_append_getElem hk, List.foldl_append]
  rfl
/-- line i is of the section s -/
def inSec (ls : List Ln) (s : ByteArray) (i : Nat) : Bool := (nowAt ls (i + 1)).toList == s.toList
/-- of the first k lines those of the section s -/
def secTo (ls : List Ln) (s : ByteArray) (k : Nat) : List Nat := (List.range k).filter (inSec ls s)
theorem secTo_yes {ls : List Ln} {s : ByteArray} {k : Nat} (h : inSec ls s k = true) : secTo ls s (k + 1) = secTo ls s k ++ [k] := by
  unfold secTo
  rw [List.range_succ, List.filter_append]
  simp [h]
theorem secTo_no {ls : List Ln} {s : ByteArray} {k : Nat} (h : inSec ls s k = false) : secTo ls s (k + 1) = secTo ls s k := by
  unfold secTo
  rw [List.range_succ, List.filter_append]
  simp [h]
theorem secTo_le (ls : List Ln) (s : ByteArray) (k : Nat) : (secTo ls s k).length ≤ k := by
  unfold secTo
  have := List.length_filter_le (inSec ls s) (List.range k)
  simpa using this
theorem secTo_lt {ls : List Ln} {s : ByteArray} {k i : Nat} (h : i ∈ secTo ls s k) : i < k := by
  unfold secTo at h
  have := (List.mem_filter.1 h).1
  simpa using this

/-- numbers as cells -/
def ints (l : List Nat) : List Value := l.map fun (i : Nat) => Value.int .i64 (i : Int)
/-- a slice whose cells are these values -/
def ValsAt (w : World) (A : Option Addr) (xs : List Value) : Prop :=
  0 < xs.length → ∃ b o, A = some ⟨b, o, none⟩ ∧ b < w.heap.size ∧ ∀ i (h : i < xs.length), w.cell? ⟨b, o + i, none⟩ = some xs[i]
theorem ValsAt.keep {w w' : World} {A : Option Addr} {xs : List Value} (h : ValsAt w A xs) (g : Grows w w') : ValsAt w' A xs := fun h0 => by
  obtain ⟨b, o, e, hb, hc⟩ := h h0
  exact ⟨b, o, e, Nat.lt_of_lt_of_le hb g.size, fun i hi => (g.cell (p := ⟨b, o + i, none⟩) hb).trans (hc i hi)⟩
theorem ValsAt.of_own {w : World} {base : Nat} {e : TypeId} {v : Value} {xs : List Value} (h : w.ownsRow base e 1 v xs.length xs) : ∃ A c, v = .slice A xs.length c ∧ ValsAt w A xs ∧ xs.length ≤ c := by
  rcases Nat.eq_zero_or_pos xs.length with h0 | h0
  · rcases h.2 with ⟨rfl, _⟩ | ⟨g, cap, cur, rfl, _⟩
    · exact ⟨none, 0, by rw [h0], fun hh => absurd hh (by omega), by omega⟩
    · exact ⟨_, _, rfl, fun hh => absurd hh (by omega), by omega⟩
  · obtain ⟨g, cap, hv, _, hlt⟩ := h.form h0
    have hcap : xs.length ≤ cap := by
      rcases h.2 with ⟨h1, _⟩ | ⟨g', cap', cur, h1, _, _, h2, _⟩
      · rw [hv] at h1; cases h1
      · rw [hv] at h1; injection h1 with _ _ h3; omega
    refine ⟨some ⟨g, 0, none⟩, cap, hv, fun _ => ⟨g, 0, rfl, hlt, fun i hi => ?_⟩, hcap⟩
    have := h.cells (g := g) (by rw [hv]; rfl) i xs[i] (List.getElem?_eq_getElem hi)
    have ea : (⟨g, 0, none⟩ : Addr).add i = ⟨g, 0 + i, none⟩ := by unfold Addr.add; split <;> simp_all
    rw [ea] at this
    exact this

theorem own_base {w : World} {base : Nat} {e : TypeId} {size n : Nat} {v : Value} {xs : List Value} (h : w.ownsRow base e size v n xs) : ∀ g, v.ownBlock = some g → base ≤ g := by
  intro g hg
  rcases h.2 with ⟨rfl, _⟩ | ⟨g', cap, cur, rfl, hb, _⟩
  · simp [Value.ownBlock] at hg
  · have : g' = g := by simpa [Value.ownBlock] using hg
    omega
theorem Grows.grown {a b c : World} {e : TypeId} {size n : Nat} {v : Value} {xs : List Value} (h : Grows a b) (ho : b.ownsRow a.heap.size e size v n xs) (hg : b.grownBy c v.ownBlock) : Grows a c :=
  Below.grown h hg h.size (own_base ho)
theorem ints_snoc (L : List Nat) (k : Nat) : ints (L ++ [k]) = ints L ++ [Value.int .i64 (k : Int)] := by simp [ints]
theorem ints_length (L : List Nat) : (ints L).length = L.length := by simp [ints]

theorem infoInt : (Tryd.prog.info? 3).map (fun i => (i.zero, i.size, i.bytes)) = some (some (.int .i64 0), 1, 8) := by kernel_rfl

/-- a call's end: it returns a slice of these values, in memory that is new -/
def ValsRet (xs : List Value) (w : World) (e : Ending) (w' : World) : Prop := ∃ A c, e = .returned (.slice A xs.length c) ∧ ValsAt w' A xs ∧ Grows w w' ∧ xs.length ≤ c

end Go.Proofs.YtkjoolmhcfajnaaDoor
namespace Go.Proofs.YtkjoolmhcfajnaaDoor
open Go.RowKit

/-- line i is a pair of the key -/
def isKey (ls : List Ln) (key : ByteArray) (i : Nat) : Bool := (ls[i]!.k == 3) && (ls[i]!.na.toList == key.toList)
/-- line i is a pair of the key in the section -/
def isPair (ls : List Ln) (s key : ByteArray) (i : Nat) : Bool := isKey ls key i && inSec ls s i
/-- the last pair below k, -1 if there is none -/
def lastP (ls : List Ln) (s key : ByteArray) : Nat → Int
  | 0 => -1
  | k + 1 => if isPair ls s key k = true then (k : Int) else lastP ls s key k
def pairsTo (ls : List Ln) (s key : ByteArray) (k : Nat) : List Nat := (List.range k).filter (isPair ls s key)
theorem pairsTo_eq (ls : List Ln) (s key : ByteArray) (k : Nat) : (secTo ls s k).filter (isKey ls key) = pairsTo ls s key k := by
  unfold secTo pairsTo isPair
  rw [List.filter_filter]
theorem lastP_lt (ls : List Ln) (s key : ByteArray) (k : Nat) : lastP ls s key k < k ∧ -1 ≤ lastP ls s key k := by
  induction k with
  | zero => exact ⟨by show (-1 : Int) < 0; omega, Int.le_refl _⟩
  | succ k ih =>
    unfold lastP
    split <;> omega
theorem lastP_pairs (ls : List Ln) (s key : ByteArray) (k : Nat) : lastP ls s key k = match (pairsTo ls s key k).getLast? with | some i => (i : Int) | none => -1 := by
  induction k with
  | zero => rfl
  | succ k ih =>
    have hs : pairsTo ls s key (k + 1) = pairsTo ls s key k ++ (if isPair ls s key k = true then [k] else []) := by
      unfold pairsTo
      rw [List.range_succ, List.filter_append]
      congr 1
      by_cases h : isPair ls s key k = true <;> simp [h]
    unfold lastP
    rw [hs]
    by_cases h : isPair ls s key k = true
    · rw [if_pos h, if_pos h, List.getLast?_append]
      rfl
    · rw [if_neg h, if_neg h, List.append_nil]
      exact ih
theorem get_bang {ls : List Ln} {k : Nat} (h : k < ls.length) : ls[k]! = ls[k] := by
  rw [List.getElem!_eq_getElem?_getD, List.getElem?_eq_getElem h]; rfl

theorem lastP_yes {ls : List Ln} {s key : ByteArray} {k : Nat} (h : isPair ls s key k = true) : lastP ls s key (k + 1) = k := by
  show (if isPair ls s key k = true then (k : Int) else lastP ls s key k) = k
  rw [if_pos h]
theorem lastP_no {ls : List Ln} {s key : ByteArray} {k : Nat} (h : isPair ls s key k = false) : lastP ls s key (k + 1) = lastP ls s key k := by
  show (if isPair ls s key k = true then (k : Int) else lastP ls s key k) = _
  rw [if_neg (by rw [h]; simp)]

/-- the line of a key in a file, -1 if there is none or the file is not valid -/
def whereOf (ls : List Ln) (s key : ByteArray) : Int := if vfile ls = true then lastP ls s key ls.length else -1
theorem whereOf_yes {ls : List Ln} (s key : ByteArray) (h : vfile ls = true) : whereOf ls s key = lastP ls s key ls.length := by rw [whereOf, if_pos h]
theorem whereOf_no {ls : List Ln} (s key : ByteArray) (h : vfile ls = false) : whereOf ls s key = -1 := by rw [whereOf, if_neg (by rw [h]; simp)]

end Go.Proofs.YtkjoolmhcfajnaaDoor
namespace Go.Proofs.YtkjoolmhcfajnaaDoor
open Go.RowKit

/-- the lines of a section of a file, none if it is not valid -/
def secOf (ls : List Ln) (s : ByteArray) : List Nat := if vfile ls = true then secTo ls s ls.length else []
/-- the pairs of a key of a file, none if it is not valid -/
def pairsOf' (ls : List Ln) (s key : ByteArray) : List Nat := if vfile ls = true then pairsTo ls s key ls.length else []
theorem pairsOf_eq (ls : List Ln) (s key : ByteArray) : (secOf ls s).filter (isKey ls key) = pairsOf' ls s key := by
  unfold secOf pairsOf'
  split
  · exact pairsTo_eq _ _ _ _
  · rfl
theorem secOf_lt {ls : List Ln} {s : ByteArray} {i : Nat} (h : i ∈ secOf ls s) : i < ls.length := by
  unfold secOf at h
  split at h
  · exact secTo_lt h
  · cases h
theorem secOf_le (ls : List Ln) (s : ByteArray) : (secOf ls s).length ≤ ls.length := by
  unfold secOf
  split
  · exact secTo_le _ _ _
  · exact Nat.zero_le _
theorem whereOf_eq (ls : List Ln) (s key : ByteArray) : whereOf ls s key = match (pairsOf' ls s key).getLast? with | some i => (i : Int) | none => -1 := by
  unfold whereOf pairsOf'
  by_cases h : vfile ls = true
  · rw [if_pos h, if_pos h]; exact lastP_pairs _ _ _ _
  · rw [if_neg h, if_neg h]; rfl

end Go.Proofs.YtkjoolmhcfajnaaDoor
namespace Go.Proofs.YtkjoolmhcfajnaaDoor
open Go.RowKit

/-- the value of a key of a file -/
def getV (ls : List Ln) (s key : ByteArray) : ByteArray := if whereOf ls s key < 0 then ⟨#[]⟩ else ls[(whereOf ls s key).toNat]!.va
/-- a key of a file is there -/
def getB (ls : List Ln) (s key : ByteArray) : Bool := !decide (whereOf ls s key < 0)
theorem get_no {ls : List Ln} {s key : ByteArray} (h : whereOf ls s key < 0) : getV ls s key = ⟨#[]⟩ ∧ getB ls s key = false := by
  unfold getV getB
  rw [if_pos h]
  exact ⟨rfl, by simp [h]⟩
theorem get_yes {ls : List Ln} {s key : ByteArray} {k : Nat} (h : whereOf ls s key = k) (hk : k < ls.length) : getV ls s key = ls[k].va ∧ getB ls s key = true := by
  unfold getV getB
  rw [h, if_neg (by omega), Int.toNat_natCast, get_bang hk]
  exact ⟨rfl, by simp⟩
theorem where_lt (ls : List Ln) (s key : ByteArray) : whereOf ls s key < ls.length ∧ -1 ≤ whereOf ls s key := by
  unfold whereOf
  split
  · exact lastP_lt _ _ _ _
  · omega

theorem ret_get {a b : ByteArray} {p q : Bool} (h : a = b) (h2 : p = q) : Ending.returned (.tuple #[.string a, .bool p]) = .returned (.tuple #[.string b, .bool q]) := by rw [h, h2]

end Go.Proofs.YtkjoolmhcfajnaaDoor
