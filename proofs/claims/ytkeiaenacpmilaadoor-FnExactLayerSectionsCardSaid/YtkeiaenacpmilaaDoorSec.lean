/-
  Which lines are of a section, plainly, and what the program's linesIn returns. Conditions: at most 1048576 bytes in all.
-/
import Derived.Test.YtkeiaenacpmilaaDoorLawF
import Derived.Laws.OwnMore
import Derived.Deep.AppendLies
import Derived.Maps.AppendAt
namespace Go.Proofs.YtkeiaenacpmilaaDoor
open Go.RowKit

instance : Inhabited Ln := ⟨⟨0, ⟨#[]⟩, ⟨#[]⟩, ⟨#[]⟩, ⟨#[]⟩, ⟨#[]⟩⟩⟩
/-- the section behind k lines -/
def nowAt (ls : List Ln) (k : Nat) : ByteArray := (ls.take k).foldl (fun now l => if l.k = 2 then l.na else now) ⟨#[]⟩
theorem nowAt_succ {ls : List Ln} {k : Nat} (hk : k < ls.length) : nowAt ls (k + 1) = if ls[k].k = 2 then ls[k].na else nowAt ls k := by
  unfold nowAt
  rw [List.take_succ_eq_append_getElem hk, List.foldl_append]
  rfl
/-- line i is of the section s -/
def inSec (ls : List Ln) (s : ByteArray) (i : Nat) : Bool := (nowAt ls (i + 1)).toList == s.toList
/-- of the first k lines those of the section s -/
def secTo (ls : List Ln) (s : ByteArray) (k : Nat) : List Nat := (List.range k).filter (inSec ls s)
theorem secTo_yes {ls : List Ln} {s : ByteArray} {k : Nat} (h : inSec ls s k = true) : secTo ls s (k + 1) = secTo ls s k ++ [k] := by
  unfold secTo
  rw [List.range_succ, List.filter_append]
  simp [h]
theorem secTo_no {ls : List Ln} {s : ByteArray} {k : Nat} (h : inSec ls s k = false) : secTo ls s (k + 1) = secTo ls s k := by
  unfold secTo
  rw [List.range_succ, List.filter_append]
  simp [h]
theorem secTo_le (ls : List Ln) (s : ByteArray) (k : Nat) : (secTo ls s k).length ≤ k := by
  unfold secTo
  have := List.length_filter_le (inSec ls s) (List.range k)
  simpa using this
theorem secTo_lt {ls : List Ln} {s : ByteArray} {k i : Nat} (h : i ∈ secTo ls s k) : i < k := by
  unfold secTo at h
  have := (List.mem_filter.1 h).1
  simpa using this

/-- numbers as cells -/
def ints (l : List Nat) : List Value := l.map fun (i : Nat) => Value.int .i64 (i : Int)
/-- a slice whose cells are these values -/
def ValsAt (w : World) (A : Option Addr) (xs : List Value) : Prop :=
  0 < xs.length → ∃ b o, A = some ⟨b, o, none⟩ ∧ b < w.heap.size ∧ ∀ i (h : i < xs.length), w.cell? ⟨b, o + i, none⟩ = some xs[i]
theorem ValsAt.keep {w w' : World} {A : Option Addr} {xs : List Value} (h : ValsAt w A xs) (g : Grows w w') : ValsAt w' A xs := fun h0 => by
  obtain ⟨b, o, e, hb, hc⟩ := h h0
  exact ⟨b, o, e, Nat.lt_of_lt_of_le hb g.size, fun i hi => (g.cell (p := ⟨b, o + i, none⟩) hb).trans (hc i hi)⟩
theorem ValsAt.of_own {w : World} {base : Nat} {e : TypeId} {v : Value} {xs : List Value} (h : w.ownsRow base e 1 v xs.length xs) : ∃ A c, v = .slice A xs.length c ∧ ValsAt w A xs ∧ xs.length ≤ c := by
  rcases Nat.eq_zero_or_pos xs.length with h0 | h0
  · rcases h.2 with ⟨rfl, _⟩ | ⟨g, cap, cur, rfl, _⟩
    · exact ⟨none, 0, by rw [h0], fun hh => absurd hh (by omega), by omega⟩
    · exact ⟨_, _, rfl, fun hh => absurd hh (by omega), by omega⟩
  · obtain ⟨g, cap, hv, _, hlt⟩ := h.form h0
    have hcap : xs.length ≤ cap := by
      rcases h.2 with ⟨h1, _⟩ | ⟨g', cap', cur, h1, _, _, h2, _⟩
      · rw [hv] at h1; cases h1
      · rw [hv] at h1; injection h1 with _ _ h3; omega
    refine ⟨some ⟨g, 0, none⟩, cap, hv, fun _ => ⟨g, 0, rfl, hlt, fun i hi => ?_⟩, hcap⟩
    have := h.cells (g := g) (by rw [hv]; rfl) i xs[i] (List.getElem?_eq_getElem hi)
    have ea : (⟨g, 0, none⟩ : Addr).add i = ⟨g, 0 + i, none⟩ := by unfold Addr.add; split <;> simp_all
    rw [ea] at this
    exact this

theorem own_base {w : World} {base : Nat} {e : TypeId} {size n : Nat} {v : Value} {xs : List Value} (h : w.ownsRow base e size v n xs) : ∀ g, v.ownBlock = some g → base ≤ g := by
  intro g hg
  rcases h.2 with ⟨rfl, _⟩ | ⟨g', cap, cur, rfl, hb, _⟩
  · simp [Value.ownBlock] at hg
  · have : g' = g := by simpa [Value.ownBlock] using hg
    omega
theorem Grows.grown {a b c : World} {e : TypeId} {size n : Nat} {v : Value} {xs : List Value} (h : Grows a b) (ho : b.ownsRow a.heap.size e size v n xs) (hg : b.grownBy c v.ownBlock) : Grows a c :=
  Below.grown h hg h.size (own_base ho)
theorem ints_snoc (L : List Nat) (k : Nat) : ints (L ++ [k]) = ints L ++ [Value.int .i64 (k : Int)] := by simp [ints]
theorem ints_length (L : List Nat) : (ints L).length = L.length := by simp [ints]

theorem infoInt : (Tryd.prog.info? 3).map (fun i => (i.zero, i.size, i.bytes)) = some (some (.int .i64 0), 1, 8) := by kernel_rfl

/-- a call's end: it returns a slice of these values, in memory that is new -/
def ValsRet (xs : List Value) (w : World) (e : Ending) (w' : World) : Prop := ∃ A c, e = .returned (.slice A xs.length c) ∧ ValsAt w' A xs ∧ Grows w w' ∧ xs.length ≤ c

end Go.Proofs.YtkeiaenacpmilaaDoor
