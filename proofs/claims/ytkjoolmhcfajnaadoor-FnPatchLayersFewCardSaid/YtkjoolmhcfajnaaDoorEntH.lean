/-
  The law's own helpers on entries: sizes, copies, and a layer among the arguments, opened. Conditions: sizes that an int holds.
-/
import Derived.Test.YtkjoolmhcfajnaaDoorEqE
import Derived.Test.YtkjoolmhcfajnaaDoorOpen
import Derived.Test.YtkjoolmhcfajnaaDoorMem
import Derived.Laws.MakeOwn
namespace Go.Proofs.YtkjoolmhcfajnaaDoor
open Go.ChangeShapes Go.WideShapes Go.Deep Go.RowKit

/-- how much an entry weighs -/
def Ent.size (l : Ent) : Nat := l.s.size + l.k.size + l.v.size
/-- each part is no longer than a text may be -/
def Ent.inReach (l : Ent) : Prop := l.s.size ≤ maxLen ∧ l.k.size ≤ maxLen ∧ l.v.size ≤ maxLen

/-- the weight of the first k entries -/
def esum (ls : List Ent) (k : Nat) : Nat := ((ls.take k).map Ent.size).sum
theorem esum_succ {ls : List Ent} {k : Nat} (hk : k < ls.length) : esum ls (k + 1) = esum ls k + ls[k].size := by
  unfold esum
  rw [List.take_succ_eq_append_getElem hk, List.map_append, List.sum_append]
  simp
theorem esum_le (ls : List Ent) (k : Nat) : esum ls k ≤ esum ls ls.length := by
  unfold esum
  rw [List.take_length]
  have h := List.take_append_drop k ls
  have : (ls.map Ent.size).sum = ((ls.take k).map Ent.size).sum + ((ls.drop k).map Ent.size).sum := by
    rw [← List.sum_append, ← List.map_append, h]
  omega
/-- the weight of entries: their number and their parts -/
def wents (ls : List Ent) : Nat := ls.length + esum ls ls.length
/-- each part is at most so long as the purse -/
def Ent.fits (l : Ent) : Prop := l.s.size ≤ 1048576 ∧ l.k.size ≤ 1048576 ∧ l.v.size ≤ 1048576
def EFit (ls : List Ent) : Prop := ls.length ≤ 1048576 ∧ ∀ i (h : i < ls.length), ls[i].fits
theorem epart_le {ls : List Ent} {i : Nat} (h : i < ls.length) : ls[i].size ≤ esum ls ls.length := by
  have h1 := esum_succ h
  have h2 := esum_le ls (i + 1)
  omega
theorem efits_of {ls : List Ent} {m : Int} (h : (wents ls : Int) ≤ m) (hm : m ≤ 1048576) : EFit ls := by
  have hw : wents ls = ls.length + esum ls ls.length := rfl
  refine ⟨by omega, fun i hi => ?_⟩
  have h1 := epart_le hi
  have h2 : ls[i].size = ls[i].s.size + ls[i].k.size + ls[i].v.size := rfl
  unfold Ent.fits
  omega

theorem take_set_snoc {α : Type} (xs : List α) (i : Nat) (a : α) (h : i < xs.length) : (xs.set i a).take (i + 1) = xs.take i ++ [a] := by
  rw [List.take_succ_eq_append_getElem (by simpa using h), List.getElem_set_self, List.take_set_of_le (Nat.le_refl _)]
/-- the first k entries are there -/
def EDone (xs : List Value) (es : List Ent) (k : Nat) : Prop := xs.take (k * 4) = ecells (es.take k)
theorem EDone.put {xs : List Value} {es : List Ent} {k : Nat} (h : EDone xs es k) (hk : k < es.length) (hx : xs.length = es.length * 4) {e : Ent} (he : es[k] = e) :
    EDone ((((xs.set (k * 4) (.string e.s)).set (k * 4 + 1) (.string e.k)).set (k * 4 + 2) (.int .i64 e.op)).set (k * 4 + 3) (.string e.v)) es (k + 1) := by
  unfold EDone at h ⊢
  have hl : k * 4 + 4 ≤ xs.length := by omega
  rw [show (k + 1) * 4 = k * 4 + 3 + 1 from by omega, take_set_snoc _ _ _ (by simp; omega), take_set_snoc _ _ _ (by simp; omega), take_set_snoc _ _ _ (by simp; omega), take_set_snoc _ _ _ (by omega), h,
    List.take_succ_eq_append_getElem hk, he, ecells_snoc]
  simp [ecell]
/-- a state of the copying: a row of n entries whose first k are those of es -/
def ECopy (w0 w : World) (g n : Nat) (es : List Ent) (k : Nat) : Prop := (∃ xs, OwnQ w w0.heap.size (.slice (some ⟨g, 0, none⟩) n n) n xs ∧ EDone xs es k) ∧ Grows w0 w
theorem ECopy.keep {w0 a b : World} {g n k : Nat} {es : List Ent} (h : ECopy w0 a g n es k) (hg : Grows a b) : ECopy w0 b g n es k := by
  obtain ⟨⟨xs, h1, h2⟩, h3⟩ := h
  exact ⟨⟨xs, h1.keep hg, h2⟩, h3.trans hg⟩
theorem ECopy.cell {w0 a : World} {g n k : Nat} {es : List Ent} (h : ECopy w0 a g n es k) {i : Nat} (hi : i < n * 4) : ∃ v, a.cell? ⟨g, i, none⟩ = some v := by
  obtain ⟨⟨xs, h1, h2⟩, h3⟩ := h
  rw [World.ownsRow.cellAt h1 i hi]
  exact ⟨_, List.getElem?_eq_getElem (by rw [h1.size]; exact hi)⟩
theorem ECopy.frozen {w0 a : World} {g n k : Nat} {es : List Ent} (h : ECopy w0 a g n es k) (i : Nat) : a.frozen? ⟨g, i, none⟩ = false := by
  obtain ⟨⟨xs, h1, h2⟩, h3⟩ := h
  exact World.ownsRow.frozenAt h1 i
theorem ECopy.put {w0 a : World} {g n k : Nat} {es : List Ent} (h : ECopy w0 a g n es k) (hn : es.length = n) (hk : k < es.length) {e : Ent} (he : es[k] = e) :
    ECopy w0 ((((a.setCell ⟨g, k * 4, none⟩ (.string e.s)).setCell ⟨g, k * 4 + 1, none⟩ (.string e.k)).setCell ⟨g, k * 4 + 2, none⟩ (.int .i64 e.op)).setCell ⟨g, k * 4 + 3, none⟩ (.string e.v)) g n es (k + 1) := by
  obtain ⟨⟨xs, h1, h2⟩, h3⟩ := h
  have hg : w0.heap.size ≤ g := (World.ownsRow.lt h1 g rfl).1
  exact ⟨⟨_, (((h1.set_ _ _).set_ _ _).set_ _ _).set_ _ _, h2.put hk (by rw [h1.size, hn]) he⟩, (((h3.setCell hg _).setCell hg _).setCell hg _).setCell hg _⟩
theorem ECopy.done {w0 a : World} {g n : Nat} {es : List Ent} (h : ECopy w0 a g n es n) (hn : es.length = n) : OwnE a w0.heap.size (.slice (some ⟨g, 0, none⟩) n n) es := by
  obtain ⟨⟨xs, h1, h2⟩, h3⟩ := h
  unfold EDone at h2
  rw [List.take_of_length_le (by rw [h1.size]; exact Nat.le_refl _), List.take_of_length_le (by omega)] at h2
  subst h2
  unfold OwnE
  rw [hn]
  exact h1
theorem ECopy.start (w : World) (n : Nat) (es : List Ent) (hn : n ≤ 1048576) (M : Array Value) (hM : M.size = n * 4) : ECopy w (w.alloc (.cells M 33)) w.heap.size n es 0 := by
  refine ⟨⟨M.toList, ⟨by simpa using hM, .inr ⟨_, n, M, rfl, Nat.le_refl _, heap_alloc_new w _, Nat.le_refl _, by unfold maxLen; omega, hM, ?_⟩⟩, by unfold EDone; simp [ecells]⟩, (Grows.refl _).alloc _⟩
  rw [List.take_of_length_le (by simp; omega)]

instance instEntOpen : Inhabited Ent := ⟨⟨⟨#[]⟩, ⟨#[]⟩, 0, ⟨#[]⟩⟩⟩

section
variable {H : Type} {enc : TypeId × Value → H} {w : World} {base : Nat} {spare : Nat → Bool} {held : Bool}
end
end Go.Proofs.YtkjoolmhcfajnaaDoor
