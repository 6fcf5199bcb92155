/-
  A slice of lines that a call itself makes, and the law's copies of files. Conditions: at most 1048576 lines.
-/
import Derived.Test.YtdedidcjbocicaaHelp
import Derived.Laws.MakeOwn
namespace Go.Proofs.Ytdedidcjbocicaa
open Go.RowKit

theorem run_make_rowN {P : Program} (t e : TypeId) (i : TypeInfo) (z : Value) (ht : P.underlying t = some (.slice e)) (hi : P.info? e = some i) (hz : i.zero = some z)
    (kl kc : IntKind) (n c : Nat) (hnc : n ≤ c) (hbytes : i.bytes * c ≤ 281474976710656) (h63 : c ≤ 9223372036854775807) (w : World) :
    (Instr.makeSlice t (.int kl (n : Int)) (.int kc (c : Int))).run P w = .ok (.slice (some ⟨w.heap.size, 0, none⟩) n c) (w.alloc (.cells (madeCells z.cells (c * i.size)) e)) := by
  have hb : (i.bytes : Int) * (c : Int) ≤ 281474976710656 := by
    have h : ((i.bytes * c : Nat) : Int) ≤ 281474976710656 := by omega
    rwa [Int.natCast_mul] at h
  have hr := run_make (P := P) w t e i z ht hi hz kl kc n c (by omega) (by omega) hb (by omega)
  simp only [Int.toNat_natCast] at hr
  exact hr

/-- a line of nothing -/
def Ln.zero : Ln := ⟨0, ⟨#[]⟩, ⟨#[]⟩, ⟨#[]⟩, ⟨#[]⟩, ⟨#[]⟩⟩
theorem infoLine : (Try.prog.info? 39).map (fun i => (i.zero, i.size, i.bytes)) = some (some Ln.zero.agg, 6, 88) := by kernel_rfl

/-- block g is a row of n lines, of the call's own -/
def Own6 (w : World) (g n : Nat) : Prop := ∃ cs : Array Value, w.heap[g]? = some (.cells cs 39 (0, 0)) ∧ cs.size = n * 6
theorem Own6.lt {w : World} {g n : Nat} (h : Own6 w g n) : g < w.heap.size := by
  obtain ⟨cs, h, _⟩ := h
  rcases Nat.lt_or_ge g w.heap.size with hlt | hge
  · exact hlt
  · rw [Array.getElem?_eq_none hge] at h; cases h
theorem Own6.cell {w : World} {g n : Nat} (h : Own6 w g n) {j : Nat} (hj : j < n * 6) : ∃ v, w.cell? ⟨g, j, none⟩ = some v := by
  obtain ⟨cs, h, hs⟩ := h
  rw [cell_of_row w g j cs _ _ h]
  exact ⟨cs[j]'(by omega), Array.getElem?_eq_getElem (by omega)⟩
theorem Own6.frozen {w : World} {g n : Nat} (h : Own6 w g n) (j : Nat) : w.frozen? ⟨g, j, none⟩ = false := by
  obtain ⟨cs, h, _⟩ := h
  exact frozen_of_row w g j cs _ h
theorem Own6.set_ {w : World} {g n : Nat} (h : Own6 w g n) (j : Nat) (u : Value) : Own6 (w.setCell ⟨g, j, none⟩ u) g n := by
  obtain ⟨cs, h, hs⟩ := h
  refine ⟨cs.setIfInBounds j u, ?_, by simpa using hs⟩
  simp [World.setCell, Array.getElem?_modify, h]
theorem Own6.keep {a b : World} {g n : Nat} (h : Own6 a g n) (k : Grows a b) : Own6 b g n := by
  have hl := h.lt
  obtain ⟨cs, h, hs⟩ := h
  exact ⟨cs, (k.block g hl).trans h, hs⟩
theorem Own6.new (w : World) (n : Nat) : Own6 (w.alloc (.cells (madeCells Ln.zero.agg.cells (n * 6)) 39)) w.heap.size n :=
  ⟨_, heap_alloc_new w _, size_madeCells _ _⟩

/-- a line stored -/
def st6 (w : World) (g o : Nat) (l : Ln) : World :=
  (((((w.setCell ⟨g, o, none⟩ (.int .i64 l.k)).setCell ⟨g, o + 1, none⟩ (.string l.le)).setCell ⟨g, o + 2, none⟩ (.string l.na)).setCell ⟨g, o + 3, none⟩ (.string l.se)).setCell ⟨g, o + 4, none⟩ (.string l.va)).setCell ⟨g, o + 5, none⟩ (.string l.ta)
theorem Own6.st {w : World} {g n : Nat} (h : Own6 w g n) (o : Nat) (l : Ln) : Own6 (st6 w g o l) g n := (((((h.set_ _ _).set_ _ _).set_ _ _).set_ _ _).set_ _ _).set_ _ _
theorem Own6.get_set {w : World} {g n : Nat} (h : Own6 w g n) {j : Nat} (hj : j < n * 6) (u : Value) (i : Nat) : (w.setCell ⟨g, j, none⟩ u).cell? ⟨g, i, none⟩ = if i = j then some u else w.cell? ⟨g, i, none⟩ := by
  have h2 := h.set_ j u
  obtain ⟨cs, h, hs⟩ := h
  have hh : (w.setCell ⟨g, j, none⟩ u).heap[g]? = some (.cells (cs.setIfInBounds j u) 39 (0, 0)) := by simp [World.setCell, Array.getElem?_modify, h]
  rw [cell_of_row _ g i _ _ _ hh, cell_of_row w g i cs _ _ h]
  by_cases e : i = j
  · subst e
    rw [if_pos rfl, Array.getElem?_setIfInBounds_self]
    simp; omega
  · rw [if_neg e, Array.getElem?_setIfInBounds_ne (by omega)]
theorem st6_cell {w : World} {g n : Nat} (h : Own6 w g n) {o : Nat} (ho : o + 5 < n * 6) (l : Ln) (i : Nat) (hi : i < o ∨ o + 6 ≤ i) : (st6 w g o l).cell? ⟨g, i, none⟩ = w.cell? ⟨g, i, none⟩ := by
  unfold st6
  have h0 := h.set_ o (.int .i64 l.k)
  have h1 := h0.set_ (o + 1) (.string l.le)
  have h2 := h1.set_ (o + 2) (.string l.na)
  have h3 := h2.set_ (o + 3) (.string l.se)
  have h4 := h3.set_ (o + 4) (.string l.va)
  rw [h4.get_set (by omega), if_neg (by omega), h3.get_set (by omega), if_neg (by omega), h2.get_set (by omega), if_neg (by omega), h1.get_set (by omega), if_neg (by omega), h0.get_set (by omega), if_neg (by omega), h.get_set (by omega), if_neg (by omega)]
theorem st6_at {w : World} {g n : Nat} (h : Own6 w g n) {o : Nat} (ho : o + 5 < n * 6) (l : Ln) : LnAt (st6 w g o l) g o l := by
  unfold st6
  have h0 := h.set_ o (.int .i64 l.k)
  have h1 := h0.set_ (o + 1) (.string l.le)
  have h2 := h1.set_ (o + 2) (.string l.na)
  have h3 := h2.set_ (o + 3) (.string l.se)
  have h4 := h3.set_ (o + 4) (.string l.va)
  refine ⟨?_, ?_, ?_, ?_, ?_, ?_⟩
  all_goals
    repeat (first | rw [h4.get_set (by omega)] | rw [h3.get_set (by omega)] | rw [h2.get_set (by omega)] | rw [h1.get_set (by omega)] | rw [h0.get_set (by omega)] | rw [h.get_set (by omega)])
    simp
theorem st6_keep {w : World} {g n : Nat} (h : Own6 w g n) {o : Nat} (ho : o + 5 < n * 6) (l : Ln) {p : Nat} {m : Ln} (hp : p + 5 < o ∨ o + 5 < p) (hm : LnAt w g p m) : LnAt (st6 w g o l) g p m := by
  obtain ⟨c0, c1, c2, c3, c4, c5⟩ := hm
  exact ⟨(st6_cell h ho l _ (by omega)).trans c0, (st6_cell h ho l _ (by omega)).trans c1, (st6_cell h ho l _ (by omega)).trans c2, (st6_cell h ho l _ (by omega)).trans c3, (st6_cell h ho l _ (by omega)).trans c4, (st6_cell h ho l _ (by omega)).trans c5⟩
theorem Grows.st {a w : World} (h : Grows a w) {g : Nat} (hg : a.heap.size ≤ g) (o : Nat) (l : Ln) : Grows a (st6 w g o l) :=
  (((((h.setCell hg _).setCell hg _).setCell hg _).setCell hg _).setCell hg _).setCell hg _

theorem Grows.bc {a b : World} (h : Grows a b) : ∀ k o, k < a.heap.size → b.cell? ⟨k, o, none⟩ = a.cell? ⟨k, o, none⟩ := fun k o hk => Below.cell (p := ⟨k, o, none⟩) h hk
theorem Grows.bf {a b : World} (h : Grows a b) : ∀ k o, k < a.heap.size → b.frozen? ⟨k, o, none⟩ = a.frozen? ⟨k, o, none⟩ := fun k o hk => Below.frozen (p := ⟨k, o, none⟩) h hk

theorem LnAt.setCell {w : World} {b o : Nat} {l : Ln} (h : LnAt w b o l) {p : Addr} (hp : b ≠ p.block) (u : Value) : LnAt (w.setCell p u) b o l := by
  obtain ⟨h0, h1, h2, h3, h4, h5⟩ := h
  have k : ∀ i, (w.setCell p u).cell? ⟨b, i, none⟩ = w.cell? ⟨b, i, none⟩ := fun i => World.cell?_setCell_other w p ⟨b, i, none⟩ u (fun e => hp (by rw [e]))
  exact ⟨(k _).trans h0, (k _).trans h1, (k _).trans h2, (k _).trans h3, (k _).trans h4, (k _).trans h5⟩
theorem LnsAt.setCell {w : World} {b o : Nat} {ls : List Ln} (h : LnsAt w (some ⟨b, o, none⟩) ls) {p : Addr} (hp : b ≠ p.block) (u : Value) : LnsAt (w.setCell p u) (some ⟨b, o, none⟩) ls := fun h0 => by
  obtain ⟨b', o', e, hb, hc⟩ := h h0
  injection e with e
  injection e with e1 e2
  subst e1; subst e2
  exact ⟨b, o, rfl, by simpa [World.setCell] using hb, fun i hi => (hc i hi).setCell hp u⟩

/-- a call's end: it returns a file whose lines are ls, in memory that is new -/
def FileRet (ls : List Ln) (w : World) (e : Ending) (w' : World) : Prop :=
  ∃ B : Addr, e = .returned (.agg #[.slice (some B) ls.length ls.length]) ∧ LnsAt w' (some B) ls ∧ Grows w w'

end Go.Proofs.Ytdedidcjbocicaa
