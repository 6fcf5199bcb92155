/-
  Rows of lines that a call makes by append: the row of nothing, one more line, what a call that returns a file hands over. Condition: at most 1048576 lines.
-/
import Derived.Test.YtdedidcjbocicaaMarkL
import Derived.Test.YtdedidcjbocicaaSecs
import Derived.Test.YtdedidcjbocicaaGet
import Derived.Test.YtdedidcjbocicaaKeys
import Derived.Deep.AppendLies
namespace Go.Proofs.Ytdedidcjbocicaa
open Go.RowKit

theorem gb_of2 {w a : World} (h : Grows w a) (row : Option Nat) : w.grownBy a row := ⟨h.os, h.tape, h.output, h.size, fun i hi _ => h.block i hi⟩
theorem OwnL.nil (w : World) (base : Nat) : OwnL w base (.slice none 0 0) [] := World.ownsRow_nil _ _ _ _
theorem OwnL.empty (w : World) (base : Nat) (hb : base ≤ w.heap.size) : OwnL (w.alloc (.cells #[] 39)) base (.slice (some ⟨w.heap.size, 0, none⟩) 0 0) [] :=
  World.ownsRow_lit w #[] 0 hb (Nat.zero_le _) rfl
theorem OwnL.less {w : World} {base base' : Nat} {v : Value} {xs : List Ln} (h : OwnL w base v xs) (hb : base' ≤ base) : OwnL w base' v xs := by
  refine ⟨h.1, ?_⟩
  rcases h.2 with h2 | ⟨g, cap, cur, hv, hg, hr⟩
  · exact .inl h2
  · exact .inr ⟨g, cap, cur, hv, by omega, hr⟩
theorem OwnL.far {a b : World} {base : Nat} {v : Value} {xs : List Ln} {row : Option Nat} (h : OwnL a base v xs) (hg : a.grownBy b row) (hne : ∀ k, v.ownBlock = some k → row ≠ some k) : OwnL b base v xs := by
  refine World.ownsRow.kept h hg ?_
  rcases hb : v.ownBlock with _ | k
  · exact .inl rfl
  · exact .inr (fun e => hne k hb e.symm)
theorem OwnL.form {w : World} {base : Nat} {v : Value} {ls : List Ln} (h : OwnL w base v ls) : ∃ A c, v = .slice A ls.length c ∧ LnsAt w A ls := by
  obtain ⟨A, c, rfl, _⟩ := OwnR.form h
  exact ⟨A, c, rfl, OwnL.at h⟩
theorem OwnL.form3 {w : World} {base : Nat} {v : Value} {ls : List Ln} (h : OwnL w base v ls) : ∃ A n c, v = .slice A n c := by
  obtain ⟨A, c, rfl, _⟩ := OwnR.form h
  exact ⟨A, _, c, rfl⟩
theorem OwnL.lt {w : World} {base : Nat} {v : Value} {ls : List Ln} (h : OwnL w base v ls) : ∀ k, v.ownBlock = some k → base ≤ k ∧ k < w.heap.size := World.ownsRow.lt h

/-- the rows of two values are not the same block -/
def Apart (v u : Value) : Prop := ∀ k, v.ownBlock = some k → u.ownBlock ≠ some k
/-- the row of the new value is the old one's, or it is new -/
def Near (v v' : Value) (w : World) : Prop := ∀ k, v'.ownBlock = some k → v.ownBlock = some k ∨ k = w.heap.size
theorem near_of {v : Value} {g n c : Nat} {w : World} (h : v.ownBlock = some g ∨ g = w.heap.size) : Near v (.slice (some ⟨g, 0, none⟩) n c) w := fun k hk => by
  injection hk with hk
  subst hk
  exact h
theorem Apart.less {v u : Value} {b : Nat} (hv : ∀ k, v.ownBlock = some k → k < b) (hu : ∀ k, u.ownBlock = some k → b ≤ k) : Apart v u := fun k hk e => by
  have := hv k hk
  have := hu k e
  omega
theorem Apart.more {v u : Value} {b : Nat} (hv : ∀ k, v.ownBlock = some k → b ≤ k) (hu : ∀ k, u.ownBlock = some k → k < b) : Apart v u := fun k hk e => by
  have := hv k hk
  have := hu k e
  omega
theorem Apart.near {v v' u : Value} {w : World} (h : Apart v u) (hn : Near v v' w) (hu : ∀ k, u.ownBlock = some k → k < w.heap.size) : Apart v' u := fun k hk e => by
  rcases hn k hk with h1 | h1
  · exact h k h1 e
  · have := hu k e
    omega
/-- a call's end: it returns a file in a row of the call's own -/
def ResL (ls : List Ln) (w : World) (e : Ending) (w' : World) : Prop := ∃ v, e = .returned (.agg #[v]) ∧ OwnL w' w.heap.size v ls ∧ Grows w w'
/-- a call's end: it returns a file in a row of the call's own, and a Bool -/
def ResLB (ls : List Ln) (b : Bool) (w : World) (e : Ending) (w' : World) : Prop := ∃ v, e = .returned (.tuple #[.agg #[v], .bool b]) ∧ OwnL w' w.heap.size v ls ∧ Grows w w'

theorem lcell_one (l : Ln) : ∀ u ∈ lcell l, u.oneCell' = true := by
  intro u hu
  simp [lcell] at hu
  rcases hu with rfl | rfl | rfl | rfl | rfl | rfl <;> rfl
theorem lcells_one (ls : List Ln) : ∀ u ∈ lcells ls, u.oneCell' = true := by
  induction ls with
  | nil => intro u hu; simp [lcells] at hu
  | cons l ls ih =>
    intro u hu
    rw [lcells, List.mem_append] at hu
    rcases hu with h | h
    · exact lcell_one l u h
    · exact ih u h
theorem LnAt.cells {w : World} {b o : Nat} {l : Ln} (h : LnAt w b o l) : ∀ j u, (lcell l)[j]? = some u → w.cell? ((⟨b, o, none⟩ : Addr).add j) = some u := by
  obtain ⟨h0, h1, h2, h3, h4, h5⟩ := h
  intro j u hj
  match j, hj with
  | 0, hj => simp [lcell] at hj; subst hj; simpa [Addr.add] using h0
  | 1, hj => simp [lcell] at hj; subst hj; simpa [Addr.add] using h1
  | 2, hj => simp [lcell] at hj; subst hj; simpa [Addr.add] using h2
  | 3, hj => simp [lcell] at hj; subst hj; simpa [Addr.add] using h3
  | 4, hj => simp [lcell] at hj; subst hj; simpa [Addr.add] using h4
  | 5, hj => simp [lcell] at hj; subst hj; simpa [Addr.add] using h5
  | j + 6, hj => simp [lcell] at hj
theorem LnsAt.cells {w : World} {b o : Nat} {ls : List Ln} (h : ∀ i (h : i < ls.length), LnAt w b (o + i * 6) ls[i]) : ∀ j u, (lcells ls)[j]? = some u → w.cell? ((⟨b, o, none⟩ : Addr).add j) = some u := by
  intro j u hj
  have hlt : j < ls.length * 6 := by
    rw [← lcells_length]
    rcases Nat.lt_or_ge j (lcells ls).length with h | h
    · exact h
    · rw [List.getElem?_eq_none h] at hj; cases hj
  have hi : j / 6 < ls.length := by omega
  have hd : j % 6 < 6 := Nat.mod_lt _ (by omega)
  have hjj : j / 6 * 6 + j % 6 = j := by omega
  have hg := lcells_get ls (j / 6) hi (j % 6) hd
  rw [hjj, hj] at hg
  have := (h (j / 6) hi).cells (j % 6) u hg.symm
  have e : (⟨b, o + j / 6 * 6, none⟩ : Addr).add (j % 6) = (⟨b, o, none⟩ : Addr).add j := by
    have ha : ∀ (x y z : Nat), (⟨x, y, none⟩ : Addr).add z = ⟨x, y + z, none⟩ := fun x y z => by unfold Addr.add; split <;> simp_all
    rw [ha, ha, show o + j / 6 * 6 + j % 6 = o + j from by omega]
  rw [← e]
  exact this

theorem lcells_append (a b : List Ln) : lcells (a ++ b) = lcells a ++ lcells b := by
  induction a with
  | nil => rfl
  | cons y a ih => simp [lcells, ih, List.append_assoc]
/-- one more line, or several: append to a row of the call's own -/
theorem appLs {w : World} {ops : Array Oper} {rest : List Oper} {o : Oper} {a : Act} {Q : Exit → Act → World → Prop} (hgd : o.guard = none) (s x : Operand)
    (ho : o.op = .call { callee := .builtin .append, args := #[s, x], argTypes := #[23, 23] })
    (base : Nat) (v : Value) (K : List Ln) (hs : a.eval s = v) (hown : OwnL w base v K) (ad : Addr) (m c : Nat) (ns : List Ln) (hx : a.eval x = .slice (some ad) m c) (hm : ns.length = m) (hm0 : 0 < m)
    (hnews : ∀ j u, (lcells ns)[j]? = some u → w.cell? (ad.add j) = some u) (hK : K.length ≤ 4194304) (hm2 : m ≤ 1048576) (hbase : base ≤ w.heap.size)
    (h : ∀ v' w', Hid (OwnL w' base v' (K ++ ns)) → Hid (w.grownBy w' v.ownBlock) → Hid (Near v v' w) → wpList Try.prog ops Q rest (a.put o.dst v') w') : wpList Try.prog ops Q (o :: rest) a w := by
  obtain ⟨i0, hi, hz0, hz1, hz2⟩ := info_parts infoLine
  refine wpList_append_lies _ hgd s x 23 ho base 39 i0 Ln.zero.agg 6 88 Try.underlying23 hi hz0 hz1 hz2 rfl (by decide) v K.length (lcells K) hs hown ad m c (lcells ns) hx (by rw [lcells_length, hm]) hnews (lcells_one ns) hm0 (by unfold maxLen; omega) (by omega) hbase _ rfl ?_
  intro g cap w' h1 h2 h3 _
  refine h _ w' ?_ h2 (near_of h3)
  unfold Hid OwnL OwnR
  rw [List.length_append, lcells_append, hm]
  exact h1
/-- the same, as one step of a region that draws its order -/
theorem stepLs {w : World} {ops : Array Oper} {o : Oper} {a : Act} {KK : Act → World → Prop} {Q : Exit → Act → World → Prop} {E : Prop} (hgd : o.guard = none) (s x : Operand)
    (ho : o.op = .call { callee := .builtin .append, args := #[s, x], argTypes := #[23, 23] })
    (base : Nat) (v : Value) (K : List Ln) (hs : a.eval s = v) (hown : OwnL w base v K) (ad : Addr) (m c : Nat) (ns : List Ln) (hx : a.eval x = .slice (some ad) m c) (hm : ns.length = m) (hm0 : 0 < m)
    (hnews : ∀ j u, (lcells ns)[j]? = some u → w.cell? (ad.add j) = some u) (hK : K.length ≤ 4194304) (hm2 : m ≤ 1048576) (hbase : base ≤ w.heap.size)
    (h : ∀ v' w', Hid (OwnL w' base v' (K ++ ns)) → Hid (w.grownBy w' v.ownBlock) → Hid (Near v v' w) → KK (a.put o.dst v') w') : if Region.wanted o (yielded ops a.tmps) = true then Oper.wp Try.prog o a w KK Q else E := by
  obtain ⟨i0, hi, hz0, hz1, hz2⟩ := info_parts infoLine
  refine step_append_lies _ hgd s x 23 ho base 39 i0 Ln.zero.agg 6 88 Try.underlying23 hi hz0 hz1 hz2 rfl (by decide) v K.length (lcells K) hs hown ad m c (lcells ns) hx (by rw [lcells_length, hm]) hnews (lcells_one ns) hm0 (by unfold maxLen; omega) (by omega) hbase _ rfl ?_
  intro g cap w' h1 h2 h3 _
  refine h _ w' ?_ h2 (near_of h3)
  unfold Hid OwnL OwnR
  rw [List.length_append, lcells_append, hm]
  exact h1

/-- block b is a box of one cell -/
def Box (w : World) (b : Nat) (v : Value) (T : TypeId) : Prop := w.heap[b]? = some (.cells #[v] T (0, 0))
theorem Box.lt {w : World} {b : Nat} {v : Value} {T : TypeId} (h : Box w b v T) : b < w.heap.size := by
  rcases Nat.lt_or_ge b w.heap.size with hlt | hge
  · exact hlt
  · unfold Box at h; rw [Array.getElem?_eq_none hge] at h; cases h
theorem Box.cell {w : World} {b : Nat} {v : Value} {T : TypeId} (h : Box w b v T) : w.cell? ⟨b, 0, none⟩ = some v := by
  rw [cell_of_row w b 0 _ _ _ h]; rfl
theorem Box.free {w : World} {b : Nat} {v : Value} {T : TypeId} (h : Box w b v T) : w.frozen? ⟨b, 0, none⟩ = false := frozen_of_row w b 0 _ _ h
theorem Box.keep {w w' : World} {b : Nat} {v : Value} {T : TypeId} (h : Box w b v T) (g : Grows w w') : Box w' b v T := (g.block b h.lt).trans h
theorem Box.far {w w' : World} {b : Nat} {v : Value} {T : TypeId} {row : Option Nat} (h : Box w b v T) (g : w.grownBy w' row) (hne : row ≠ some b) : Box w' b v T := (g.block b h.lt (by first | exact hne | exact fun e => hne e.symm)).trans h
theorem Box.set_ {w : World} {b : Nat} {v : Value} {T : TypeId} (h : Box w b v T) (u : Value) : Box (w.setCell ⟨b, 0, none⟩ u) b u T := by
  unfold Box
  unfold Box at h
  simp [World.setCell, Array.getElem?_modify, h]
theorem Box.new (w : World) (v : Value) (T : TypeId) : Box (w.alloc (.cells #[v] T)) w.heap.size v T := heap_alloc_new w _
theorem OwnL.setFar {w : World} {base : Nat} {v : Value} {K : List Ln} (h : OwnL w base v K) {p i : Nat} (hp : v.ownBlock ≠ some p) (u : Value) : OwnL (w.setCell ⟨p, i, none⟩ u) base v K :=
  OwnL.far h (row := some p) (gb_set (World.grownBy.refl _ _) i u) (fun k hk e => by
    injection e with e
    subst e
    exact hp hk)
theorem OwnL.setOther {w : World} {base : Nat} {v : Value} {K : List Ln} (h : OwnL w base v K) {p i : Nat} (hp : p < base) (u : Value) : OwnL (w.setCell ⟨p, i, none⟩ u) base v K :=
  OwnL.far h (row := some p) (gb_set (World.grownBy.refl _ _) i u) (fun k hk e => by
    have := (h.lt k hk).1
    injection e with e
    omega)
theorem OwnS.setFar {w : World} {base : Nat} {v : Value} {K : List ByteArray} (h : OwnS w base v K) {p i : Nat} (hp : v.ownBlock ≠ some p) (u : Value) : OwnS (w.setCell ⟨p, i, none⟩ u) base v K :=
  OwnS.far h (row := some p) (gb_set (World.grownBy.refl _ _) i u) (fun k hk e => by
    injection e with e
    subst e
    exact hp hk)
theorem OwnR.far {a b : World} {base n : Nat} {v : Value} {xs : List Value} {row : Option Nat} (h : OwnR a base v n xs) (hg : a.grownBy b row) (hne : ∀ k, v.ownBlock = some k → row ≠ some k) : OwnR b base v n xs := by
  refine World.ownsRow.kept h hg ?_
  rcases hb : v.ownBlock with _ | k
  · exact .inl rfl
  · exact .inr (fun e => hne k hb e.symm)

theorem one_news (w : World) (l : Ln) (t : TypeId) : ∀ j u, (lcells [l])[j]? = some u → (w.alloc (.cells #[.int .i64 l.k, .string l.le, .string l.na, .string l.se, .string l.va, .string l.ta] t)).cell? ((⟨w.heap.size, 0, none⟩ : Addr).add j) = some u := fun j u hj =>
  World.news_of_block (heap_alloc_new w _) j u (by simpa [lcells, lcell] using hj)
theorem OwnL.free {w : World} {base g n c : Nat} {K : List Ln} (h : OwnL w base (.slice (some ⟨g, 0, none⟩) n c) K) (j : Nat) : w.frozen? ⟨g, j, none⟩ = false := by
  rcases h.2 with ⟨h1, _⟩ | ⟨g', cap, cur, h1, _, h2, _⟩
  · cases h1
  · injection h1 with h1 _ _
    injection h1 with h1
    injection h1 with h1
    subst h1
    exact frozen_of_row w g j _ _ h2
theorem OwnL.atg {w : World} {base g n c : Nat} {K : List Ln} (h : OwnL w base (.slice (some ⟨g, 0, none⟩) n c) K) (hn : K.length = n) : ∀ i (hi : i < K.length), LnAt w g (i * 6) K[i] := fun i hi => by
  subst hn
  obtain ⟨b, o, e, _, hc⟩ := OwnL.at h (by omega)
  injection e with e
  injection e with e1 e2
  subst e1
  subst e2
  have := hc i hi
  rwa [Nat.zero_add] at this
end Go.Proofs.Ytdedidcjbocicaa
