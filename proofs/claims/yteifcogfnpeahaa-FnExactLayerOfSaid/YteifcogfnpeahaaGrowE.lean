/-
  Rows of entries that a call makes by append: the row of nothing, one more entry, what a call that returns a layer hands over. Condition: at most 1048576 entries.
-/
import Derived.Test.YteifcogfnpeahaaMarkE
import Derived.Test.YteifcogfnpeahaaGrow
import Derived.Deep.AppendLies
namespace Go.Proofs.Yteifcogfnpeahaa
open Go.RowKit

/-- an entry of nothing -/
def Ent.zero : Ent := ⟨⟨#[]⟩, ⟨#[]⟩, 0, ⟨#[]⟩⟩
theorem infoEntry : (Try.prog.info? 102).map (fun i => (i.zero, i.size, i.bytes)) = some (some Ent.zero.agg, 4, 56) := by kernel_rfl
theorem OwnE.nil (w : World) (base : Nat) : OwnE w base (.slice none 0 0) [] := World.ownsRow_nil _ _ _ _
theorem OwnE.empty (w : World) (base : Nat) (hb : base ≤ w.heap.size) : OwnE (w.alloc (.cells #[] 102)) base (.slice (some ⟨w.heap.size, 0, none⟩) 0 0) [] :=
  World.ownsRow_lit w #[] 0 hb (Nat.zero_le _) rfl
theorem OwnE.less {w : World} {base base' : Nat} {v : Value} {xs : List Ent} (h : OwnE w base v xs) (hb : base' ≤ base) : OwnE w base' v xs := by
  refine ⟨h.1, ?_⟩
  rcases h.2 with h2 | ⟨g, cap, cur, hv, hg, hr⟩
  · exact .inl h2
  · exact .inr ⟨g, cap, cur, hv, by omega, hr⟩
theorem OwnE.far {a b : World} {base : Nat} {v : Value} {xs : List Ent} {row : Option Nat} (h : OwnE a base v xs) (hg : a.grownBy b row) (hne : ∀ k, v.ownBlock = some k → row ≠ some k) : OwnE b base v xs := by
  refine World.ownsRow.kept h hg ?_
  rcases hb : v.ownBlock with _ | k
  · exact .inl rfl
  · exact .inr (fun e => hne k hb e.symm)
theorem OwnQ.far {a b : World} {base n : Nat} {v : Value} {xs : List Value} {row : Option Nat} (h : OwnQ a base v n xs) (hg : a.grownBy b row) (hne : ∀ k, v.ownBlock = some k → row ≠ some k) : OwnQ b base v n xs := by
  refine World.ownsRow.kept h hg ?_
  rcases hb : v.ownBlock with _ | k
  · exact .inl rfl
  · exact .inr (fun e => hne k hb e.symm)
theorem OwnE.form3 {w : World} {base : Nat} {v : Value} {es : List Ent} (h : OwnE w base v es) : ∃ A n c, v = .slice A n c := by
  obtain ⟨A, c, rfl, _⟩ := OwnE.form h
  exact ⟨A, _, c, rfl⟩
theorem OwnE.lt {w : World} {base : Nat} {v : Value} {es : List Ent} (h : OwnE w base v es) : ∀ k, v.ownBlock = some k → base ≤ k ∧ k < w.heap.size := World.ownsRow.lt h
theorem OwnE.row {w : World} {base : Nat} {v : Value} {es : List Ent} (h : OwnE w base v es) : OwnQ w base v es.length (ecells es) := h
theorem OwnE.setFar {w : World} {base : Nat} {v : Value} {K : List Ent} (h : OwnE w base v K) {p i : Nat} (hp : v.ownBlock ≠ some p) (u : Value) : OwnE (w.setCell ⟨p, i, none⟩ u) base v K :=
  OwnE.far h (row := some p) (gb_set (World.grownBy.refl _ _) i u) (fun k hk e => by
    injection e with e
    subst e
    exact hp hk)
theorem OwnE.setOther {w : World} {base : Nat} {v : Value} {K : List Ent} (h : OwnE w base v K) {p i : Nat} (hp : p < base) (u : Value) : OwnE (w.setCell ⟨p, i, none⟩ u) base v K :=
  OwnE.setFar h (fun e => by have := (h.lt _ e).1; omega) u
/-- a call's end: it returns a layer in a row of the call's own -/
def ResE (es : List Ent) (w : World) (e : Ending) (w' : World) : Prop := ∃ v, e = .returned (.agg #[v]) ∧ OwnE w' w.heap.size v es ∧ Grows w w'
/-- a call's end: it returns a layer in a row of the call's own, and a Bool -/
def ResEB (es : List Ent) (b : Bool) (w : World) (e : Ending) (w' : World) : Prop := ∃ v, e = .returned (.tuple #[.agg #[v], .bool b]) ∧ OwnE w' w.heap.size v es ∧ Grows w w'
theorem ecells_append (a b : List Ent) : ecells (a ++ b) = ecells a ++ ecells b := by
  induction a with
  | nil => rfl
  | cons y a ih => simp [ecells, ih, List.append_assoc]
theorem ecells_one (es : List Ent) : ∀ u ∈ ecells es, u.oneCell' = true := by
  induction es with
  | nil => intro u hu; simp [ecells] at hu
  | cons e es ih =>
    intro u hu
    rw [ecells, List.mem_append] at hu
    rcases hu with h | h
    · simp [ecell] at h
      rcases h with rfl | rfl | rfl | rfl <;> rfl
    · exact ih u h
/-- one more entry, or several: append to a row of the call's own -/
theorem appEs {w : World} {ops : Array Oper} {rest : List Oper} {o : Oper} {a : Act} {Q : Exit → Act → World → Prop} (hgd : o.guard = none) (s x : Operand)
    (ho : o.op = .call { callee := .builtin .append, args := #[s, x], argTypes := #[63, 63] })
    (base : Nat) (v : Value) (K : List Ent) (hs : a.eval s = v) (hown : OwnE w base v K) (ad : Addr) (m c : Nat) (ns : List Ent) (hx : a.eval x = .slice (some ad) m c) (hm : ns.length = m) (hm0 : 0 < m)
    (hnews : ∀ j u, (ecells ns)[j]? = some u → w.cell? (ad.add j) = some u) (hK : K.length ≤ 4194304) (hm2 : m ≤ 1048576) (hbase : base ≤ w.heap.size)
    (h : ∀ v' w', Hid (OwnE w' base v' (K ++ ns)) → Hid (w.grownBy w' v.ownBlock) → Hid (Near v v' w) → wpList Try.prog ops Q rest (a.put o.dst v') w') : wpList Try.prog ops Q (o :: rest) a w := by
  obtain ⟨i0, hi, hz0, hz1, hz2⟩ := info_parts infoEntry
  refine wpList_append_lies _ hgd s x 63 ho base 102 i0 Ent.zero.agg 4 56 Try.underlying63 hi hz0 hz1 hz2 rfl (by decide) v K.length (ecells K) hs hown ad m c (ecells ns) hx (by rw [ecells_length, hm]) hnews (ecells_one ns) hm0 (by unfold maxLen; omega) (by omega) hbase _ rfl ?_
  intro g cap w' h1 h2 h3 _
  refine h _ w' ?_ h2 (near_of h3)
  unfold Hid OwnE
  rw [List.length_append, ecells_append, hm]
  exact h1
theorem one_newsE (w : World) (e : Ent) (t : TypeId) {p : Nat} (hp : w.heap.size = p) : ∀ j u, (ecells [e])[j]? = some u → (w.alloc (.cells #[.string e.s, .string e.k, .int .i64 e.op, .string e.v] t)).cell? ((⟨p, 0, none⟩ : Addr).add j) = some u := fun j u hj => by
  subst hp
  exact World.news_of_block (heap_alloc_new w _) j u (by simpa [ecells, ecell] using hj)
end Go.Proofs.Yteifcogfnpeahaa
