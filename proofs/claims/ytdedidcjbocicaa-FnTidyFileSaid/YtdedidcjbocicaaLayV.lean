/-
  Layers as plain lists of entries: what a valid one is; maps of entries by their places, as data. No program but for the key's type.
-/
import Derived.Test.YtdedidcjbocicaaEntSame
import Derived.Test.YtdedidcjbocicaaPlc
import Derived.Maps.OwnSet
import Derived.DeepKeys4
namespace Go.Proofs.Ytdedidcjbocicaa
open Go.RowKit

theorem snocInd {α : Type} {P : List α → Prop} (h0 : P []) (h1 : ∀ l a, P l → P (l ++ [a])) : ∀ l, P l := by
  have h : ∀ n (l : List α), l.length = n → P l := by
    intro n
    induction n with
    | zero => intro l hl; rw [List.eq_nil_of_length_eq_zero hl]; exact h0
    | succ n ih =>
      intro l hl
      have hne : l ≠ [] := by intro e; rw [e] at hl; simp at hl
      rw [← List.dropLast_concat_getLast hne]
      exact h1 _ _ (ih _ (by simp [hl]))
  exact fun l => h _ l rfl

/-! ### what is valid -/
def opB (op : Int) : Bool := decide (0 ≤ op) && decide (op ≤ 2)
def vent (e : Ent) : Bool := vplace e.s e.k && (opB e.op && (vvalue e.v && (!decide (e.op = 1) || (e.v.toList == []))))
/-- no entry of the list has this place -/
def freshE (es : List Ent) (e : Ent) : Bool := es.all fun x => !(x.of e.s e.k)
def distE : List Ent → Bool
  | [] => true
  | e :: t => (t.all fun x => !(e.of x.s x.k)) && distE t
def okE (l : List Ent) : Bool := l.all vent && distE l
def vlayer (es : List Ent) : Bool := okE es && decide (es.length ≤ 20)
theorem distE_snoc (l : List Ent) (a : Ent) : distE (l ++ [a]) = (distE l && freshE l a) := by
  induction l with
  | nil => rfl
  | cons e l ih =>
    simp only [List.cons_append, distE, List.all_append, List.all_cons, List.all_nil, Bool.and_true, ih, freshE]
    ac_rfl
theorem okE_snoc (l : List Ent) (a : Ent) : okE (l ++ [a]) = (okE l && (vent a && freshE l a)) := by
  unfold okE
  rw [distE_snoc, List.all_append]
  simp only [List.all_cons, List.all_nil, Bool.and_true]
  ac_rfl
theorem okE_append (l m : List Ent) (h : okE (l ++ m) = true) : okE l = true := by
  revert h
  refine snocInd (P := fun m => okE (l ++ m) = true → okE l = true) ?_ ?_ m
  · intro h; simpa using h
  · intro m a ih h
    rw [← List.append_assoc, okE_snoc, Bool.and_eq_true] at h
    exact ih h.1
theorem okE_take_not {es : List Ent} {k : Nat} (h : okE (es.take k) = false) : okE es = false := by
  rw [← Bool.not_eq_true] at h ⊢
  intro h2
  exact h (okE_append _ (es.drop k) (by rw [List.take_append_drop]; exact h2))
theorem okE_step {es : List Ent} {k : Nat} (hk : k < es.length) : okE (es.take (k + 1)) = (okE (es.take k) && (vent es[k] && freshE (es.take k) es[k])) := by
  rw [List.take_succ_eq_append_getElem hk, okE_snoc]
theorem all_step {α : Type} {p : α → Bool} {es : List α} {k : Nat} (hk : k < es.length) : (es.take (k + 1)).all p = ((es.take k).all p && p es[k]) := by
  rw [List.take_succ_eq_append_getElem hk, List.all_append]; simp
theorem all_take_not {α : Type} {p : α → Bool} {es : List α} {k : Nat} (h : (es.take k).all p = false) : es.all p = false := by
  rw [← Bool.not_eq_true] at h ⊢
  intro h2
  rw [List.all_eq_true] at h h2
  exact h (fun x hx => h2 x (List.mem_of_mem_take hx))
theorem any_fresh (es : List Ent) (e : Ent) : freshE es e = !(es.any (fun x => x.of e.s e.k)) := by
  unfold freshE
  rw [List.not_any_eq_all_not]

/-! ### the place of an entry -/
theorem noneE_all {es : List Ent} {s k : ByteArray} (h : es.any (fun x => x.of s k) = false) : NoneE es s k es.length := by
  intro i hi _
  rw [← Bool.not_eq_true, List.any_eq_true] at h
  rw [← Bool.not_eq_true]
  exact fun h2 => h ⟨_, List.getElem_mem hi, h2⟩
theorem entIdx_none {es : List Ent} {s k : ByteArray} (h : es.any (fun x => x.of s k) = false) : entIdx es s k = -1 := entFrom_none s k es 0 (noneE_all h)
theorem entIdx_some {s k : ByteArray} : ∀ (es : List Ent) (i : Nat) (e : Ent), es.find? (fun x => x.of s k) = some e → ∃ j, ∃ h : j < es.length, entFrom s k es i = ((i + j : Nat) : Int) ∧ es[j] = e := by
  intro es
  induction es with
  | nil => intro i e h; simp at h
  | cons x es ih =>
    intro i e h
    rw [List.find?_cons] at h
    unfold entFrom
    by_cases hx : x.of s k = true
    · rw [hx] at h
      simp at h
      exact ⟨0, by simp, by rw [if_pos hx]; simp, by simpa using h⟩
    · rw [Bool.not_eq_true] at hx
      rw [hx] at h
      obtain ⟨j, hj, h1, h2⟩ := ih (i + 1) e h
      refine ⟨j + 1, by simpa using hj, ?_, by simpa using h2⟩
      rw [if_neg (by rw [hx]; simp), h1]
      omega

/-! ### keys of maps -/
def pk (s k : ByteArray) : Lit := .string (keyBytes [.string s.data.toList, .string k.data.toList])
def pkey (s k : ByteArray) : Value := .agg #[.string s, .string k]
theorem laidOutP : laidOutB Try.prog = true := by kernel_rfl
theorem keyOf_two {P : Program} {t u : TypeId} {n0 n1 : String} {e0 e1 : Bool} {g0 g1 p0 p1 : String} {b0 b1 : Nat} (hu : P.underlying t = some (.struct #[⟨n0, u, 0, e0, g0, p0, b0⟩, ⟨n1, u, 1, e1, g1, p1, b1⟩])) (h0 : n0 ≠ "_") (h1 : n1 ≠ "_")
    (hst : P.underlying u = some .string) (hc : P.cellsOf t = 2) (hcu : P.cellsOf u = 1) (hk : P.keyType t = true) {n : Nat} (hn : P.types.size = n + 1) (s k : ByteArray) (hs' : s.size ≤ maxLen) (hk' : k.size ≤ maxLen) :
    keyOf P t (pkey s k) = some (pk s k) := by
  unfold keyOf
  rw [hu]
  simp only [hk, Value.formed, hu, pkey, hc]
  simp [Program.keyLits, hu, hst, hc, hcu, hn, Value.cells, pk, hs', hk', h0, h1]
theorem typesPos : decide (0 < Try.prog.types.size) = true := by kernel_rfl
theorem pk_key (s k : ByteArray) : WideAt.IsKeyLit (pk s k) := trivial
def Ent.fit (l : Ent) : Prop := l.s.size ≤ 1048576 ∧ l.k.size ≤ 1048576
def entD (e : Ent) : DataW Unit := .agg [.lit (.string e.s.data.toList), .lit (.string e.k.data.toList), .lit (.int .i64 e.op), .lit (.string e.v.data.toList)]
def entR : Value → Option (DataW Unit × List MemPlace)
  | .agg ⟨[.string s, .string k, .int .i64 op, .string v]⟩ => some (entD ⟨s, k, op, v⟩, [])
  | _ => none
theorem entR_mk (e : Ent) : entR e.agg = some (entD e, []) := rfl
theorem data_inj {a b : ByteArray} (h : a.data.toList = b.data.toList) : a = b := by
  cases a; cases b
  congr 1
  exact Array.toList_inj.1 h
theorem entD_inj {a b : Ent} (h : entD a = entD b) : a = b := by
  unfold entD at h
  simp only [DataW.agg.injEq, List.cons.injEq, DataW.lit.injEq, Lit.string.injEq, Lit.int.injEq, and_true, true_and] at h
  obtain ⟨h1, h2, h3, h4⟩ := h
  cases a; cases b
  simp only [Ent.mk.injEq]
  exact ⟨data_inj h1, data_inj h2, h3, data_inj h4⟩
theorem entR_inv {v : Value} {z : DataW Unit × List MemPlace} (h : entR v = some z) : ∃ e : Ent, v = e.agg ∧ z = (entD e, []) := by
  unfold entR at h
  split at h
  · rename_i s k op v'
    exact ⟨⟨s, k, op, v'⟩, rfl, (Option.some.inj h).symm⟩
  · cases h
def mapOf (es : List Ent) : DataW Unit := es.foldl (fun D e => D.put (pk e.s e.k) (entD e)) (.map [])
theorem mapOf_snoc (es : List Ent) (e : Ent) : mapOf (es ++ [e]) = (mapOf es).put (pk e.s e.k) (entD e) := by simp [mapOf, List.foldl_append]
theorem mapOf_tidy (es : List Ent) : Maps.Tidy (mapOf es) := by
  refine snocInd (P := fun es => Maps.Tidy (mapOf es)) Maps.tidy_empty ?_ es
  intro l a h
  rw [mapOf_snoc]
  exact h.put (pk_key _ _) _
theorem mapOf_isMap (es : List Ent) : Maps.IsMap (mapOf es) := (mapOf_tidy es).isMap
/-- the last entry of this place -/
def lastE (es : List Ent) (s k : ByteArray) : Option Ent := es.reverse.find? fun x => x.of s k
theorem lastE_snoc (l : List Ent) (a : Ent) (s k : ByteArray) : lastE (l ++ [a]) s k = if a.of s k then some a else lastE l s k := by
  unfold lastE
  rw [List.reverse_append, List.reverse_singleton, List.singleton_append, List.find?_cons]
  split <;> simp_all
theorem lastE_isSome (es : List Ent) (s k : ByteArray) : (lastE es s k).isSome = es.any (fun x => x.of s k) := by
  unfold lastE
  rw [Bool.eq_iff_iff, List.find?_isSome, List.any_eq_true]
  simp
theorem mapOf_size_le (es : List Ent) : Maps.size (mapOf es) ≤ es.length := by
  refine snocInd (P := fun es => Maps.size (mapOf es) ≤ es.length) (Nat.le_refl _) ?_ es
  intro l a ih
  rw [mapOf_snoc, Maps.size_put (mapOf_tidy l)]
  simp
  split <;> omega
end Go.Proofs.Ytdedidcjbocicaa
