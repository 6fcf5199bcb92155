/-
  Places of keys: what a section and a key are, for the specification and for the program. Conditions: at most 1048576 bytes.
  Layers as plain lists of entries: what a valid one is; maps of entries by their places, as data. No program but for the key's type.
  The layer of a valid file is valid; when lists of entries are the same. No program; condition: the file is valid.
  Plain facts on tidy files: they tell the same, are valid, have the same sections and keys, are their own, and have no more lines. No program; condition: the file is valid.
  What the functions on layers make of valid layers: sections, cuts, what is common, as plain functions of lists. No program.
-/
import Derived.Test.YtkjoolmhcfajnaaDoorStr
import Derived.Test.YtkjoolmhcfajnaaDoorMem
import Derived.Test.YtkjoolmhcfajnaaDoorMeanP
import Derived.Maps.OwnSet
import Derived.DeepKeys4
import Derived.Test.YtkjoolmhcfajnaaDoorQP
namespace Go.Proofs.YtkjoolmhcfajnaaDoor
open Go.RowKit

/-- what a section is -/
def vsec (s : ByteArray) : Bool := (s.toList == []) || vname s
def vplace (s k : ByteArray) : Bool := vsec s && vname k
theorem vsec_nil {s : ByteArray} (h : s.toList = []) : vsec s = true := by simp [vsec, h]
theorem vsec_ne {s : ByteArray} (h : ¬ s.toList = []) : vsec s = vname s := by simp [vsec, h]

set_option maxHeartbeats 1000000 in
theorem specPlace_any (s k : ByteArray) (w : World) (hs : s.size ≤ 1048576) (hk : k.size ≤ 1048576) :
    Calls Tryd.prog 33 #[.string s, .string k] w fun e w' => e = .returned (.bool (vplace s k)) ∧ w = w' := by
  have HS := Lib.hid (fun w => specName_any s w hs)
  have HK := Lib.hid (fun w => specName_any k w hk)
  by_cases hl : s.toList = []
  · have hl2 : s.toList.isEmpty = true := by simp [hl]
    have HV : Hid (vplace s k = vname k) := by unfold Hid vplace; rw [vsec_nil hl]; rfl
    go_enter Tryd.func33, Tryd.ntmps33
    go_wp2_with (go_at_call 46; refine (HK.out _).mono ?_; rintro e w' ⟨rfl, rfl⟩)
    go_ret
    exact ⟨ret_bool HV.out.symm, rfl⟩
  · have hl2 : s.toList.isEmpty = false := by simp [hl]
    have HV : Hid (vplace s k = (vname s && vname k)) := by unfold Hid vplace; rw [vsec_ne hl]
    by_cases hv : vname s = true
    · rw [hv] at HS HV
      clear hv
      go_enter Tryd.func33, Tryd.ntmps33
      go_wp2_with fail
      refine (HS.out _).mono ?_
      rintro e w' ⟨rfl, rfl⟩
      go_wp2_with fail
      refine (HK.out _).mono ?_
      rintro e w' ⟨rfl, rfl⟩
      go_wp2
      go_ret
      exact ⟨ret_bool HV.out.symm, rfl⟩
    · have hv' : vname s = false := by simpa using hv
      rw [hv'] at HS HV
      clear hv hv'
      go_enter Tryd.func33, Tryd.ntmps33
      go_wp2_with fail
      refine (HS.out _).mono ?_
      rintro e w' ⟨rfl, rfl⟩
      go_wp2
      go_ret
      exact ⟨ret_bool HV.out.symm, rfl⟩

set_option maxHeartbeats 1000000 in
theorem implSec_any (s : ByteArray) (w : World) (hs : s.size ≤ 1048576) :
    Calls Tryd.prog 56 #[.string s] w fun e w' => e = .returned (.bool (vsec s)) ∧ Grows w w' := by
  have HS := Lib.hid (fun w => implName_any s w hs)
  by_cases hl : s.toList = []
  · have hl2 : s.toList.isEmpty = true := by simp [hl]
    have HV : Hid (vsec s = true) := vsec_nil hl
    go_enter Tryd.func56, Tryd.ntmps56
    go_wp2
    go_ret
    exact ⟨ret_bool HV.out.symm, Grows.refl _⟩
  · have hl2 : s.toList.isEmpty = false := by simp [hl]
    have HV : Hid (vsec s = vname s) := vsec_ne hl
    go_enter Tryd.func56, Tryd.ntmps56
    go_wp2_with fail
    refine (HS.out _).mono ?_
    rintro e w1 ⟨rfl, g1⟩
    go_wp2
    go_ret
    exact ⟨ret_bool HV.out.symm, g1⟩

set_option maxHeartbeats 1000000 in
theorem implPlace_any (s k : ByteArray) (w : World) (hs : s.size ≤ 1048576) (hk : k.size ≤ 1048576) :
    Calls Tryd.prog 48 #[.agg #[.string s, .string k]] w fun e w' => e = .returned (.bool (vplace s k)) ∧ Grows w w' := by
  have HS := Lib.hid (fun w => implSec_any s w hs)
  have HK := Lib.hid (fun w => implName_any k w hk)
  have HV : Hid (vplace s k = (vsec s && vname k)) := rfl
  by_cases hv : vsec s = true
  · rw [hv] at HS HV
    clear hv
    go_enter Tryd.func48, Tryd.ntmps48
    go_wp2_with fail
    refine (HS.out _).mono ?_
    rintro e w1 ⟨rfl, g1⟩
    have G1 : Hid (Grows (w.alloc (.cells #[.string s, .string k] 47)) w1) := g1
    have c1 : w1.cell? ⟨w.heap.size, 1, none⟩ = some (.string k) := (g1.cell (p := ⟨w.heap.size, 1, none⟩) (by simp)).trans (by simp)
    clear g1
    go_wp2_with fail
    refine (HK.out _).mono ?_
    rintro e w2 ⟨rfl, g2⟩
    go_wp2
    go_ret
    exact ⟨ret_bool HV.out.symm, ((Grows.refl _).alloc _).trans (G1.out.trans g2)⟩
  · have hv' : vsec s = false := by simpa using hv
    rw [hv'] at HS HV
    clear hv hv'
    go_enter Tryd.func48, Tryd.ntmps48
    go_wp2_with fail
    refine (HS.out _).mono ?_
    rintro e w1 ⟨rfl, g1⟩
    go_wp2
    go_ret
    exact ⟨ret_bool HV.out.symm, ((Grows.refl _).alloc _).trans g1⟩

end Go.Proofs.YtkjoolmhcfajnaaDoor
namespace Go.Proofs.YtkjoolmhcfajnaaDoor
open Go.RowKit

theorem snocInd {α : Type} {P : List α → Prop} (h0 : P []) (h1 : ∀ l a, P l → P (l ++ [a])) : ∀ l, P l := by
  have h : ∀ n (l : List α), l.length = n → P l := by
    intro n
    induction n with
    | zero => intro l hl; rw [List.eq_nil_of_length_eq_zero hl]; exact h0
    | succ n ih =>
      intro l hl
      have hne : l ≠ [] := by intro e; rw [e] at hl; simp at hl
      rw [← List.dropLast_concat_getLast hne]
      exact h1 _ _ (ih _ (by simp [hl]))
  exact fun l => h _ l rfl

/-! ### what is valid -/
def opB (op : Int) : Bool := decide (0 ≤ op) && decide (op ≤ 2)
def vent (e : Ent) : Bool := vplace e.s e.k && (opB e.op && (vvalue e.v && (!decide (e.op = 1) || (e.v.toList == []))))
/-- no entry of the list has this place -/
def freshE (es : List Ent) (e : Ent) : Bool := es.all fun x => !(x.of e.s e.k)
def distE : List Ent → Bool
  | [] => true
  | e :: t => (t.all fun x => !(e.of x.s x.k)) && distE t
def okE (l : List Ent) : Bool := l.all vent && distE l
def vlayer (es : List Ent) : Bool := okE es && decide (es.length ≤ 20)
theorem distE_snoc (l : List Ent) (a : Ent) : distE (l ++ [a]) = (distE l && freshE l a) := by
  induction l with
  | nil => rfl
  | cons e l ih =>
    simp only [List.cons_append, distE, List.all_append, List.all_cons, List.all_nil, Bool.and_true, ih, freshE]
    ac_rfl
theorem okE_snoc (l : List Ent) (a : Ent) : okE (l ++ [a]) = (okE l && (vent a && freshE l a)) := by
  unfold okE
  rw [distE_snoc, List.all_append]
  simp only [List.all_cons, List.all_nil, Bool.and_true]
  ac_rfl
theorem okE_append (l m : List Ent) (h : okE (l ++ m) = true) : okE l = true := by
  revert h
  refine snocInd (P := fun m => okE (l ++ m) = true → okE l = true) ?_ ?_ m
  · intro h; simpa using h
  · intro m a ih h
    rw [← List.append_assoc, okE_snoc, Bool.and_eq_true] at h
    exact ih h.1
theorem okE_take_not {es : List Ent} {k : Nat} (h : okE (es.take k) = false) : okE es = false := by
  rw [← Bool.not_eq_true] at h ⊢
  intro h2
  exact h (okE_append _ (es.drop k) (by rw [List.take_append_drop]; exact h2))
theorem okE_step {es : List Ent} {k : Nat} (hk : k < es.length) : okE (es.take (k + 1)) = (okE (es.take k) && (vent es[k] && freshE (es.take k) es[k])) := by
  rw [List.take_succ_eq_append_getElem hk, okE_snoc]
theorem all_step {α : Type} {p : α → Bool} {es : List α} {k : Nat} (hk : k < es.length) : (es.take (k + 1)).all p = ((es.take k).all p && p es[k]) := by
  rw [List.take_succ_eq_append_getElem hk, List.all_append]; simp
theorem all_take_not {α : Type} {p : α → Bool} {es : List α} {k : Nat} (h : (es.take k).all p = false) : es.all p = false := by
  rw [← Bool.not_eq_true] at h ⊢
  intro h2
  rw [List.all_eq_true] at h h2
  exact h (fun x hx => h2 x (List.mem_of_mem_take hx))
theorem any_fresh (es : List Ent) (e : Ent) : freshE es e = !(es.any (fun x => x.of e.s e.k)) := by
  unfold freshE
  rw [List.not_any_eq_all_not]

/-! ### the place of an entry -/
theorem noneE_all {es : List Ent} {s k : ByteArray} (h : es.any (fun x => x.of s k) = false) : NoneE es s k es.length := by
  intro i hi _
  rw [← Bool.not_eq_true, List.any_eq_true] at h
  rw [← Bool.not_eq_true]
  exact fun h2 => h ⟨_, List.getElem_mem hi, h2⟩
theorem entIdx_none {es : List Ent} {s k : ByteArray} (h : es.any (fun x => x.of s k) = false) : entIdx es s k = -1 := entFrom_none s k es 0 (noneE_all h)
theorem entIdx_some {s k : ByteArray} : ∀ (es : List Ent) (i : Nat) (e : Ent), es.find? (fun x => x.of s k) = some e → ∃ j, ∃ h : j < es.length, entFrom s k es i = ((i + j : Nat) : Int) ∧ es[j] = e := by
  intro es
  induction es with
  | nil => intro i e h; simp at h
  | cons x es ih =>
    intro i e h
    rw [List.find?_cons] at h
    unfold entFrom
    by_cases hx : x.of s k = true
    · rw [hx] at h
      simp at h
      exact ⟨0, by simp, by rw [if_pos hx]; simp, by simpa using h⟩
    · rw [Bool.not_eq_true] at hx
      rw [hx] at h
      obtain ⟨j, hj, h1, h2⟩ := ih (i + 1) e h
      refine ⟨j + 1, by simpa using hj, ?_, by simpa using h2⟩
      rw [if_neg (by rw [hx]; simp), h1]
      omega

/-! ### keys of maps -/
def pk (s k : ByteArray) : Lit := .string (keyBytes [.string s.data.toList, .string k.data.toList])
def pkey (s k : ByteArray) : Value := .agg #[.string s, .string k]
theorem laidOutP : laidOutB Tryd.prog = true := by kernel_rfl
theorem keyOf_two {P : Program} {t u : TypeId} {n0 n1 : String} {e0 e1 : Bool} {g0 g1 p0 p1 : String} {b0 b1 : Nat} (hu : P.underlying t = some (.struct #[⟨n0, u, 0, e0, g0, p0, b0⟩, ⟨n1, u, 1, e1, g1, p1, b1⟩])) (h0 : n0 ≠ "_") (h1 : n1 ≠ "_")
    (hst : P.underlying u = some .string) (hc : P.cellsOf t = 2) (hcu : P.cellsOf u = 1) (hk : P.keyType t = true) {n : Nat} (hn : P.types.size = n + 1) (s k : ByteArray) (hs' : s.size ≤ maxLen) (hk' : k.size ≤ maxLen) :
    keyOf P t (pkey s k) = some (pk s k) := by
  unfold keyOf
  rw [hu]
  simp only [hk, Value.formed, hu, pkey, hc]
  simp [Program.keyLits, hu, hst, hc, hcu, hn, Value.cells, pk, hs', hk', h0, h1]
theorem typesPos : decide (0 < Tryd.prog.types.size) = true := by kernel_rfl
theorem keyOf_place (s k : ByteArray) (hs : s.size ≤ 1048576) (hk : k.size ≤ 1048576) : keyOf Tryd.prog 47 (pkey s k) = some (pk s k) :=
  keyOf_two (n := Tryd.prog.types.size - 1) Tryd.underlying47 (by decide) (by decide) Tryd.underlying9 (by kernel_rfl) (by kernel_rfl) (by kernel_rfl)
    (by have := of_decide_eq_true typesPos; omega) s k (by unfold maxLen; omega) (by unfold maxLen; omega)
theorem wideP : (match Tryd.prog.underlying 47 with | some (.array _ _) | some (.struct _) => true | _ => false) = true := by kernel_rfl
theorem rowP : 47 < Tryd.prog.types.size := of_decide_eq_true (by kernel_rfl)
theorem keyTP : Tryd.prog.keyTypeAt 3 47 = true := by kernel_rfl
set_option maxRecDepth 100000 in
theorem placeLaw : Maps.Keyed Tryd.prog 47 := Maps.Keyed.of_law (deep_law_laid laidOutP (m := 3) (by decide) rowP keyTP wideP)
theorem pk_key (s k : ByteArray) : WideAt.IsKeyLit (pk s k) := trivial
theorem pk_inj {s k s' k' : ByteArray} (hs : s.size ≤ 1048576) (hk : k.size ≤ 1048576) (hs' : s'.size ≤ 1048576) (hk' : k'.size ≤ 1048576) (h : pk s k = pk s' k') : s = s' ∧ k = k' := by
  have h1 := keyOf_place s k hs hk
  have h2 := keyOf_place s' k' hs' hk'
  rw [h] at h1
  have h3 := placeLaw.inj h1 h2
  unfold pkey at h3
  simp at h3
  exact h3
theorem sameKey_pk {s k s' k' : ByteArray} (hs : s.size ≤ 1048576) (hk : k.size ≤ 1048576) (hs' : s'.size ≤ 1048576) (hk' : k'.size ≤ 1048576) :
    (pk s k).sameKey (pk s' k') = ((s.toList == s'.toList) && (k.toList == k'.toList)) := by
  by_cases h : s = s' ∧ k = k'
  · obtain ⟨rfl, rfl⟩ := h
    rw [WideAt.sameKey_self (pk_key _ _)]
    simp
  · have h1 : pk s k ≠ pk s' k' := fun e => h (pk_inj hs hk hs' hk' e)
    rw [Maps.sameKey_ne h1]
    symm
    rw [Bool.and_eq_false_iff, beq_eq_false_iff_ne, beq_eq_false_iff_ne]
    by_cases h2 : s = s'
    · right; intro e; exact h ⟨h2, toList_inj e⟩
    · left; intro e; exact h2 (toList_inj e)

/-! ### a map of entries, as data -/
def Ent.fit (l : Ent) : Prop := l.s.size ≤ 1048576 ∧ l.k.size ≤ 1048576
def entD (e : Ent) : DataW Unit := .agg [.lit (.string e.s.data.toList), .lit (.string e.k.data.toList), .lit (.int .i64 e.op), .lit (.string e.v.data.toList)]
def entR : Value → Option (DataW Unit × List MemPlace)
  | .agg ⟨[.string s, .string k, .int .i64 op, .string v]⟩ => some (entD ⟨s, k, op, v⟩, [])
  | _ => none
theorem entR_mk (e : Ent) : entR e.agg = some (entD e, []) := rfl
theorem data_inj {a b : ByteArray} (h : a.data.toList = b.data.toList) : a = b := by
  cases a; cases b
  congr 1
  exact Array.toList_inj.1 h
theorem entD_inj {a b : Ent} (h : entD a = entD b) : a = b := by
  unfold entD at h
  simp only [DataW.agg.injEq, List.cons.injEq, DataW.lit.injEq, Lit.string.injEq, Lit.int.injEq, and_true, true_and] at h
  obtain ⟨h1, h2, h3, h4⟩ := h
  cases a; cases b
  simp only [Ent.mk.injEq]
  exact ⟨data_inj h1, data_inj h2, h3, data_inj h4⟩
theorem entR_inv {v : Value} {z : DataW Unit × List MemPlace} (h : entR v = some z) : ∃ e : Ent, v = e.agg ∧ z = (entD e, []) := by
  unfold entR at h
  split at h
  · rename_i s k op v'
    exact ⟨⟨s, k, op, v'⟩, rfl, (Option.some.inj h).symm⟩
  · cases h
def mapOf (es : List Ent) : DataW Unit := es.foldl (fun D e => D.put (pk e.s e.k) (entD e)) (.map [])
theorem mapOf_snoc (es : List Ent) (e : Ent) : mapOf (es ++ [e]) = (mapOf es).put (pk e.s e.k) (entD e) := by simp [mapOf, List.foldl_append]
theorem mapOf_tidy (es : List Ent) : Maps.Tidy (mapOf es) := by
  refine snocInd (P := fun es => Maps.Tidy (mapOf es)) Maps.tidy_empty ?_ es
  intro l a h
  rw [mapOf_snoc]
  exact h.put (pk_key _ _) _
theorem mapOf_isMap (es : List Ent) : Maps.IsMap (mapOf es) := (mapOf_tidy es).isMap
theorem mapOf_has (es : List Ent) {s k : ByteArray} (hs : s.size ≤ 1048576) (hk : k.size ≤ 1048576) : (∀ e ∈ es, e.fit) → Maps.has (mapOf es) (pk s k) = es.any (fun x => x.of s k) := by
  refine snocInd (P := fun es => (∀ e ∈ es, e.fit) → Maps.has (mapOf es) (pk s k) = es.any (fun x => x.of s k)) (fun _ => rfl) ?_ es
  intro l a ih hf
  have ha := hf a (by simp)
  rw [mapOf_snoc, List.any_append, ← ih (fun e he => hf e (by simp [he]))]
  simp only [List.any_cons, List.any_nil, Bool.or_false]
  have hsk := sameKey_pk ha.1 ha.2 hs hk
  by_cases h : pk a.s a.k = pk s k
  · obtain ⟨h1, h2⟩ := pk_inj ha.1 ha.2 hs hk h
    have : a.of s k = true := by unfold Ent.of; rw [h1, h2]; simp
    rw [this, Bool.or_true, ← h]
    exact Maps.has_put_same (mapOf_isMap l) (pk_key _ _) _
  · rw [Maps.has_put_other (fun e => h e.symm)]
    rw [Maps.sameKey_ne h] at hsk
    have : a.of s k = false := by unfold Ent.of; exact hsk.symm
    rw [this, Bool.or_false]
/-- the last entry of this place -/
def lastE (es : List Ent) (s k : ByteArray) : Option Ent := es.reverse.find? fun x => x.of s k
theorem lastE_snoc (l : List Ent) (a : Ent) (s k : ByteArray) : lastE (l ++ [a]) s k = if a.of s k then some a else lastE l s k := by
  unfold lastE
  rw [List.reverse_append, List.reverse_singleton, List.singleton_append, List.find?_cons]
  split <;> simp_all
theorem mapOf_at (es : List Ent) {s k : ByteArray} (hs : s.size ≤ 1048576) (hk : k.size ≤ 1048576) (z : Ent) : (∀ e ∈ es, e.fit) → (mapOf es).atKey (pk s k) (entD z) = entD ((lastE es s k).getD z) := by
  refine snocInd (P := fun es => (∀ e ∈ es, e.fit) → (mapOf es).atKey (pk s k) (entD z) = entD ((lastE es s k).getD z)) (fun _ => rfl) ?_ es
  intro l a ih hf
  have ha := hf a (by simp)
  rw [mapOf_snoc, lastE_snoc]
  have hsk := sameKey_pk ha.1 ha.2 hs hk
  by_cases h : pk a.s a.k = pk s k
  · obtain ⟨h1, h2⟩ := pk_inj ha.1 ha.2 hs hk h
    have : a.of s k = true := by unfold Ent.of; rw [h1, h2]; simp
    rw [if_pos this, ← h]
    exact Maps.atKey_put_same (mapOf_isMap l) (pk_key _ _) _ _
  · rw [Maps.atKey_put_other (fun e => h e.symm)]
    rw [Maps.sameKey_ne h] at hsk
    have : a.of s k = false := by unfold Ent.of; exact hsk.symm
    rw [if_neg (by rw [this]; simp)]
    exact ih (fun e he => hf e (by simp [he]))
theorem lastE_isSome (es : List Ent) (s k : ByteArray) : (lastE es s k).isSome = es.any (fun x => x.of s k) := by
  unfold lastE
  rw [Bool.eq_iff_iff, List.find?_isSome, List.any_eq_true]
  simp
theorem mapOf_size_le (es : List Ent) : Maps.size (mapOf es) ≤ es.length := by
  refine snocInd (P := fun es => Maps.size (mapOf es) ≤ es.length) (Nat.le_refl _) ?_ es
  intro l a ih
  rw [mapOf_snoc, Maps.size_put (mapOf_tidy l)]
  simp
  split <;> omega
theorem mapOf_size (es : List Ent) : (∀ e ∈ es, e.fit) → (Maps.size (mapOf es) = es.length ↔ distE es = true) := by
  refine snocInd (P := fun es => (∀ e ∈ es, e.fit) → (Maps.size (mapOf es) = es.length ↔ distE es = true)) (fun _ => by simp [distE, mapOf, Maps.size]) ?_ es
  intro l a ih hf
  have ha := hf a (by simp)
  have ih := ih (fun e he => hf e (by simp [he]))
  rw [mapOf_snoc, Maps.size_put (mapOf_tidy l), mapOf_has l ha.1 ha.2 (fun e he => hf e (by simp [he])), distE_snoc, any_fresh, Bool.and_eq_true, ← ih]
  have hle := mapOf_size_le l
  cases h : l.any (fun x => x.of a.s a.k)
  · simp
  · simp; omega
end Go.Proofs.YtkjoolmhcfajnaaDoor
namespace Go.Proofs.YtkjoolmhcfajnaaDoor
open Go.RowKit

theorem filter_two {P Q : Nat → Bool} (h : ∀ x, P x = true → Q x = false) : ∀ l : List Nat, (l.filter P).length + (l.filter Q).length ≤ l.length := by
  intro l
  induction l with
  | nil => simp
  | cons x l ih =>
    rw [List.filter_cons, List.filter_cons]
    by_cases hp : P x = true
    · rw [if_pos hp, if_neg (by rw [h x hp]; simp)]
      simp; omega
    · rw [if_neg hp]
      split
      · simp; omega
      · simp; omega
def pairIs (ls : List Ln) : List Nat := (List.range ls.length).filter fun i => ls[i]!.k == 3
def headIs (ls : List Ln) : List Nat := (List.range ls.length).filter fun i => ls[i]!.k == 2
theorem count_two (ls : List Ln) : (pairIs ls).length + (headIs ls).length ≤ ls.length := by
  have := filter_two (P := fun i => ls[i]!.k == 3) (Q := fun i => ls[i]!.k == 2) (fun x h => by
    have h1 := eq_of_beq h
    rw [beq_eq_false_iff_ne, h1]
    decide) (List.range ls.length)
  rw [List.length_range] at this
  exact this
def pairKey (ls : List Ln) (i : Nat) : List UInt8 × List UInt8 := ((nowAt ls (i + 1)).toList, ls[i]!.na.toList)
theorem lay_pairs {ls : List Ln} (hv : vfile ls = true) : (layOf ls).length ≤ (pairIs ls).length := by
  have := len_le _ ((pairIs ls).map (pairKey ls)) (lay_keys ls) (fun x hx => by
    obtain ⟨e, he, rfl⟩ := List.mem_map.1 hx
    obtain ⟨h1, _⟩ := (lay_mem_get hv).1 he
    have hw : ¬ whereOf ls e.s e.k < 0 := by unfold getB at h1; simpa using h1
    obtain ⟨i, hi⟩ : ∃ i : Nat, whereOf ls e.s e.k = i := ⟨(whereOf ls e.s e.k).toNat, by omega⟩
    obtain ⟨h2, h3, _⟩ := where_pair hi
    unfold isPair isKey inSec at h3
    simp only [Bool.and_eq_true, beq_iff_eq] at h3
    refine List.mem_map.2 ⟨i, List.mem_filter.2 ⟨List.mem_range.2 h2, by rw [h3.1.1]; rfl⟩, ?_⟩
    unfold pairKey Ent.key
    rw [h3.2, h3.1.2])
  simpa using this
theorem lay_20 {ls : List Ln} (hv : vfile ls = true) : (layOf ls).length ≤ 20 := by
  have h1 := lay_pairs hv
  have h2 := count_two ls
  have h3 := vfile_20 hv
  omega
theorem distE_keys : ∀ es : List Ent, (es.map Ent.key).Nodup → distE es = true := by
  intro es
  induction es with
  | nil => intro _; rfl
  | cons e t ih =>
    intro h
    rw [List.map_cons, List.nodup_cons] at h
    unfold distE
    rw [Bool.and_eq_true, List.all_eq_true]
    refine ⟨fun x hx => ?_, ih h.2⟩
    rcases ho : e.of x.s x.k with _ | _
    · rfl
    · exfalso
      obtain ⟨h1, h2⟩ := (of_iff e x.s x.k).1 ho
      exact h.1 (List.mem_map.2 ⟨x, hx, by unfold Ent.key; rw [h1, h2]⟩)
theorem lay_vent {ls : List Ln} (hv : vfile ls = true) {e : Ent} (he : e ∈ layOf ls) : vent e = true := by
  obtain ⟨h1, h2⟩ := (lay_mem_get hv).1 he
  have hw : ¬ whereOf ls e.s e.k < 0 := by unfold getB at h1; simpa using h1
  obtain ⟨i, hi⟩ : ∃ i : Nat, whereOf ls e.s e.k = i := ⟨(whereOf ls e.s e.k).toNat, by omega⟩
  obtain ⟨h3, h4, _⟩ := where_pair hi
  have hl := where_line hi h3
  have hvl := vline_3p hl.1 (vfile_line hv i h3)
  have hg := (get_yes hi h3).1
  have hin : inSec ls e.s i = true := by unfold isPair at h4; rw [Bool.and_eq_true] at h4; exact h4.2
  have hs := sec_name hv h3 hin
  have hop : e.op = 0 := by rw [h2]; rfl
  have hva : e.v = getV ls e.s e.k := by rw [h2]; rfl
  unfold vent vplace vsec opB
  rw [hop, hva, hg, hvl.2, ← hl.2, hvl.1]
  have hs2 : (e.s.toList == [] || vname e.s) = true := by
    rw [Bool.or_eq_true] at hs ⊢
    rcases hs with h | h
    · left; simpa using h
    · right; exact h
  rw [hs2]
  simp
theorem lay_valid {ls : List Ln} (hv : vfile ls = true) : vlayer (layOf ls) = true := by
  unfold vlayer okE
  rw [Bool.and_eq_true, Bool.and_eq_true, List.all_eq_true, decide_eq_true_iff]
  exact ⟨⟨fun e he => lay_vent hv he, distE_keys _ (lay_keys ls)⟩, lay_20 hv⟩
/-- an entry that is there is found -/
theorem inE_mem {bs : List Ent} (hb : (bs.map Ent.key).Nodup) {e : Ent} (he : e ∈ bs) : inE bs e = true := by
  unfold inE entIdx
  rcases entFrom_spec e.s e.k bs 0 with ⟨q, hq, h1, h2⟩ | ⟨_, h2⟩
  · simp only [h1]
    rw [Nat.zero_add, Int.toNat_natCast, List.getElem?_eq_getElem hq]
    obtain ⟨h3, h4⟩ := (of_iff _ _ _).1 h2
    obtain ⟨j, hj, hje⟩ := List.getElem_of_mem he
    have hk : (bs.map Ent.key)[q]'(by simpa using hq) = (bs.map Ent.key)[j]'(by simpa using hj) := by
      simp only [List.getElem_map]
      unfold Ent.key
      rw [h3, h4, hje]
    have := (List.getElem_inj hb).1 hk
    subst this
    rw [hje]
    simp [same_iff]
  · have := h2 e he
    rw [(of_iff e e.s e.k).2 ⟨rfl, rfl⟩] at this
    cases this
theorem sameE_of {xs bs : List Ent} (hx : (xs.map Ent.key).Nodup) (hb : (bs.map Ent.key).Nodup) (h : ∀ e, e ∈ xs ↔ e ∈ bs) : sameE xs bs = true := by
  have h1 := len_le _ (bs.map Ent.key) hx (fun k hk => by
    obtain ⟨e, he, rfl⟩ := List.mem_map.1 hk
    exact List.mem_map.2 ⟨e, (h e).1 he, rfl⟩)
  have h2 := len_le _ (xs.map Ent.key) hb (fun k hk => by
    obtain ⟨e, he, rfl⟩ := List.mem_map.1 hk
    exact List.mem_map.2 ⟨e, (h e).2 he, rfl⟩)
  rw [List.length_map, List.length_map] at h1 h2
  unfold sameE
  rw [Bool.and_eq_true, decide_eq_true_iff, List.all_eq_true]
  exact ⟨by omega, fun e he => inE_mem hb ((h e).1 he)⟩
end Go.Proofs.YtkjoolmhcfajnaaDoor
namespace Go.Proofs.YtkjoolmhcfajnaaDoor
open Go.RowKit

/-! ### the lines of a tidy file with their sections -/
theorem tag_keys (ls : List Ln) (s : ByteArray) : ∀ ks : List ByteArray, tagF s (tkeys ls s ks) = ks.map (fun k => (s, pairL k (getV ls s k))) ∧ nowF s (tkeys ls s ks) = s := by
  intro ks
  induction ks with
  | nil => exact ⟨rfl, rfl⟩
  | cons k ks ih =>
    have h3 : ¬ (pairL k (getV ls s k)).k = 2 := by simp [pairL]
    have e : tkeys ls s (k :: ks) = pairL k (getV ls s k) :: tkeys ls s ks := rfl
    rw [e]
    refine ⟨?_, ?_⟩
    · rw [tagF, if_neg h3, ih.1]; rfl
    · unfold nowF
      rw [List.foldl_cons, if_neg h3]
      exact ih.2
def blk (ls : List Ln) (s : ByteArray) : List (ByteArray × Ln) := (thead s).map (fun l => (s, l)) ++ (keysOf' ls s).map (fun k => (s, pairL k (getV ls s k)))
theorem tag_sec (ls : List Ln) (now s : ByteArray) (h : s.toList.isEmpty = true → now = s) : tagF now (tsec ls s) = blk ls s ∧ nowF now (tsec ls s) = s := by
  have hk := tag_keys ls s (keysOf' ls s)
  unfold tsec blk thead
  by_cases he : s.toList.isEmpty = true
  · rw [if_pos he, h he]
    exact ⟨by simpa using hk.1, by simpa using hk.2⟩
  · rw [if_neg he]
    have h2 : (headL s).k = 2 := rfl
    have hn : (headL s).na = s := rfl
    refine ⟨?_, ?_⟩
    · rw [List.singleton_append, tagF, if_pos h2, hn, hk.1]; rfl
    · rw [List.singleton_append]
      unfold nowF
      rw [List.foldl_cons, if_pos h2, hn]
      exact hk.2
/-- but for the first one no section is without a name -/
def okSecs (now : ByteArray) : List ByteArray → Prop
  | [] => True
  | s :: t => (s.toList.isEmpty = true → now = s) ∧ ∀ x ∈ t, x.toList.isEmpty = false
theorem tag_secs (ls : List Ln) : ∀ (ss : List ByteArray) (now : ByteArray), okSecs now ss → tagF now (tsecs ls ss) = ss.flatMap (blk ls) := by
  intro ss
  induction ss with
  | nil => intro now _; rfl
  | cons s t ih =>
    intro now h
    have e : tsecs ls (s :: t) = tsec ls s ++ tsecs ls t := by simp [tsecs]
    have h1 := tag_sec ls now s h.1
    rw [e, tagF_append, h1.1, h1.2, ih s ?_, List.flatMap_cons]
    cases t with
    | nil => exact True.intro
    | cons y t =>
      refine ⟨fun hy => ?_, fun x hx => h.2 x (by simp [hx])⟩
      have := h.2 y (by simp)
      rw [this] at hy; cases hy
theorem vname_full {s : ByteArray} (h : vname s = true) : s.toList.isEmpty = false := by
  rcases Nat.eq_zero_or_pos s.size with h0 | h0
  · rw [vname_size (.inl h0)] at h; cases h
  · exact isEmpty_ne h0
theorem secs_ok (ls : List Ln) : okSecs ⟨#[]⟩ (secsOf' ls) := by
  have h := secs_names ls
  cases hs : secsOf' ls with
  | nil => exact True.intro
  | cons s t =>
    rw [hs] at h
    refine ⟨fun he => ?_, fun x hx => ?_⟩
    · rcases h 0 (by simp) with h1 | ⟨_, h1⟩
      · have h1' : vname s = true := h1
        rw [vname_full h1'] at he; cases he
      · exact h1.symm
    · obtain ⟨i, hi, rfl⟩ := List.getElem_of_mem hx
      rcases h (i + 1) (by simpa using hi) with h1 | ⟨h1, _⟩
      · exact vname_full h1
      · omega
theorem tag_tidy (ls : List Ln) : tagOf (tidyOf ls) = (secsOf' ls).flatMap (blk ls) := tag_secs ls _ _ (secs_ok ls)
theorem blk_hit {ls : List Ln} {s' s key : ByteArray} {p : ByteArray × Ln} (hp : p ∈ blk ls s') (h : hit s key p = true) : s' = s ∧ key ∈ keysOf' ls s ∧ p.2.va = getV ls s key := by
  unfold hit at h
  simp only [Bool.and_eq_true, beq_iff_eq] at h
  unfold blk at hp
  rcases List.mem_append.1 hp with hp | hp
  · obtain ⟨l, hl, rfl⟩ := List.mem_map.1 hp
    exfalso
    unfold thead at hl
    split at hl
    · cases hl
    · rw [List.mem_singleton] at hl
      subst hl
      have := h.1.1
      simp [headL] at this
  · obtain ⟨k, hk, rfl⟩ := List.mem_map.1 hp
    have h1 : s' = s := toList_inj h.2
    have h2 : k = key := toList_inj h.1.2
    subst h1; subst h2
    exact ⟨rfl, hk, rfl⟩
theorem look_val {s key x : ByteArray} : ∀ T : List (ByteArray × Ln), (∀ p ∈ T, hit s key p = true → p.2.va = x) → (∃ p ∈ T, hit s key p = true) → look T s key = some x := by
  intro T
  induction T with
  | nil => rintro _ ⟨p, hp, _⟩; cases hp
  | cons q T ih =>
    intro h1 h2
    rw [look_cons]
    by_cases hT : ∃ p ∈ T, hit s key p = true
    · rw [ih (fun p hp => h1 p (by simp [hp])) hT]
      rfl
    · have hn : look T s key = none := look_none fun p hp => by
        rcases hh : hit s key p with _ | _
        · rfl
        · exact absurd ⟨p, hp, hh⟩ hT
      obtain ⟨p, hp, hh⟩ := h2
      rcases List.mem_cons.1 hp with hp | hp
      · subst hp
        rw [hn, if_pos hh, h1 _ (by simp) hh]
        rfl
      · exact absurd ⟨p, hp, hh⟩ hT
/-- tidy files tell the same -/
theorem tidy_look {ls : List Ln} (hv : vfile ls = true) (s key : ByteArray) : look (tagOf (tidyOf ls)) s key = look (tagOf ls) s key := by
  rw [look_get hv, tag_tidy]
  by_cases hb : getB ls s key = true
  · rw [if_pos hb]
    obtain ⟨h1, h2⟩ := (getB_iff hv s key).1 hb
    refine look_val _ (fun p hp hh => ?_) ?_
    · obtain ⟨s', _, hp⟩ := List.mem_flatMap.1 hp
      exact (blk_hit hp hh).2.2
    · refine ⟨(s, pairL key (getV ls s key)), List.mem_flatMap.2 ⟨s, h1, ?_⟩, by simp [hit, pairL]⟩
      unfold blk
      exact List.mem_append.2 (.inr (List.mem_map.2 ⟨key, h2, rfl⟩))
  · rw [if_neg hb]
    refine look_none fun p hp => ?_
    obtain ⟨s', hs', hp⟩ := List.mem_flatMap.1 hp
    rcases hh : hit s key p with _ | _
    · rfl
    · obtain ⟨rfl, h2, _⟩ := blk_hit hp hh
      exact absurd ((getB_iff hv s' key).2 ⟨hs', h2⟩) hb

/-! ### tidy files are valid -/
theorem tsecs_len (ls : List Ln) : ∀ ss : List ByteArray, (tsecs ls ss).length = (ss.filter fun s => !s.toList.isEmpty).length + (esecs ls ss).length := by
  intro ss
  induction ss with
  | nil => rfl
  | cons s t ih =>
    have e : tsecs ls (s :: t) = tsec ls s ++ tsecs ls t := by simp [tsecs]
    have e2 : esecs ls (s :: t) = ekeys ls s (keysOf' ls s) ++ esecs ls t := by simp [esecs]
    rw [e, e2, List.length_append, List.length_append, ih, List.filter_cons]
    unfold tsec thead
    rw [List.length_append, tkeys_length, ekeys_length]
    by_cases he : s.toList.isEmpty = true
    · rw [if_pos he, if_neg (by rw [he]; simp)]
      simp; omega
    · rw [if_neg he, if_pos (by simpa using he)]
      simp; omega
theorem secs_head {ls : List Ln} : ∀ k, k ≤ ls.length → ∀ x ∈ secsTo ls k, x.toList.isEmpty = false → ∃ j, j < ls.length ∧ ls[j]!.k = 2 ∧ ls[j]!.na = x := by
  intro k
  induction k with
  | zero => intro _ x hx; cases hx
  | succ k ih =>
    intro hk x hx he
    by_cases hs : secLine ls k = true
    · rw [secsTo_yes hs] at hx
      rcases addT_iff.1 hx with hx | hx
      · exact ih (by omega) x hx he
      · rcases nowAt_head ls (k + 1) hk with h1 | ⟨j, h1, h2, h3⟩
        · rw [hx, h1] at he
          simp at he
        · exact ⟨j, by omega, by unfold isHd at h2; exact eq_of_beq h2, by rw [hx]; exact h3⟩
    · rw [secsTo_no (by simpa using hs)] at hx
      exact ih (by omega) x hx he
theorem heads_len {ls : List Ln} (hv : vfile ls = true) : ((secsOf' ls).filter fun s => !s.toList.isEmpty).length ≤ (headIs ls).length := by
  have hn : ((secsOf' ls).filter fun s => !s.toList.isEmpty).Nodup := List.Pairwise.filter _ (secs_nodup ls)
  have := len_le _ ((headIs ls).map fun i => ls[i]!.na) hn (fun x hx => by
    rw [List.mem_filter] at hx
    have h1 : x ∈ secsTo ls ls.length := by
      have := hx.1
      unfold secsOf' at this
      rwa [if_pos hv] at this
    obtain ⟨j, h2, h3, h4⟩ := secs_head ls.length (Nat.le_refl _) x h1 (by simpa using hx.2)
    exact List.mem_map.2 ⟨j, List.mem_filter.2 ⟨List.mem_range.2 h2, by rw [h3]; rfl⟩, h4⟩)
  simpa using this
theorem tidy_short {ls : List Ln} (hv : vfile ls = true) : (tidyOf ls).length ≤ ls.length := by
  have h1 := tsecs_len ls (secsOf' ls)
  have h2 := heads_len hv
  have h3 := lay_pairs hv
  have h4 := count_two ls
  unfold tidyOf
  unfold layOf at h3
  omega
theorem vline_headL {s : ByteArray} (h : vname s = true) : vline (headL s) = true := by
  unfold vline headL
  have h4 : vspaces ⟨#[]⟩ = true := by decide
  have h5 : nul ⟨#[]⟩ = true := by unfold nul; rw [toList_nil rfl]; rfl
  simp [h, h4, h5]
theorem vline_pairL {k v : ByteArray} (h : vname k = true) (h2 : vvalue v = true) : vline (pairL k v) = true := by
  unfold vline pairL
  simp only [h, h2]
  have h3 : vsep newSep = true := by decide
  have h4 : vspaces ⟨#[]⟩ = true := by decide
  have h5 : nul ⟨#[]⟩ = true := by unfold nul; rw [toList_nil rfl]; rfl
  simp [h3, h4, h5]
theorem tidy_valid {ls : List Ln} (hv : vfile ls = true) : vfile (tidyOf ls) = true := by
  have h20 := vfile_20 hv
  have hs := tidy_short hv
  unfold vfile vlines
  rw [Bool.and_eq_true, List.all_eq_true, decide_eq_true_iff]
  refine ⟨fun l hl => ?_, by omega⟩
  unfold tidyOf tsecs at hl
  obtain ⟨s, hsm, hl⟩ := List.mem_flatMap.1 hl
  unfold tsec at hl
  rcases List.mem_append.1 hl with hl | hl
  · unfold thead at hl
    split at hl
    · cases hl
    · rename_i he
      rw [List.mem_singleton] at hl
      subst hl
      obtain ⟨i, hi, rfl⟩ := List.getElem_of_mem hsm
      rcases secs_names ls i hi with h1 | ⟨_, h1⟩
      · exact vline_headL h1
      · exfalso
        rw [h1] at he
        exact he (by rw [toList_nil rfl]; rfl)
  · unfold tkeys at hl
    obtain ⟨k, hk, rfl⟩ := List.mem_map.1 hl
    have he := lay_vent hv (lay_mem.2 ⟨s, hsm, k, hk, rfl⟩)
    unfold vent vplace entL at he
    simp only [Bool.and_eq_true] at he
    exact vline_pairL he.1.2 he.2.2.1

theorem same_tells1 {f g : List Ln} (h : Same f g) (hf : vfile f = true) (hg : vfile g = true) : tellsB f g = true := by
  rw [tellsB_iff hg]
  intro s k hb
  have h1 : getB f s k = true := by rw [h.getB hf hg]; exact hb
  unfold tells1
  rw [h1, h.getV hf hg h1]
  simp
theorem Same.symm {f g : List Ln} (h : Same f g) : Same g f := fun s key => (h s key).symm
theorem same_mean {f g : List Ln} (h : Same f g) (hf : vfile f = true) (hg : vfile g = true) : (vfile f && (vfile g && (tellsB f g && tellsB g f))) = true := by
  rw [hf, hg, same_tells1 h hf hg, same_tells1 h.symm hg hf]
  rfl
theorem tidy_same {ls : List Ln} (hv : vfile ls = true) : Same (tidyOf ls) ls := fun s key => tidy_look hv s key
/-! ### the sections and keys of lines with their sections -/
def secsT (T : List (ByteArray × Ln)) : List ByteArray := T.foldl (fun acc p => if (p.2.k == 2 || p.2.k == 3) = true then addT acc p.1 else acc) []
def keysT (T : List (ByteArray × Ln)) (s : ByteArray) : List ByteArray := T.foldl (fun acc p => if (p.2.k == 3 && p.1.toList == s.toList) = true then addT acc p.2.na else acc) []
theorem tagOf_succ {ls : List Ln} {k : Nat} (hk : k < ls.length) : tagOf (ls.take (k + 1)) = tagOf (ls.take k) ++ [(nowAt ls (k + 1), ls[k])] := by
  have h1 : ls.take (k + 1) = ls.take k ++ [ls[k]] := List.take_succ_eq_append_getElem hk
  unfold tagOf
  rw [h1, tagF_snoc, ← h1]
  rfl
theorem secsTo_T (ls : List Ln) : ∀ k, k ≤ ls.length → secsTo ls k = secsT (tagOf (ls.take k)) := by
  intro k
  induction k with
  | zero => intro _; rfl
  | succ k ih =>
    intro hk
    have hk2 : k < ls.length := by omega
    rw [tagOf_succ hk2]
    unfold secsT
    rw [List.foldl_append]
    have ih' := ih (by omega)
    unfold secsT at ih'
    rw [← ih']
    show secsTo ls (k + 1) = if (ls[k].k == 2 || ls[k].k == 3) = true then addT (secsTo ls k) (nowAt ls (k + 1)) else secsTo ls k
    have e : secLine ls k = (ls[k].k == 2 || ls[k].k == 3) := by unfold secLine; rw [get_bang hk2]
    rw [← e]
    rfl
theorem keysTo_T (ls : List Ln) (s : ByteArray) : ∀ k, k ≤ ls.length → keysTo ls s k = keysT (tagOf (ls.take k)) s := by
  intro k
  induction k with
  | zero => intro _; rfl
  | succ k ih =>
    intro hk
    have hk2 : k < ls.length := by omega
    rw [tagOf_succ hk2]
    unfold keysT
    rw [List.foldl_append]
    have ih' := ih (by omega)
    unfold keysT at ih'
    rw [← ih']
    show keysTo ls s (k + 1) = if (ls[k].k == 3 && (nowAt ls (k + 1)).toList == s.toList) = true then addT (keysTo ls s k) ls[k].na else keysTo ls s k
    rw [← get_bang hk2]
    rfl
theorem secsOf_T {ls : List Ln} (hv : vfile ls = true) : secsOf' ls = secsT (tagOf ls) := by
  unfold secsOf'
  rw [if_pos hv, secsTo_T ls _ (Nat.le_refl _), List.take_length]
theorem keysOf_T {ls : List Ln} (hv : vfile ls = true) (s : ByteArray) : keysOf' ls s = keysT (tagOf ls) s := by
  unfold keysOf'
  rw [if_pos hv, keysTo_T ls s _ (Nat.le_refl _), List.take_length]

/-! ### of a tidy file -/
theorem addT_in {xs : List ByteArray} {s : ByteArray} (h : s ∈ xs) : addT xs s = xs := addT_yes (hasT_mem.2 h)
theorem addT_out {xs : List ByteArray} {s : ByteArray} (h : s ∉ xs) : addT xs s = xs ++ [s] := addT_no (by
  rcases hh : hasT xs s with _ | _
  · rfl
  · exact absurd (hasT_mem.1 hh) h)
/-- lines of one section add it once -/
theorem secs_blk {s : ByteArray} : ∀ (T : List (ByteArray × Ln)) (acc : List ByteArray), (∀ p ∈ T, p.1 = s ∧ (p.2.k == 2 || p.2.k == 3) = true) → T ≠ [] →
    T.foldl (fun acc p => if (p.2.k == 2 || p.2.k == 3) = true then addT acc p.1 else acc) acc = addT acc s := by
  intro T
  induction T with
  | nil => intro acc _ h; exact absurd rfl h
  | cons p T ih =>
    intro acc h _
    obtain ⟨h1, h2⟩ := h p (by simp)
    rw [List.foldl_cons, if_pos h2, h1]
    by_cases hT : T = []
    · subst hT; rfl
    · rw [ih _ (fun q hq => h q (by simp [hq])) hT, addT_in]
      exact addT_iff.2 (.inr rfl)
theorem blk_all (ls : List Ln) (s : ByteArray) : ∀ p ∈ blk ls s, p.1 = s ∧ (p.2.k == 2 || p.2.k == 3) = true := by
  intro p hp
  unfold blk at hp
  rcases List.mem_append.1 hp with hp | hp
  · obtain ⟨l, hl, rfl⟩ := List.mem_map.1 hp
    unfold thead at hl
    split at hl
    · cases hl
    · rw [List.mem_singleton] at hl
      subst hl
      exact ⟨rfl, rfl⟩
  · obtain ⟨k, _, rfl⟩ := List.mem_map.1 hp
    exact ⟨rfl, rfl⟩
theorem secs_flat (ls : List Ln) : ∀ (ss acc : List ByteArray), (acc ++ ss).Nodup → (∀ s ∈ ss, blk ls s ≠ []) →
    (ss.flatMap (blk ls)).foldl (fun acc p => if (p.2.k == 2 || p.2.k == 3) = true then addT acc p.1 else acc) acc = acc ++ ss := by
  intro ss
  induction ss with
  | nil => intro acc _ _; simp
  | cons s t ih =>
    intro acc hn hb
    rw [List.flatMap_cons, List.foldl_append, secs_blk _ _ (blk_all ls s) (hb s (by simp))]
    have hs : s ∉ acc := fun h => by
      rw [List.nodup_append] at hn
      exact hn.2.2 s h s (by simp) rfl
    rw [addT_out hs, ih _ (by simpa using hn) (fun x hx => hb x (by simp [hx]))]
    simp
/-- the keys of one block -/
theorem keys_blk (ls : List Ln) (s : ByteArray) (acc : List ByteArray) (h : (acc ++ keysOf' ls s).Nodup) :
    (blk ls s).foldl (fun acc p => if (p.2.k == 3 && p.1.toList == s.toList) = true then addT acc p.2.na else acc) acc = acc ++ keysOf' ls s := by
  unfold blk
  rw [List.foldl_append]
  have h1 : ((thead s).map (fun l => (s, l))).foldl (fun acc p => if (p.2.k == 3 && p.1.toList == s.toList) = true then addT acc p.2.na else acc) acc = acc := by
    unfold thead
    split
    · rfl
    · simp [headL]
  rw [h1]
  generalize hks : keysOf' ls s = ks at h
  clear h1 hks
  induction ks generalizing acc with
  | nil => simp
  | cons k ks ih =>
    rw [List.map_cons, List.foldl_cons]
    have hc : ((pairL k (getV ls s k)).k == 3 && s.toList == s.toList) = true := by simp [pairL]
    have hk : k ∉ acc := fun hh => by
      rw [List.nodup_append] at h
      exact h.2.2 k hh k (by simp) rfl
    rw [if_pos hc]
    have hna : (pairL k (getV ls s k)).na = k := rfl
    rw [hna, addT_out hk, ih _ (by simpa using h)]
    simp
theorem keys_blk_no (ls : List Ln) {s s' : ByteArray} (hne : s' ≠ s) (acc : List ByteArray) :
    (blk ls s').foldl (fun acc p => if (p.2.k == 3 && p.1.toList == s.toList) = true then addT acc p.2.na else acc) acc = acc := by
  have hall : ∀ (T : List (ByteArray × Ln)), (∀ p ∈ T, p.1 = s') → T.foldl (fun acc p => if (p.2.k == 3 && p.1.toList == s.toList) = true then addT acc p.2.na else acc) acc = acc := by
    intro T
    induction T with
    | nil => intro _; rfl
    | cons p T ih =>
      intro h
      have h1 := h p (by simp)
      have h2 : (p.1.toList == s.toList) = false := by rw [beq_eq_false_iff_ne, h1]; exact fun e => hne (toList_inj e)
      rw [List.foldl_cons, if_neg (by rw [h2]; simp)]
      exact ih (fun q hq => h q (by simp [hq]))
  exact hall _ (fun p hp => (blk_all ls s' p hp).1)
theorem keys_flat (ls : List Ln) (s : ByteArray) : ∀ (ss : List ByteArray), ss.Nodup → 
    (ss.flatMap (blk ls)).foldl (fun acc p => if (p.2.k == 3 && p.1.toList == s.toList) = true then addT acc p.2.na else acc) [] = if hasT ss s = true then keysOf' ls s else [] := by
  have later : ∀ (t : List ByteArray), s ∉ t → ∀ acc, (t.flatMap (blk ls)).foldl (fun acc p => if (p.2.k == 3 && p.1.toList == s.toList) = true then addT acc p.2.na else acc) acc = acc := by
    intro t
    induction t with
    | nil => intro _ acc; rfl
    | cons x t ih =>
      intro h acc
      rw [List.flatMap_cons, List.foldl_append, keys_blk_no ls (fun e => h (by simp [e])) acc]
      exact ih (fun hh => h (by simp [hh])) acc
  intro ss
  induction ss with
  | nil => intro _; rfl
  | cons x t ih =>
    intro hn
    rw [List.nodup_cons] at hn
    rw [List.flatMap_cons, List.foldl_append]
    by_cases e : x = s
    · subst e
      rw [keys_blk ls x [] (by simpa using keys_nodup ls x), later t hn.1, if_pos (hasT_mem.2 (by simp))]
      simp
    · rw [keys_blk_no ls e, ih hn.2]
      have : hasT (x :: t) s = hasT t s := by
        rw [Bool.eq_iff_iff, hasT_mem, hasT_mem, List.mem_cons]
        exact ⟨fun h => h.elim (fun h => absurd h.symm e) id, .inr⟩
      rw [this]
theorem blk_some {ls : List Ln} (hv : vfile ls = true) {s : ByteArray} (hs : s ∈ secsOf' ls) : blk ls s ≠ [] := by
  intro h
  unfold blk at h
  rw [List.append_eq_nil_iff, List.map_eq_nil_iff, List.map_eq_nil_iff] at h
  have he : s.toList.isEmpty = true := by
    rcases hh : s.toList.isEmpty with _ | _
    · have := h.1
      unfold thead at this
      rw [if_neg (by rw [hh]; simp)] at this
      cases this
    · rfl
  have hk := h.2
  have hs2 : s ∈ secsTo ls ls.length := by unfold secsOf' at hs; rwa [if_pos hv] at hs
  have hkk : keysTo ls s ls.length = [] := by unfold keysOf' at hk; rwa [if_pos hv] at hk
  have : ∀ k, k ≤ ls.length → s ∈ secsTo ls k → keysTo ls s k ≠ [] := by
    intro k
    induction k with
    | zero => intro _ h; cases h
    | succ k ih =>
      intro hk h
      have hk2 : k < ls.length := by omega
      have mono : keysTo ls s k ≠ [] → keysTo ls s (k + 1) ≠ [] := fun hne => by
        by_cases h3 : (ls[k]!.k == 3 && inSec ls s k) = true
        · rw [keysTo_yes h3]
          intro e
          obtain ⟨y, t, hy⟩ := List.exists_cons_of_ne_nil hne
          have : y ∈ addT (keysTo ls s k) ls[k]!.na := addT_iff.2 (.inl (by rw [hy]; simp))
          rw [e] at this; cases this
        · rw [keysTo_no (by simpa using h3)]; exact hne
      by_cases hsl : secLine ls k = true
      · rw [secsTo_yes hsl] at h
        rcases addT_iff.1 h with h | h
        · exact mono (ih (by omega) h)
        · unfold secLine at hsl
          rw [Bool.or_eq_true] at hsl
          rcases hsl with h2 | h3
          · exfalso
            have h2' := eq_of_beq h2
            rw [get_bang hk2] at h2'
            have h4 : nowAt ls (k + 1) = ls[k].na := by rw [nowAt_succ hk2, if_pos h2']
            have h5 := vline_hd (vfile_line hv k hk2) h2'
            rw [← h4, ← h] at h5
            rw [vname_full h5] at he
            cases he
          · have hin : inSec ls s k = true := by unfold inSec; rw [← h]; simp
            rw [keysTo_yes (by rw [h3, hin]; rfl)]
            intro e
            have : ls[k]!.na ∈ addT (keysTo ls s k) ls[k]!.na := addT_iff.2 (.inr rfl)
            rw [e] at this; cases this
      · rw [secsTo_no (by simpa using hsl)] at h
        exact mono (ih (by omega) h)
  exact this _ (Nat.le_refl _) hs2 hkk
theorem tidy_secs {ls : List Ln} (hv : vfile ls = true) : secsOf' (tidyOf ls) = secsOf' ls := by
  rw [secsOf_T (tidy_valid hv), tag_tidy]
  have := secs_flat ls (secsOf' ls) [] (by simpa using secs_nodup ls) (fun s hs => blk_some hv hs)
  unfold secsT
  simpa using this
theorem tidy_keys {ls : List Ln} (hv : vfile ls = true) (s : ByteArray) : keysOf' (tidyOf ls) s = keysOf' ls s := by
  rw [keysOf_T (tidy_valid hv), tag_tidy]
  have := keys_flat ls s (secsOf' ls) (secs_nodup ls)
  unfold keysT
  rw [this]
  split
  · rfl
  · rename_i h
    rcases hk : keysOf' ls s with _ | ⟨k, t⟩
    · rfl
    · exact absurd (keys_sec (ls := ls) (s := s) (by rw [hk]; simp)) h
/-- a tidy file is its own -/
theorem tidy_tidy {ls : List Ln} (hv : vfile ls = true) : tidyOf (tidyOf ls) = tidyOf ls := by
  have h1 := tidy_secs hv
  have h2 := tidy_keys hv
  have h3 := tidy_same hv
  have hvt := tidy_valid hv
  obtain ⟨T, hT⟩ : ∃ T, tidyOf ls = T := ⟨_, rfl⟩
  rw [hT] at h1 h2 h3 hvt
  have e : tidyOf T = tsecs T (secsOf' ls) := by unfold tidyOf; rw [h1]
  rw [hT, e]
  refine Eq.trans ?_ hT
  show tsecs T (secsOf' ls) = tsecs ls (secsOf' ls)
  unfold tsecs
  rw [List.flatMap_def, List.flatMap_def]
  congr 1
  apply List.map_congr_left
  intro s hs
  unfold tsec
  rw [h2 s]
  congr 1
  unfold tkeys
  apply List.map_congr_left
  intro k hk
  have hb := (getB_iff hv s k).2 ⟨hs, hk⟩
  have hb2 := h3.getB hvt hv s k
  have := h3.getV hvt hv (s := s) (key := k) (by rw [hb2]; exact hb)
  rw [this]

theorem vname_le {s : ByteArray} (h : vname s = true) : s.size ≤ 8 := by
  rcases Nat.lt_or_ge 8 s.size with h8 | h8
  · rw [vname_size (.inr h8)] at h; cases h
  · exact h8
theorem vvalue_le {s : ByteArray} (h : vvalue s = true) : s.size ≤ 40 := by
  unfold vvalue at h
  simp only [Bool.and_eq_true, decide_eq_true_eq] at h
  exact h.2.1
theorem tidy_line {ls : List Ln} (hv : vfile ls = true) {l : Ln} (hl : l ∈ tidyOf ls) : (l.k = 2 ∨ l.k = 3) ∧ l.fits := by
  have hk : l.k = 2 ∨ l.k = 3 := by
    unfold tidyOf tsecs at hl
    obtain ⟨s, _, hl⟩ := List.mem_flatMap.1 hl
    unfold tsec at hl
    rcases List.mem_append.1 hl with hl | hl
    · unfold thead at hl
      split at hl
      · cases hl
      · rw [List.mem_singleton] at hl
        subst hl
        exact .inl rfl
    · unfold tkeys at hl
      obtain ⟨k, _, rfl⟩ := List.mem_map.1 hl
      exact .inr rfl
  refine ⟨hk, ?_⟩
  unfold tidyOf tsecs at hl
  obtain ⟨s, hsm, hl⟩ := List.mem_flatMap.1 hl
  unfold tsec at hl
  have h0 : (⟨#[]⟩ : ByteArray).size = 0 := rfl
  rcases List.mem_append.1 hl with hl | hl
  · unfold thead at hl
    split at hl
    · cases hl
    · rw [List.mem_singleton] at hl
      subst hl
      obtain ⟨i, hi, rfl⟩ := List.getElem_of_mem hsm
      have hs : (secsOf' ls)[i].size ≤ 8 := by
        rcases secs_names ls i hi with h1 | ⟨_, h1⟩
        · exact vname_le h1
        · rw [h1, h0]; omega
      unfold Ln.fits headL maxLen
      simp only [h0]
      omega
  · unfold tkeys at hl
    obtain ⟨k, hkm, rfl⟩ := List.mem_map.1 hl
    have he := lay_vent hv (lay_mem.2 ⟨s, hsm, k, hkm, rfl⟩)
    unfold vent vplace entL at he
    simp only [Bool.and_eq_true] at he
    have h1 := vname_le he.1.2
    have h2 := vvalue_le he.2.2.1
    have h3 : newSep.size = 3 := rfl
    unfold Ln.fits pairL maxLen
    simp only [h0, h3]
    omega
theorem tidy_fits {ls : List Ln} (hv : vfile ls = true) : AllFit (tidyOf ls) := by
  have h1 := tidy_short hv
  have h2 := vfile_20 hv
  exact ⟨by omega, fun i hi => (tidy_line hv (List.getElem_mem hi)).2⟩
theorem vfile_take {ls : List Ln} (hv : vfile ls = true) (k : Nat) : vfile (ls.take k) = true := by
  have h20 := vfile_20 hv
  unfold vfile vlines
  rw [Bool.and_eq_true, List.all_eq_true, decide_eq_true_iff]
  refine ⟨fun l hl => ?_, by rw [List.length_take]; omega⟩
  obtain ⟨i, hi, rfl⟩ := List.getElem_of_mem (List.mem_of_mem_take hl)
  exact vfile_line hv i hi
theorem fits_take {ls : List Ln} (h : AllFit ls) (k : Nat) : AllFit (ls.take k) := by
  refine ⟨by rw [List.length_take]; have := h.1; omega, fun i hi => ?_⟩
  rw [List.getElem_take]
  exact h.2 i (by rw [List.length_take] at hi; omega)
end Go.Proofs.YtkjoolmhcfajnaaDoor
namespace Go.Proofs.YtkjoolmhcfajnaaDoor
open Go.RowKit

/-- the entries of a valid layer that are kept -/
def keepE (es : List Ent) (p : Ent → Bool) : List Ent := if vlayer es = true then es.filter p else []
theorem keepE_yes {es : List Ent} {p : Ent → Bool} (h : vlayer es = true) : keepE es p = es.filter p := by rw [keepE, if_pos h]
theorem keepE_no {es : List Ent} {p : Ent → Bool} (h : vlayer es = false) : keepE es p = [] := by rw [keepE, if_neg (by rw [h]; simp)]
theorem keepE_le (es : List Ent) (p : Ent → Bool) : (keepE es p).length ≤ es.length := by
  unfold keepE
  split
  · exact List.length_filter_le _ _
  · simp
theorem filter_step {es : List Ent} {p : Ent → Bool} {k : Nat} (hk : k < es.length) : (es.take (k + 1)).filter p = (es.take k).filter p ++ (if p es[k] = true then [es[k]] else []) := by
  rw [List.take_succ_eq_append_getElem hk, List.filter_append]
  congr 1
  simp only [List.filter_cons, List.filter_nil]
def ofSec (s : ByteArray) (e : Ent) : Bool := e.s.toList == s.toList
def notAt (s k : ByteArray) (e : Ent) : Bool := !(e.of s k)

theorem of_trans {a b : Ent} {s k : ByteArray} (h1 : a.of s k = true) (h2 : b.of s k = true) : a.of b.s b.k = true := by
  unfold Ent.of at *
  simp only [Bool.and_eq_true, beq_iff_eq] at *
  exact ⟨h1.1.trans h2.1.symm, h1.2.trans h2.2.symm⟩
theorem dist_tail {e : Ent} {t : List Ent} (h : distE (e :: t) = true) : distE t = true := by
  unfold distE at h
  rw [Bool.and_eq_true] at h
  exact h.2
theorem dist_none {e : Ent} {t : List Ent} {s k : ByteArray} (h : distE (e :: t) = true) (he : e.of s k = true) : ∀ x ∈ t, x.of s k = false := by
  intro x hx
  unfold distE at h
  rw [Bool.and_eq_true, List.all_eq_true] at h
  have h1 := h.1 x hx
  rw [← Bool.not_eq_true]
  intro h2
  rw [of_trans he h2] at h1
  cases h1
theorem cut_from {s k : ByteArray} : ∀ (es : List Ent) (i : Nat), distE es = true → es.any (fun x => x.of s k) = true → ∃ j, j < es.length ∧ entFrom s k es i = ((i + j : Nat) : Int) ∧ es.take j ++ es.drop (j + 1) = es.filter (notAt s k) := by
  intro es
  induction es with
  | nil => intro i _ h; simp at h
  | cons e t ih =>
    intro i hd ha
    by_cases he : e.of s k = true
    · refine ⟨0, by simp, by rw [entFrom, if_pos he]; simp, ?_⟩
      have hn := dist_none hd he
      simp only [List.take_zero, List.nil_append, List.drop_one, List.tail_cons, Nat.zero_add]
      rw [List.filter_cons, if_neg (by unfold notAt; rw [he]; simp)]
      symm
      rw [List.filter_eq_self]
      intro x hx
      unfold notAt
      rw [hn x hx]; rfl
    · have he' : e.of s k = false := by simpa using he
      rw [List.any_cons, he', Bool.false_or] at ha
      obtain ⟨j, hj, h1, h2⟩ := ih (i + 1) (dist_tail hd) ha
      refine ⟨j + 1, by simpa using hj, by rw [entFrom, if_neg he, h1]; omega, ?_⟩
      rw [List.take_succ_cons, List.drop_succ_cons, List.cons_append, h2, List.filter_cons, if_pos (by unfold notAt; rw [he']; rfl)]
theorem find_last {s k : ByteArray} : ∀ es : List Ent, distE es = true → lastE es s k = es.find? (fun x => x.of s k) := by
  intro es
  refine snocInd (P := fun es => distE es = true → lastE es s k = es.find? (fun x => x.of s k)) (fun _ => rfl) ?_ es
  intro l a ih h
  rw [distE_snoc, Bool.and_eq_true] at h
  rw [lastE_snoc, List.find?_append, ih h.1]
  by_cases ha : a.of s k = true
  · rw [if_pos ha]
    have hn : l.find? (fun x => x.of s k) = none := by
      rw [List.find?_eq_none]
      intro x hx h2
      have h3 := h.2
      unfold freshE at h3
      rw [List.all_eq_true] at h3
      have h4 := h3 x hx
      rw [of_trans h2 ha] at h4
      cases h4
    rw [hn]
    simp [ha]
  · rw [if_neg ha]
    have : ([a].find? fun x => x.of s k) = none := by simp [ha]
    rw [this]
    simp
theorem cutLen {es : List Ent} {s k : ByteArray} : (es.filter (notAt s k)).length = es.length ↔ es.any (fun x => x.of s k) = false := by
  rw [List.length_filter_eq_length_iff]
  constructor
  · intro h
    rw [← Bool.not_eq_true, List.any_eq_true]
    rintro ⟨x, hx, h2⟩
    have := h x hx
    unfold notAt at this
    rw [h2] at this
    cases this
  · intro h x hx
    unfold notAt
    rw [← Bool.not_eq_true, List.any_eq_true] at h
    cases h2 : x.of s k
    · rfl
    · exact absurd ⟨x, hx, h2⟩ h
theorem vlayer_dist {es : List Ent} (h : vlayer es = true) : distE es = true := by
  unfold vlayer okE at h
  simp only [Bool.and_eq_true] at h
  exact h.1.2
theorem vlayer_vent {es : List Ent} (h : vlayer es = true) : ∀ e ∈ es, vent e = true := by
  unfold vlayer okE at h
  simp only [Bool.and_eq_true, List.all_eq_true] at h
  exact h.1.1
theorem vlayer_20 {es : List Ent} (h : vlayer es = true) : es.length ≤ 20 := by
  unfold vlayer at h
  simp only [Bool.and_eq_true, decide_eq_true_eq] at h
  exact h.2
/-- what CutEntry makes -/
def cutB (es : List Ent) (s k : ByteArray) : Bool := vlayer es && es.any (fun x => x.of s k)
def cutL (es : List Ent) (s k : ByteArray) : List Ent := if cutB es s k = true then es.filter (notAt s k) else []
theorem cutL_le (es : List Ent) (s k : ByteArray) : (cutL es s k).length ≤ es.length := by
  unfold cutL
  split
  · exact List.length_filter_le _ _
  · simp
/-- the entry has a key -/
theorem vent_key {e : Ent} (h : vent e = true) : Ent.zero.same e = false := by
  unfold vent vplace at h
  simp only [Bool.and_eq_true] at h
  have h1 := h.1.2
  unfold vname at h1
  simp only [Bool.and_eq_true, decide_eq_true_eq] at h1
  have h2 : ¬ e.k.toList = [] := toList_ne (by omega)
  unfold Ent.same Ent.zero
  have h3 : (((⟨#[]⟩ : ByteArray).toList == e.k.toList)) = false := by
    rw [beq_eq_false_iff_ne]
    intro h4
    exact h2 (h4.symm.trans (toList_nil rfl))
  simp only []
  rw [h3]
  simp
/-- an entry is what another layer tells at its place -/
theorem common_eq {bs : List Ent} {e : Ent} (hb : distE bs = true) (he : vent e = true) : ((lastE bs e.s e.k).getD Ent.zero).same e = inE bs e := by
  rw [find_last bs hb]
  unfold inE
  cases h : bs.find? (fun x => x.of e.s e.k) with
  | none =>
    have hn : bs.any (fun x => x.of e.s e.k) = false := by
      rw [← Bool.not_eq_true, List.any_eq_true]
      rintro ⟨x, hx, h2⟩
      exact (List.find?_eq_none.1 h) x hx h2
    rw [entIdx_none hn]
    show Ent.zero.same e = _
    rw [vent_key he]
    split <;> simp
  | some x =>
    obtain ⟨j, hj, h1, h2⟩ := entIdx_some bs 0 x h
    unfold entIdx
    rw [h1]
    have h3 : ((0 + j : Nat) : Int).toNat = j := by omega
    rw [h3, List.getElem?_eq_getElem hj, h2]
    simp
def comE (xs bs : List Ent) : List Ent := if vlayer bs = true then keepE xs (inE bs) else []
theorem comE_le (xs bs : List Ent) : (comE xs bs).length ≤ xs.length := by
  unfold comE
  split
  · exact keepE_le _ _
  · simp
end Go.Proofs.YtkjoolmhcfajnaaDoor
