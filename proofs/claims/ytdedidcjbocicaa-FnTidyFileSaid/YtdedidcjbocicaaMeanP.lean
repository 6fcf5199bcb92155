/-
  When two files tell the same: the two tests, of all keys both ways and of the lists of entries, agree. No program; condition: both files are valid.
-/
import Derived.Test.YtdedidcjbocicaaQP
import Derived.Test.YtdedidcjbocicaaLayP
import Derived.Test.YtdedidcjbocicaaEntSame
namespace Go.Proofs.Ytdedidcjbocicaa
open Go.RowKit

/-- the first file has the key of the second one, with its value -/
def tells1 (f g : List Ln) (s k : ByteArray) : Bool := getB f s k && ((getV f s k).toList == (getV g s k).toList)
def tellsK (f g : List Ln) (s : ByteArray) (ks : List ByteArray) : Bool := ks.all (tells1 f g s)
def tellsS (f g : List Ln) (ss : List ByteArray) : Bool := ss.all fun s => tellsK f g s (keysOf' g s)
/-- the first file has all keys of the second one -/
def tellsB (f g : List Ln) : Bool := tellsS f g (secsOf' g)

/-! ### entries -/
theorem lay_mem {ls : List Ln} {e : Ent} : e ∈ layOf ls ↔ ∃ s, s ∈ secsOf' ls ∧ ∃ k, k ∈ keysOf' ls s ∧ e = entL ls s k := by
  unfold layOf esecs ekeys
  simp only [List.mem_flatMap, List.mem_map]
  constructor
  · rintro ⟨s, hs, k, hk, rfl⟩; exact ⟨s, hs, k, hk, rfl⟩
  · rintro ⟨s, hs, k, hk, rfl⟩; exact ⟨s, hs, k, hk, rfl⟩
theorem lay_mem_get {ls : List Ln} (hv : vfile ls = true) {e : Ent} : e ∈ layOf ls ↔ getB ls e.s e.k = true ∧ e = entL ls e.s e.k := by
  rw [lay_mem]
  constructor
  · rintro ⟨s, hs, k, hk, rfl⟩
    exact ⟨(getB_iff hv s k).2 ⟨hs, hk⟩, rfl⟩
  · rintro ⟨h, h2⟩
    obtain ⟨h3, h4⟩ := (getB_iff hv _ _).1 h
    exact ⟨e.s, h3, e.k, h4, h2⟩
theorem of_iff (e : Ent) (s k : ByteArray) : e.of s k = true ↔ e.s = s ∧ e.k = k := by
  unfold Ent.of
  rw [Bool.and_eq_true]
  constructor
  · rintro ⟨h1, h2⟩; exact ⟨toList_inj (by simpa using h1), toList_inj (by simpa using h2)⟩
  · rintro ⟨rfl, rfl⟩; simp
theorem entFrom_spec (s k : ByteArray) : ∀ (es : List Ent) (i : Nat), (∃ q, ∃ h : q < es.length, entFrom s k es i = ((i + q : Nat) : Int) ∧ es[q].of s k = true) ∨ (entFrom s k es i = -1 ∧ ∀ e ∈ es, e.of s k = false) := by
  intro es
  induction es with
  | nil => intro i; exact .inr ⟨rfl, fun e h => by cases h⟩
  | cons e es ih =>
    intro i
    rw [entFrom]
    by_cases h : e.of s k = true
    · exact .inl ⟨0, by simp, by rw [if_pos h]; simp, by simpa using h⟩
    · rw [if_neg h]
      rcases ih (i + 1) with ⟨q, hq, h1, h2⟩ | ⟨h1, h2⟩
      · exact .inl ⟨q + 1, by simpa using hq, by rw [h1]; omega, by simpa using h2⟩
      · refine .inr ⟨h1, fun x hx => ?_⟩
        rcases List.mem_cons.1 hx with rfl | hx
        · simpa using h
        · exact h2 x hx
theorem same_iff (a b : Ent) : a.same b = true ↔ a.s = b.s ∧ a.k = b.k ∧ a.op = b.op ∧ a.v = b.v := by
  unfold Ent.same
  simp only [Bool.and_eq_true, beq_iff_eq]
  constructor
  · rintro ⟨h1, h2, h3, h4⟩; exact ⟨toList_inj h1, toList_inj h2, h3, toList_inj h4⟩
  · rintro ⟨h1, h2, h3, h4⟩; rw [h1, h2, h3, h4]; exact ⟨rfl, rfl, rfl, rfl⟩
/-- the entry of a key of f is in the layer of g exactly if g tells it -/
theorem inE_lay {g : List Ln} (hg : vfile g = true) (s k v : ByteArray) : inE (layOf g) ⟨s, k, 0, v⟩ = (getB g s k && ((getV g s k).toList == v.toList)) := by
  unfold inE entIdx
  rcases entFrom_spec s k (layOf g) 0 with ⟨q, hq, h1, h2⟩ | ⟨h1, h2⟩
  · simp only [h1]
    rw [Nat.zero_add, Int.toNat_natCast, List.getElem?_eq_getElem hq]
    obtain ⟨h3, h4⟩ := (of_iff _ _ _).1 h2
    obtain ⟨h5, h6⟩ := (lay_mem_get hg).1 (List.getElem_mem hq)
    rw [h3, h4] at h5 h6
    simp only [h5, Bool.true_and]
    rw [h6]
    rw [Bool.eq_iff_iff, Bool.and_eq_true, same_iff]
    simp only [entL, beq_iff_eq, decide_eq_true_eq]
    constructor
    · intro h
      simp at h
      rw [h]
    · intro h
      have h9 := toList_inj h
      rw [h9]
      simp
  · have h3 : getB g s k = false := by
      rcases hb : getB g s k with _ | _
      · rfl
      · have := h2 (entL g s k) ((lay_mem_get hg).2 ⟨hb, rfl⟩)
        have h9 := (of_iff (entL g s k) s k).2 ⟨rfl, rfl⟩
        rw [h9] at this; cases this
    rw [h3, Bool.false_and]
    simp only [h1]
    split <;> rfl

/-! ### counting -/
/-- the key of an entry, as something to be compared -/
def Ent.key (e : Ent) : List UInt8 × List UInt8 := (e.s.toList, e.k.toList)
theorem key_inj {a b : Ent} (h : a.key = b.key) : a.s = b.s ∧ a.k = b.k := by
  unfold Ent.key at h
  injection h with h1 h2
  exact ⟨toList_inj h1, toList_inj h2⟩
theorem len_le {α : Type} [DecidableEq α] : ∀ (xs ys : List α), xs.Nodup → (∀ x ∈ xs, x ∈ ys) → xs.length ≤ ys.length := by
  intro xs
  induction xs with
  | nil => intro ys _ _; simp
  | cons x xs ih =>
    intro ys hn hs
    rw [List.nodup_cons] at hn
    have hx := hs x (by simp)
    have h1 := ih (ys.erase x) hn.2 (fun y hy => by
      have hne : y ≠ x := fun e => hn.1 (e ▸ hy)
      exact (List.mem_erase_of_ne hne).2 (hs y (by simp [hy])))
    rw [List.length_erase_of_mem hx] at h1
    have : 0 < ys.length := List.length_pos_of_mem hx
    simp
    omega
theorem all_in {α : Type} [DecidableEq α] {xs ys : List α} (hn : xs.Nodup) (hs : ∀ x ∈ xs, x ∈ ys) (hl : ys.length ≤ xs.length) : ∀ y ∈ ys, y ∈ xs := by
  intro y hy
  by_cases h : y ∈ xs
  · exact h
  · exfalso
    have h1 := len_le xs (ys.erase y) hn (fun x hx => by
      have hne : x ≠ y := fun e => h (e ▸ hx)
      exact (List.mem_erase_of_ne hne).2 (hs x hx))
    rw [List.length_erase_of_mem hy] at h1
    have : 0 < ys.length := List.length_pos_of_mem hy
    omega
theorem toLists_nodup {xs : List ByteArray} (h : xs.Nodup) : (xs.map ByteArray.toList).Nodup := by
  induction xs with
  | nil => exact List.nodup_nil
  | cons x xs ih =>
    rw [List.nodup_cons] at h
    rw [List.map_cons, List.nodup_cons]
    refine ⟨fun hm => ?_, ih h.2⟩
    obtain ⟨y, hy, e⟩ := List.mem_map.1 hm
    have : y = x := toList_inj e
    exact h.1 (this ▸ hy)
theorem ekeys_keys (ls : List Ln) (s : ByteArray) (ks : List ByteArray) (h : ks.Nodup) : ((ekeys ls s ks).map Ent.key).Nodup := by
  induction ks with
  | nil => exact List.nodup_nil
  | cons k ks ih =>
    rw [List.nodup_cons] at h
    unfold ekeys at ih ⊢
    rw [List.map_cons, List.map_cons, List.nodup_cons]
    refine ⟨fun hm => ?_, ih h.2⟩
    obtain ⟨e, he, h2⟩ := List.mem_map.1 hm
    obtain ⟨k2, hk2, rfl⟩ := List.mem_map.1 he
    have := (key_inj h2).2
    simp only [entL] at this
    exact h.1 (this ▸ hk2)
theorem esecs_keys (ls : List Ln) (hk : ∀ s, (keysOf' ls s).Nodup) : ∀ ss : List ByteArray, ss.Nodup → ((esecs ls ss).map Ent.key).Nodup := by
  intro ss
  induction ss with
  | nil => intro _; exact List.nodup_nil
  | cons s ss ih =>
    intro h
    rw [List.nodup_cons] at h
    have e : esecs ls (s :: ss) = ekeys ls s (keysOf' ls s) ++ esecs ls ss := by simp [esecs]
    rw [e, List.map_append, List.nodup_append]
    refine ⟨ekeys_keys ls s _ (hk s), ih h.2, ?_⟩
    intro a ha b hb hab
    subst hab
    obtain ⟨e1, h1, rfl⟩ := List.mem_map.1 ha
    obtain ⟨e2, h2, h3⟩ := List.mem_map.1 hb
    unfold ekeys at h1
    obtain ⟨k1, _, rfl⟩ := List.mem_map.1 h1
    unfold esecs ekeys at h2
    obtain ⟨s2, hs2, h4⟩ := List.mem_flatMap.1 h2
    obtain ⟨k2, _, rfl⟩ := List.mem_map.1 h4
    have := (key_inj h3).1
    simp only [entL] at this
    exact h.1 (this ▸ hs2)
theorem lay_keys (ls : List Ln) : ((layOf ls).map Ent.key).Nodup := by
  refine esecs_keys ls (fun s => ?_) _ ?_
  · unfold keysOf'; split
    · exact keysTo_nodup _ _ _
    · exact List.nodup_nil
  · unfold secsOf'; split
    · exact secsTo_nodup _ _
    · exact List.nodup_nil
theorem tellsB_iff {f g : List Ln} (hg : vfile g = true) : tellsB f g = true ↔ ∀ s k, getB g s k = true → tells1 f g s k = true := by
  unfold tellsB tellsS tellsK
  simp only [List.all_eq_true]
  constructor
  · intro h s k hb
    obtain ⟨h1, h2⟩ := (getB_iff hg s k).1 hb
    exact h s h1 k h2
  · intro h s hs k hk
    exact h s k ((getB_iff hg s k).2 ⟨hs, hk⟩)
theorem all_inE {f g : List Ln} (hf : vfile f = true) (hg : vfile g = true) : (layOf f).all (inE (layOf g)) = tellsB g f := by
  rw [Bool.eq_iff_iff, tellsB_iff hf, List.all_eq_true]
  constructor
  · intro h s k hb
    have := h (entL f s k) ((lay_mem_get hf).2 ⟨hb, rfl⟩)
    unfold entL at this
    rw [inE_lay hg] at this
    exact this
  · intro h e he
    obtain ⟨h1, h2⟩ := (lay_mem_get hf).1 he
    rw [h2]
    unfold entL
    rw [inE_lay hg]
    exact h _ _ h1
/-- the two tests agree -/
theorem same_tells {f g : List Ln} (hf : vfile f = true) (hg : vfile g = true) : sameE (layOf f) (layOf g) = (tellsB f g && tellsB g f) := by
  unfold sameE
  rw [all_inE hf hg]
  rcases h1 : tellsB g f with _ | _
  · rw [Bool.and_false, Bool.and_false]
  · rw [Bool.and_true, Bool.and_true]
    have hsub : ∀ x ∈ (layOf f).map Ent.key, x ∈ (layOf g).map Ent.key := by
      intro x hx
      obtain ⟨e, he, rfl⟩ := List.mem_map.1 hx
      obtain ⟨h2, _⟩ := (lay_mem_get hf).1 he
      have h3 := (tellsB_iff hf).1 h1 _ _ h2
      unfold tells1 at h3
      rw [Bool.and_eq_true] at h3
      exact List.mem_map.2 ⟨entL g e.s e.k, (lay_mem_get hg).2 ⟨h3.1, rfl⟩, rfl⟩
    rw [Bool.eq_iff_iff, decide_eq_true_iff, tellsB_iff hg]
    constructor
    · intro hl s k hb
      have h4 := all_in (lay_keys f) hsub (by rw [List.length_map, List.length_map]; omega) (entL g s k).key (List.mem_map.2 ⟨_, (lay_mem_get hg).2 ⟨hb, rfl⟩, rfl⟩)
      obtain ⟨e, he, h5⟩ := List.mem_map.1 h4
      obtain ⟨h6, h7⟩ := key_inj h5
      simp only [entL] at h6 h7
      obtain ⟨h8, _⟩ := (lay_mem_get hf).1 he
      rw [h6, h7] at h8
      have h9 := (tellsB_iff hf).1 h1 s k h8
      unfold tells1 at h9 ⊢
      rw [Bool.and_eq_true] at h9
      rw [h8, Bool.true_and]
      have := h9.2
      simp only [beq_iff_eq] at this ⊢
      exact this.symm
    · intro h2
      have h3 : ∀ x ∈ (layOf g).map Ent.key, x ∈ (layOf f).map Ent.key := by
        intro x hx
        obtain ⟨e, he, rfl⟩ := List.mem_map.1 hx
        obtain ⟨h4, _⟩ := (lay_mem_get hg).1 he
        have h5 := h2 _ _ h4
        unfold tells1 at h5
        rw [Bool.and_eq_true] at h5
        exact List.mem_map.2 ⟨entL f e.s e.k, (lay_mem_get hf).2 ⟨h5.1, rfl⟩, rfl⟩
      have h4 := len_le _ _ (lay_keys f) hsub
      have h5 := len_le _ _ (lay_keys g) h3
      rw [List.length_map, List.length_map] at h4 h5
      omega
end Go.Proofs.Ytdedidcjbocicaa
