/-
  Plain facts on files with keys or sections renamed: renamed back they are as before. No program; condition: the renaming went well.
-/
import Derived.Test.YteifcogfnpeahaaQP
import Derived.Test.YteifcogfnpeahaaRenS
namespace Go.Proofs.Yteifcogfnpeahaa
open Go.RowKit

theorem renS_nowAt {ls : List Ln} {P : Nat → Bool} {to : ByteArray} (h : ∀ i, i < ls.length → P i = true → ls[i]!.k ≠ 2) : ∀ k, k ≤ ls.length → nowAt (renS ls P to) k = nowAt ls k := by
  intro k
  induction k with
  | zero => intro _; rfl
  | succ k ih =>
    intro hk
    have hk2 : k < ls.length := by omega
    rw [nowAt_succ hk2, nowAt_succ (by rw [renS_length]; exact hk2), ih (by omega), renS_get ls P to k hk2]
    by_cases hp : P k = true
    · have h2 := h k hk2 hp
      rw [get_bang hk2] at h2
      rw [if_pos hp]
      have : (ls[k].named to).k = ls[k].k := rfl
      rw [this, if_neg h2, if_neg h2]
    · rw [if_neg hp]
theorem renS_bang {ls : List Ln} (P : Nat → Bool) (to : ByteArray) {i : Nat} (h : i < ls.length) : (renS ls P to)[i]! = if P i = true then (ls[i]!).named to else ls[i]! := by
  rw [get_bang (by rw [renS_length]; exact h), renS_get ls P to i h, get_bang h]
/-- the facts of a key that was renamed -/
structure KeyRen (ls : List Ln) (s key to : ByteArray) (R : List Ln) : Prop where
  v : vfile ls = true
  vR : vfile R = true
  eq : R = renS ls (isPair ls s key) to
  has : pairsOf' ls s key ≠ []
  non : pairsOf' ls s to = []
theorem renK_ok {ls : List Ln} {s key to : ByteArray} (h : renKB ls s key to = true) : KeyRen ls s key to (renKL ls s key to) := by
  unfold renKB at h
  by_cases h1 : pairsOf' ls s key = []
  · rw [renRB_1 h1] at h; cases h
  · by_cases h2 : pairsOf' ls s to = []
    · rw [renRB_3 h1 h2] at h
      have e : renKL ls s key to = renS ls (isPair ls s key) to := by unfold renKL; rw [renR_3 h1 h2]; unfold chkL; rw [if_pos h]
      exact ⟨pairs_valid h1, by rw [e]; exact h, e, h1, h2⟩
    · rw [renRB_2 h1 h2] at h; cases h
theorem KeyRen.ne {ls : List Ln} {s key to : ByteArray} {R : List Ln} (h : KeyRen ls s key to R) : to ≠ key := fun e => h.has (e ▸ h.non)
theorem pairs_mem {ls : List Ln} {s key : ByteArray} (hv : vfile ls = true) {i : Nat} (hi : i < ls.length) (h : isPair ls s key i = true) : i ∈ pairsOf' ls s key := by
  unfold pairsOf' pairsTo
  rw [if_pos hv]
  exact List.mem_filter.2 ⟨List.mem_range.2 hi, h⟩
theorem KeyRen.none {ls : List Ln} {s key to : ByteArray} {R : List Ln} (h : KeyRen ls s key to R) {i : Nat} (hi : i < ls.length) : isPair ls s to i = false := by
  rcases hp : isPair ls s to i with _ | _
  · rfl
  · have := pairs_mem h.v hi hp
    rw [h.non] at this; cases this
theorem pair_3 {ls : List Ln} {s key : ByteArray} {i : Nat} (h : isPair ls s key i = true) : ls[i]!.k = 3 ∧ ls[i]!.na = key ∧ inSec ls s i = true := by
  unfold isPair isKey at h
  rw [Bool.and_eq_true, Bool.and_eq_true] at h
  exact ⟨eq_of_beq h.1.1, toList_inj (eq_of_beq h.1.2), h.2⟩
theorem KeyRen.sec {ls : List Ln} {s key to : ByteArray} {R : List Ln} (h : KeyRen ls s key to R) (t : ByteArray) {i : Nat} (hi : i < ls.length) : inSec R t i = inSec ls t i := by
  unfold inSec
  rw [h.eq, renS_nowAt (fun j _ hp => by have := (pair_3 hp).1; omega) (i + 1) (by omega)]
theorem KeyRen.pairTo {ls : List Ln} {s key to : ByteArray} {R : List Ln} (h : KeyRen ls s key to R) {i : Nat} (hi : i < ls.length) : isPair R s to i = isPair ls s key i := by
  have hs := h.sec s hi
  rcases hp : isPair ls s key i with _ | _
  · have hn := h.none hi
    unfold isPair isKey at hn ⊢
    rw [hs]
    rw [h.eq, renS_bang _ _ hi, hp]
    exact hn
  · obtain ⟨h1, _, h3⟩ := pair_3 hp
    unfold isPair isKey
    rw [hs, h3, h.eq, renS_bang _ _ hi, hp]
    simp only [if_true, Ln.named, h1]
    simp
theorem KeyRen.pairKey {ls : List Ln} {s key to : ByteArray} {R : List Ln} (h : KeyRen ls s key to R) {i : Nat} (hi : i < ls.length) : isPair R s key i = false := by
  have hs := h.sec s hi
  rcases hp : isPair ls s key i with _ | _
  · have hp2 := hp
    unfold isPair isKey at hp2 ⊢
    rw [hs]
    rw [h.eq, renS_bang _ _ hi, hp]
    exact hp2
  · unfold isPair isKey
    rw [h.eq, renS_bang _ _ hi, hp]
    have : (to.toList == key.toList) = false := by
      rw [beq_eq_false_iff_ne]
      exact fun e => h.ne (toList_inj e)
    simp [Ln.named, this]
theorem KeyRen.len {ls : List Ln} {s key to : ByteArray} {R : List Ln} (h : KeyRen ls s key to R) : R.length = ls.length := by rw [h.eq, renS_length]
theorem KeyRen.pairs {ls : List Ln} {s key to : ByteArray} {R : List Ln} (h : KeyRen ls s key to R) : pairsOf' R s to = pairsOf' ls s key ∧ pairsOf' R s key = [] := by
  unfold pairsOf' pairsTo
  rw [if_pos h.v, if_pos h.vR, if_pos h.vR, h.len]
  refine ⟨List.filter_congr fun i hi => h.pairTo (List.mem_range.1 hi), ?_⟩
  rw [List.filter_eq_nil_iff]
  intro i hi
  rw [h.pairKey (List.mem_range.1 hi)]
  simp
theorem KeyRen.back {ls : List Ln} {s key to : ByteArray} {R : List Ln} (h : KeyRen ls s key to R) : renS R (isPair R s to) key = ls := by
  apply List.ext_getElem (by rw [renS_length, h.len])
  intro i h1 h2
  have hR : i < R.length := by rw [h.len]; exact h2
  rw [renS_get R _ key i hR, h.pairTo h2]
  have e : R[i] = if isPair ls s key i = true then ls[i].named to else ls[i] := by
    have := renS_get ls (isPair ls s key) to i h2
    simp only [h.eq]
    exact this
  rcases hp : isPair ls s key i with _ | _
  · rw [hp] at e
    simpa using e
  · rw [hp] at e
    have hk := (pair_3 hp).2.1
    rw [get_bang h2] at hk
    simp only [if_true] at e ⊢
    rw [e, named_twice, ← hk]
    rfl
theorem KeyRen.again {ls : List Ln} {s key to : ByteArray} {R : List Ln} (h : KeyRen ls s key to R) : renKL R s to key = ls ∧ renKB R s to key = true := by
  obtain ⟨h1, h2⟩ := h.pairs
  have hne : ¬ pairsOf' R s to = [] := by rw [h1]; exact h.has
  unfold renKL renKB
  rw [renR_3 hne h2, renRB_3 hne h2, h.back]
  unfold chkL
  rw [if_pos h.v]
  exact ⟨rfl, h.v⟩
theorem KeyRen.where_ {ls : List Ln} {s key to : ByteArray} {R : List Ln} (h : KeyRen ls s key to R) : whereOf R s to = whereOf ls s key ∧ whereOf R s key = -1 := by
  obtain ⟨h1, h2⟩ := h.pairs
  rw [whereOf_eq, whereOf_eq, whereOf_eq, h1, h2]
  exact ⟨rfl, rfl⟩
theorem KeyRen.get {ls : List Ln} {s key to : ByteArray} {R : List Ln} (h : KeyRen ls s key to R) : getV R s to = getV ls s key ∧ getB R s to = true ∧ getB R s key = false := by
  obtain ⟨h1, h2⟩ := h.where_
  have hw : ¬ whereOf ls s key < 0 := fun h9 => h.has ((where_pairs ls s key).1 h9)
  refine ⟨?_, ?_, ?_⟩
  · unfold getV
    rw [h1, if_neg hw, if_neg hw]
    obtain ⟨i, hi⟩ : ∃ i : Nat, whereOf ls s key = i := ⟨(whereOf ls s key).toNat, by omega⟩
    have hl := (where_pair hi).1
    rw [hi, Int.toNat_natCast, h.eq, renS_bang _ _ hl]
    split <;> rfl
  · unfold getB; rw [h1]; simpa using hw
  · unfold getB; rw [h2]; rfl

/-! ### sections -/
/-- the facts of a section that was renamed -/
structure SecRen (ls : List Ln) (s to : ByteArray) (R : List Ln) : Prop where
  v : vfile ls = true
  vR : vfile R = true
  eq : R = renS ls (headP ls s) to
  has : headsOf' ls s ≠ []
  non : headsOf' ls to = []
theorem renS_ok {ls : List Ln} {s to : ByteArray} (h : renSB ls s to = true) : SecRen ls s to (renSL ls s to) := by
  unfold renSB at h
  by_cases h1 : headsOf' ls s = []
  · rw [renRB_1 h1] at h; cases h
  · by_cases h2 : headsOf' ls to = []
    · rw [renRB_3 h1 h2] at h
      have e : renSL ls s to = renS ls (headP ls s) to := by unfold renSL; rw [renR_3 h1 h2]; unfold chkL; rw [if_pos h]
      exact ⟨heads_valid h1, by rw [e]; exact h, e, h1, h2⟩
    · rw [renRB_2 h1 h2] at h; cases h
section
variable {ls : List Ln} {s to : ByteArray} {R : List Ln}
theorem SecRen.ne (h : SecRen ls s to R) : to ≠ s := fun e => h.has (e ▸ h.non)
theorem SecRen.len (h : SecRen ls s to R) : R.length = ls.length := by rw [h.eq, renS_length]
theorem SecRen.none (h : SecRen ls s to R) {i : Nat} (hi : i < ls.length) : headP ls to i = false := by
  rcases hp : headP ls to i with _ | _
  · rfl
  · have : i ∈ headsOf' ls to := by rw [headsOf_eq to h.v]; exact List.mem_filter.2 ⟨List.mem_range.2 hi, hp⟩
    rw [h.non] at this; cases this
theorem head_2 {ls : List Ln} {s : ByteArray} {i : Nat} (h : headP ls s i = true) : ls[i]!.k = 2 ∧ ls[i]!.na = s := by
  unfold headP isHd at h
  rw [Bool.and_eq_true] at h
  exact ⟨eq_of_beq h.1, toList_inj (eq_of_beq h.2)⟩
theorem SecRen.bang (h : SecRen ls s to R) {i : Nat} (hi : i < ls.length) : R[i]! = if headP ls s i = true then (ls[i]!).named to else ls[i]! := by rw [h.eq, renS_bang _ _ hi]
theorem SecRen.some_ (h : SecRen ls s to R) : ∃ i, i < ls.length ∧ headP ls s i = true := by
  obtain ⟨i, t, hi⟩ := List.exists_cons_of_ne_nil h.has
  have : i ∈ headsOf' ls s := by rw [hi]; simp
  rw [headsOf_eq s h.v] at this
  have := List.mem_filter.1 this
  exact ⟨i, List.mem_range.1 this.1, this.2⟩
theorem SecRen.name (h : SecRen ls s to R) : vname s = true ∧ vname to = true := by
  obtain ⟨i, hi, hp⟩ := h.some_
  have h1 := head_2 hp
  rw [get_bang hi] at h1
  have hR : i < R.length := by rw [h.len]; exact hi
  have e := h.bang hi
  rw [hp, if_pos rfl, get_bang hR, get_bang hi] at e
  refine ⟨h1.2 ▸ vline_head (vfile_line h.v i hi) h1.1, ?_⟩
  have h2 := vline_head (vfile_line h.vR i hR) (by rw [e]; exact h1.1)
  rw [e] at h2
  exact h2
theorem SecRen.now (h : SecRen ls s to R) : ∀ k, k ≤ ls.length → nowAt R k = if nowAt ls k = s then to else nowAt ls k := by
  have hs : s ≠ ⟨#[]⟩ := fun e => by have := h.name.1; rw [e, vname_empty] at this; cases this
  intro k
  induction k with
  | zero =>
    intro _
    have e : nowAt ls 0 = ⟨#[]⟩ := rfl
    have e2 : nowAt R 0 = ⟨#[]⟩ := rfl
    rw [e, e2, if_neg (fun e => hs e.symm)]
  | succ k ih =>
    intro hk
    have hk2 : k < ls.length := by omega
    have hR : k < R.length := by rw [h.len]; exact hk2
    have e := h.bang hk2
    rw [get_bang hR, get_bang hk2] at e
    rw [nowAt_succ hk2, nowAt_succ hR, e]
    rcases hp : headP ls s k with _ | _
    · simp only [Bool.false_eq_true, if_false]
      by_cases h2 : ls[k].k = 2
      · rw [if_pos h2, if_pos h2]
        have hne : ls[k].na ≠ s := fun e9 => by
          unfold headP isHd at hp
          rw [get_bang hk2, h2, e9] at hp
          simp at hp
        rw [if_neg hne]
      · rw [if_neg h2, if_neg h2]
        exact ih (by omega)
    · have h2 := head_2 hp
      rw [get_bang hk2] at h2
      simp only [if_true]
      have e3 : (ls[k].named to).k = 2 := h2.1
      rw [if_pos e3, if_pos h2.1, if_pos h2.2]
      rfl
theorem SecRen.nowNot (h : SecRen ls s to R) : ∀ k, k ≤ ls.length → nowAt ls k ≠ to := by
  have ht : to ≠ ⟨#[]⟩ := fun e => by have := h.name.2; rw [e, vname_empty] at this; cases this
  intro k hk e
  rcases nowAt_head ls k hk with h1 | ⟨j, hj, h1, h2⟩
  · exact ht (e ▸ h1)
  · have := h.none (i := j) (by omega)
    unfold headP at this
    rw [h1, h2, e] at this
    simp at this
theorem SecRen.secTo (h : SecRen ls s to R) {i : Nat} (hi : i < ls.length) : inSec R to i = inSec ls s i := by
  unfold inSec
  rw [h.now (i + 1) (by omega)]
  by_cases e : nowAt ls (i + 1) = s
  · rw [if_pos e, e]; simp
  · rw [if_neg e]
    have h1 : ((nowAt ls (i + 1)).toList == s.toList) = false := by rw [beq_eq_false_iff_ne]; exact fun e9 => e (toList_inj e9)
    have h2 : ((nowAt ls (i + 1)).toList == to.toList) = false := by rw [beq_eq_false_iff_ne]; exact fun e9 => h.nowNot (i + 1) (by omega) (toList_inj e9)
    rw [h1, h2]
theorem SecRen.secS (h : SecRen ls s to R) {i : Nat} (hi : i < ls.length) : inSec R s i = false := by
  unfold inSec
  rw [h.now (i + 1) (by omega), beq_eq_false_iff_ne]
  intro e9
  have e9 := toList_inj e9
  by_cases e : nowAt ls (i + 1) = s
  · rw [if_pos e] at e9; exact h.ne e9
  · rw [if_neg e] at e9; exact e e9
theorem SecRen.kind (h : SecRen ls s to R) {i : Nat} (hi : i < ls.length) : R[i]!.k = ls[i]!.k := by
  rw [h.bang hi]
  split <;> rfl
theorem SecRen.keysTo_ (h : SecRen ls s to R) : ∀ k, k ≤ ls.length → keysTo R to k = keysTo ls s k := by
  intro k
  induction k with
  | zero => intro _; rfl
  | succ k ih =>
    intro hk
    have hk2 : k < ls.length := by omega
    have hkd := h.kind hk2
    have hse := h.secTo hk2
    by_cases h3 : (ls[k]!.k == 3 && inSec ls s k) = true
    · rw [keysTo_yes h3, keysTo_yes (by rw [hkd, hse]; exact h3), ih (by omega)]
      have : headP ls s k = false := by
        unfold headP isHd
        rw [Bool.and_eq_true] at h3
        have := eq_of_beq h3.1
        rw [this]; rfl
      have hb := h.bang hk2
      rw [this] at hb
      rw [hb]; rfl
    · have h3' : (ls[k]!.k == 3 && inSec ls s k) = false := by simpa using h3
      rw [keysTo_no h3', keysTo_no (by rw [hkd, hse]; exact h3'), ih (by omega)]
theorem SecRen.keys (h : SecRen ls s to R) : keysOf' R to = keysOf' ls s := by
  unfold keysOf'
  rw [if_pos h.v, if_pos h.vR, h.len]
  exact h.keysTo_ _ (Nat.le_refl _)
theorem SecRen.secs (h : SecRen ls s to R) : hasT (secsOf' R) s = false := by
  rcases hh : hasT (secsOf' R) s with _ | _
  · rfl
  · exfalso
    have h1 := hasT_mem.1 hh
    unfold secsOf' at h1
    rw [if_pos h.vR] at h1
    have key : ∀ k, k ≤ R.length → s ∉ secsTo R k := by
      intro k
      induction k with
      | zero => intro _ h; cases h
      | succ k ih =>
        intro hk hm
        have hk2 : k < ls.length := by have := h.len; omega
        by_cases hs : secLine R k = true
        · rw [secsTo_yes hs] at hm
          rcases addT_iff.1 hm with hm | hm
          · exact ih (by omega) hm
          · have := h.secS hk2
            unfold inSec at this
            rw [← hm] at this
            simp at this
        · rw [secsTo_no (by simpa using hs)] at hm
          exact ih (by omega) hm
    exact key _ (Nat.le_refl _) h1
theorem SecRen.headTo (h : SecRen ls s to R) {i : Nat} (hi : i < ls.length) : headP R to i = headP ls s i := by
  rcases hp : headP ls s i with _ | _
  · have hn := h.none hi
    unfold headP isHd at hn ⊢
    rw [h.bang hi, hp]
    exact hn
  · have h2 := head_2 hp
    unfold headP isHd
    rw [h.bang hi, hp]
    simp only [if_true, Ln.named, h2.1]
    simp
theorem SecRen.headS (h : SecRen ls s to R) {i : Nat} (hi : i < ls.length) : headP R s i = false := by
  rcases hp : headP ls s i with _ | _
  · have hp2 := hp
    unfold headP isHd at hp2 ⊢
    rw [h.bang hi, hp]
    exact hp2
  · unfold headP isHd
    rw [h.bang hi, hp]
    have : (to.toList == s.toList) = false := by rw [beq_eq_false_iff_ne]; exact fun e => h.ne (toList_inj e)
    simp [Ln.named, this]
theorem SecRen.back (h : SecRen ls s to R) : renS R (headP R to) s = ls := by
  apply List.ext_getElem (by rw [renS_length, h.len])
  intro i h1 h2
  have hR : i < R.length := by rw [h.len]; exact h2
  rw [renS_get R _ s i hR, h.headTo h2]
  have e := h.bang h2
  rw [get_bang hR, get_bang h2] at e
  rcases hp : headP ls s i with _ | _
  · rw [hp] at e
    simpa using e
  · rw [hp] at e
    have hk := (head_2 hp).2
    rw [get_bang h2] at hk
    simp only [if_true] at e ⊢
    rw [e, named_twice, ← hk]
    rfl
theorem SecRen.again (h : SecRen ls s to R) : renSL R to s = ls ∧ renSB R to s = true := by
  have h1 : headsOf' R to = headsOf' ls s := by
    rw [headsOf_eq to h.vR, headsOf_eq s h.v, h.len]
    exact List.filter_congr fun i hi => h.headTo (List.mem_range.1 hi)
  have h2 : headsOf' R s = [] := by
    rw [headsOf_eq s h.vR, h.len, List.filter_eq_nil_iff]
    intro i hi
    rw [h.headS (List.mem_range.1 hi)]
    simp
  have hne : ¬ headsOf' R to = [] := by rw [h1]; exact h.has
  unfold renSL renSB
  rw [renR_3 hne h2, renRB_3 hne h2, h.back]
  unfold chkL
  rw [if_pos h.v]
  exact ⟨rfl, h.v⟩
end
end Go.Proofs.Yteifcogfnpeahaa
