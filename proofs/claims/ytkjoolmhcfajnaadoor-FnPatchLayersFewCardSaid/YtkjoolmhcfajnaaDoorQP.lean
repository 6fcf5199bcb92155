/-
  Plain facts on files: which keys and sections they tell, heads, lines with their sections, what the last pair of a key tells. No program; condition: the file is valid where it is said.
-/
import Derived.Test.YtkjoolmhcfajnaaDoorGrow
namespace Go.Proofs.YtkjoolmhcfajnaaDoor
open Go.RowKit

/-! ### what is in a list of texts that grows once each -/
theorem hasT_mem {xs : List ByteArray} {s : ByteArray} : hasT xs s = true ↔ s ∈ xs := by
  unfold hasT
  rw [List.any_eq_true]
  constructor
  · rintro ⟨x, hx, h⟩
    have : x = s := toList_inj (by simpa using h)
    subst this
    exact hx
  · intro h
    exact ⟨s, h, by simp⟩
theorem addT_iff {xs : List ByteArray} {s x : ByteArray} : x ∈ addT xs s ↔ x ∈ xs ∨ x = s := by
  unfold addT
  split
  · rename_i h
    have := hasT_mem.1 h
    constructor
    · exact .inl
    · rintro (h | rfl)
      · exact h
      · exact this
  · rw [List.mem_append, List.mem_singleton]
theorem addT_nodup {xs : List ByteArray} {s : ByteArray} (h : xs.Nodup) : (addT xs s).Nodup := by
  unfold addT
  split
  · exact h
  · rename_i h2
    have hs : s ∉ xs := fun h3 => h2 (hasT_mem.2 h3)
    rw [List.nodup_append]
    refine ⟨h, by simp, ?_⟩
    intro a ha b hb e
    rw [List.mem_singleton] at hb
    subst hb; subst e
    exact hs ha
theorem keysTo_nodup (ls : List Ln) (s : ByteArray) : ∀ k, (keysTo ls s k).Nodup := by
  intro k
  induction k with
  | zero => exact List.nodup_nil
  | succ k ih =>
    by_cases h : (ls[k]!.k == 3 && inSec ls s k) = true
    · rw [keysTo_yes h]; exact addT_nodup ih
    · rw [keysTo_no (by simpa using h)]; exact ih
theorem secsTo_nodup (ls : List Ln) : ∀ k, (secsTo ls k).Nodup := by
  intro k
  induction k with
  | zero => exact List.nodup_nil
  | succ k ih =>
    by_cases h : secLine ls k = true
    · rw [secsTo_yes h]; exact addT_nodup ih
    · rw [secsTo_no (by simpa using h)]; exact ih
theorem keysTo_in (ls : List Ln) (s x : ByteArray) : ∀ k, 0 ≤ lastP ls s x k → x ∈ keysTo ls s k := by
  intro k
  induction k with
  | zero => intro h; simp [lastP] at h
  | succ k ih =>
    intro h
    by_cases hp : isPair ls s x k = true
    · unfold isPair isKey at hp
      rw [Bool.and_eq_true, Bool.and_eq_true] at hp
      rw [keysTo_yes (by rw [hp.1.1, hp.2]; rfl)]
      exact addT_iff.2 (.inr (toList_inj (eq_of_beq hp.1.2).symm))
    · rw [lastP_no (by simpa using hp)] at h
      by_cases hk : (ls[k]!.k == 3 && inSec ls s k) = true
      · rw [keysTo_yes hk]; exact addT_iff.2 (.inl (ih h))
      · rw [keysTo_no (by simpa using hk)]; exact ih h
theorem secsTo_in (ls : List Ln) (s x : ByteArray) : ∀ k, 0 ≤ lastP ls s x k → s ∈ secsTo ls k := by
  intro k
  induction k with
  | zero => intro h; simp [lastP] at h
  | succ k ih =>
    intro h
    by_cases hp : isPair ls s x k = true
    · unfold isPair isKey at hp
      rw [Bool.and_eq_true, Bool.and_eq_true] at hp
      rw [secsTo_yes (by unfold secLine; rw [hp.1.1, Bool.or_true])]
      have h2 := hp.2
      unfold inSec at h2
      exact addT_iff.2 (.inr (toList_inj (eq_of_beq h2).symm))
    · rw [lastP_no (by simpa using hp)] at h
      by_cases hk : secLine ls k = true
      · rw [secsTo_yes hk]; exact addT_iff.2 (.inl (ih h))
      · rw [secsTo_no (by simpa using hk)]; exact ih h
/-- a key is there exactly if it is told -/
theorem getB_iff {ls : List Ln} (hv : vfile ls = true) (s k : ByteArray) : getB ls s k = true ↔ s ∈ secsOf' ls ∧ k ∈ keysOf' ls s := by
  unfold secsOf' keysOf'
  rw [if_pos hv, if_pos hv, show getB ls s k = !decide (whereOf ls s k < 0) from rfl, whereOf_yes s k hv]
  constructor
  · intro h
    have h0 : 0 ≤ lastP ls s k ls.length := by simp at h; exact h
    exact ⟨secsTo_in ls s k _ h0, keysTo_in ls s k _ h0⟩
  · rintro ⟨_, h⟩
    have := keysTo_last ls s _ k h
    simp
    exact this

/-! ### heads -/
/-- line i is a head -/
def isHd (ls : List Ln) (i : Nat) : Bool := ls[i]!.k == 2
/-- line i is a head of the section -/
def headP (ls : List Ln) (s : ByteArray) (i : Nat) : Bool := isHd ls i && (ls[i]!.na.toList == s.toList)
def headsOf' (ls : List Ln) (s : ByteArray) : List Nat := (secOf ls s).filter (isHd ls)
theorem inSec_head {ls : List Ln} {s : ByteArray} {i : Nat} (hi : i < ls.length) (h : isHd ls i = true) : inSec ls s i = (ls[i]!.na.toList == s.toList) := by
  unfold inSec
  unfold isHd at h
  rw [get_bang hi] at h ⊢
  rw [nowAt_succ hi, if_pos (by simpa using h)]
theorem headsOf_eq {ls : List Ln} (s : ByteArray) (hv : vfile ls = true) : headsOf' ls s = (List.range ls.length).filter (headP ls s) := by
  unfold headsOf' secOf
  rw [if_pos hv]
  unfold secTo
  rw [List.filter_filter]
  apply List.filter_congr
  intro i hi
  unfold headP
  by_cases h : isHd ls i = true
  · rw [h, Bool.true_and, Bool.true_and, inSec_head (List.mem_range.1 hi) h]
  · have h' : isHd ls i = false := by simpa using h
    rw [h', Bool.false_and, Bool.false_and]
theorem headsOf_no {ls : List Ln} (s : ByteArray) (hv : vfile ls = false) : headsOf' ls s = [] := by
  unfold headsOf' secOf
  rw [if_neg (by rw [hv]; simp)]
  rfl
theorem heads_valid {ls : List Ln} {s : ByteArray} (h : ¬ headsOf' ls s = []) : vfile ls = true := by
  rcases hv : vfile ls with _ | _
  · exact absurd (headsOf_no s hv) h
  · rfl
/-- the section of a line that is not without a name begins with a head -/
theorem nowAt_head (ls : List Ln) : ∀ k, k ≤ ls.length → nowAt ls k = ⟨#[]⟩ ∨ ∃ j, j < k ∧ isHd ls j = true ∧ ls[j]!.na = nowAt ls k := by
  intro k
  induction k with
  | zero => intro _; exact .inl rfl
  | succ k ih =>
    intro hk
    have hk2 : k < ls.length := by omega
    rw [nowAt_succ hk2]
    by_cases h : ls[k].k = 2
    · rw [if_pos h]
      exact .inr ⟨k, by omega, by unfold isHd; rw [get_bang hk2, h]; rfl, by rw [get_bang hk2]⟩
    · rw [if_neg h]
      rcases ih (by omega) with h1 | ⟨j, h1, h2, h3⟩
      · exact .inl h1
      · exact .inr ⟨j, by omega, h2, h3⟩

/-- the place behind which a new pair of a section comes, as far as the first k lines tell -/
def placeTo (ls : List Ln) (s : ByteArray) : Nat → Int
  | 0 => if s.toList.isEmpty = true then -1 else -2
  | k + 1 => if (inSec ls s k && secLine ls k) = true then (k : Int) else placeTo ls s k
theorem placeTo_yes {ls : List Ln} {s : ByteArray} {k : Nat} (h : (inSec ls s k && secLine ls k) = true) : placeTo ls s (k + 1) = k := by
  show (if _ then _ else _) = _
  rw [if_pos h]
theorem placeTo_no {ls : List Ln} {s : ByteArray} {k : Nat} (h : (inSec ls s k && secLine ls k) = false) : placeTo ls s (k + 1) = placeTo ls s k := by
  show (if _ then _ else _) = _
  rw [if_neg (by rw [h]; simp)]
theorem placeTo_lt (ls : List Ln) (s : ByteArray) (k : Nat) : placeTo ls s k < k ∧ -2 ≤ placeTo ls s k ∧ (s.toList.isEmpty = true → -1 ≤ placeTo ls s k) := by
  induction k with
  | zero => unfold placeTo; split <;> simp_all
  | succ k ih =>
    by_cases h : (inSec ls s k && secLine ls k) = true
    · rw [placeTo_yes h]; omega
    · rw [placeTo_no (by simpa using h)]
      exact ⟨by omega, ih.2.1, ih.2.2⟩
theorem placeTo_some {ls : List Ln} {s : ByteArray} {k : Nat} (h : 0 ≤ placeTo ls s k) : ∃ j, j < k ∧ inSec ls s j = true ∧ secLine ls j = true := by
  induction k with
  | zero => unfold placeTo at h; split at h <;> omega
  | succ k ih =>
    by_cases h2 : (inSec ls s k && secLine ls k) = true
    · rw [Bool.and_eq_true] at h2
      exact ⟨k, by omega, h2.1, h2.2⟩
    · rw [placeTo_no (by simpa using h2)] at h
      obtain ⟨j, h3, h4⟩ := ih h
      exact ⟨j, by omega, h4⟩
theorem placeTo_none {ls : List Ln} {s : ByteArray} {k : Nat} (h : placeTo ls s k < 0) : ∀ j, j < k → (inSec ls s j && secLine ls j) = false := by
  induction k with
  | zero => intro j hj; omega
  | succ k ih =>
    intro j hj
    by_cases h2 : (inSec ls s k && secLine ls k) = true
    · rw [placeTo_yes h2] at h; omega
    · rw [placeTo_no (by simpa using h2)] at h
      by_cases e : j = k
      · subst e; simpa using h2
      · exact ih h j (by omega)
/-- a section with a name has a place exactly if it has a head -/
theorem place_heads {ls : List Ln} {s : ByteArray} (hv : vfile ls = true) (hs : s.toList.isEmpty = false) : placeTo ls s ls.length < 0 ↔ headsOf' ls s = [] := by
  rw [headsOf_eq s hv]
  constructor
  · intro h
    rw [List.filter_eq_nil_iff]
    intro i hi hp
    have hil := List.mem_range.1 hi
    unfold headP at hp
    rw [Bool.and_eq_true] at hp
    have h1 := placeTo_none h i hil
    rw [inSec_head hil hp.1, hp.2, Bool.true_and] at h1
    have h2 := hp.1
    unfold isHd at h2
    unfold secLine at h1
    rw [h2] at h1
    simp at h1
  · intro h
    rcases Int.lt_or_le (placeTo ls s ls.length) 0 with h0 | h0
    · exact h0
    · exfalso
      obtain ⟨j, hj, h1, h2⟩ := placeTo_some h0
      have he : (nowAt ls (j + 1)).toList = s.toList := by unfold inSec at h1; simpa using h1
      rcases nowAt_head ls (j + 1) (by omega) with h3 | ⟨q, h3, h4, h5⟩
      · rw [h3] at he
        rw [← he] at hs
        simp at hs
      · have := List.filter_eq_nil_iff.1 h q (List.mem_range.2 (by omega))
        apply this
        unfold headP
        rw [h4, h5, he]
        simp
theorem heads_empty {ls : List Ln} {s : ByteArray} (hs : s.toList.isEmpty = true) : headsOf' ls s = [] := by
  rcases hv : vfile ls with _ | _
  · exact headsOf_no s hv
  · rw [headsOf_eq s hv, List.filter_eq_nil_iff]
    intro i hi hp
    have hil := List.mem_range.1 hi
    unfold headP isHd at hp
    rw [Bool.and_eq_true, get_bang hil] at hp
    have hvl := vfile_line hv i hil
    obtain ⟨h1, h2⟩ := hp
    have hk : ls[i].k = 2 := by simpa using h1
    have he : ls[i].na.toList = [] := by
      have h3 : ls[i].na.toList = s.toList := by simpa using h2
      rw [h3]; simpa using hs
    have hn0 : ls[i].na.size = 0 := by rw [← toList_length, he]; rfl
    obtain ⟨l, hl⟩ : ∃ l, ls[i] = l := ⟨_, rfl⟩
    rw [hl] at hvl hk hn0
    obtain ⟨lk, le, na, se, va, ta⟩ := l
    simp only at hk hn0
    subst hk
    have hx : vname na = false := vname_size (.inl hn0)
    simp [vline, hx] at hvl
theorem vfile_mem {ls : List Ln} : vfile ls = true ↔ (∀ l ∈ ls, vline l = true) ∧ ls.length ≤ 20 := by
  unfold vfile vlines
  rw [Bool.and_eq_true, List.all_eq_true, decide_eq_true_iff]
theorem vline_3p {l : Ln} (hk : l.k = 3) (h : vline l = true) : vname l.na = true ∧ vvalue l.va = true := by
  obtain ⟨lk, le, na, se, va, ta⟩ := l
  simp only at hk
  subst hk
  have h : (vspaces le && (vname na && (vsep se && (vvalue va && _)))) = true := h
  simp only [Bool.and_eq_true] at h
  exact ⟨h.2.1, h.2.2.2.1⟩
theorem vline_2p {l : Ln} (hk : l.k = 2) (h : vline l = true) : vname l.na = true := by
  obtain ⟨lk, le, na, se, va, ta⟩ := l
  simp only at hk
  subst hk
  have h : (vspaces le && (vname na && _)) = true := h
  simp only [Bool.and_eq_true] at h
  exact h.2.1
theorem head_name {ls : List Ln} {j : Nat} (hv : vfile ls = true) (hj : j < ls.length) (h : isHd ls j = true) : vname ls[j]!.na = true := by
  have h1 := vfile_line hv j hj
  unfold isHd at h
  rw [get_bang hj] at h ⊢
  exact vline_2p (by simpa using h) h1
theorem sec_name {ls : List Ln} {s : ByteArray} {k : Nat} (hv : vfile ls = true) (hk : k < ls.length) (h : inSec ls s k = true) : (s.toList.isEmpty || vname s) = true := by
  unfold inSec at h
  have he : nowAt ls (k + 1) = s := toList_inj (by simpa using h)
  rcases nowAt_head ls (k + 1) (by omega) with h1 | ⟨j, h1, h2, h3⟩
  · have h4 : s = ⟨#[]⟩ := by rw [← he, h1]
    rw [h4]
    simp
  · have h4 := head_name hv (by omega) h2
    rw [h3, he] at h4
    rw [h4, Bool.or_true]

theorem lastP_hit (ls : List Ln) (s key : ByteArray) : ∀ (k i : Nat), lastP ls s key k = i → i < k ∧ isPair ls s key i = true := by
  intro k
  induction k with
  | zero => intro i h; simp only [lastP] at h; omega
  | succ k ih =>
    intro i h
    by_cases hp : isPair ls s key k = true
    · rw [lastP_yes hp] at h
      have : i = k := by omega
      subst this
      exact ⟨by omega, hp⟩
    · rw [lastP_no (by simpa using hp)] at h
      have := ih i h
      exact ⟨by omega, this.2⟩
theorem where_pair {ls : List Ln} {s key : ByteArray} {i : Nat} (h : whereOf ls s key = i) : i < ls.length ∧ isPair ls s key i = true ∧ vfile ls = true := by
  unfold whereOf at h
  by_cases hv : vfile ls = true
  · rw [if_pos hv] at h
    have := lastP_hit ls s key _ i h
    exact ⟨this.1, this.2, hv⟩
  · rw [if_neg hv] at h; omega
/-- the line of a key is a pair of it -/
theorem where_line {ls : List Ln} {s key : ByteArray} {i : Nat} (h : whereOf ls s key = i) (hi : i < ls.length) : ls[i].k = 3 ∧ ls[i].na = key := by
  have h2 := (where_pair h).2.1
  unfold isPair isKey at h2
  rw [Bool.and_eq_true, Bool.and_eq_true, get_bang hi] at h2
  exact ⟨eq_of_beq h2.1.1, toList_inj (eq_of_beq h2.1.2)⟩

theorem keys_has {ls : List Ln} (hv : vfile ls = true) (s k : ByteArray) : hasT (keysOf' ls s) k = getB ls s k := by
  rw [Bool.eq_iff_iff, hasT_mem, getB_iff hv]
  constructor
  · intro h
    refine ⟨?_, h⟩
    unfold keysOf' at h
    rw [if_pos hv] at h
    unfold secsOf'
    rw [if_pos hv]
    exact secsTo_in ls s k _ (keysTo_last ls s _ k h)
  · exact fun h => h.2
theorem keys_nodup (ls : List Ln) (s : ByteArray) : (keysOf' ls s).Nodup := by
  unfold keysOf'
  split
  · exact keysTo_nodup _ _ _
  · exact List.nodup_nil
theorem secs_nodup (ls : List Ln) : (secsOf' ls).Nodup := by
  unfold secsOf'
  split
  · exact secsTo_nodup _ _
  · exact List.nodup_nil
/-- keys are of sections -/
theorem keys_sec {ls : List Ln} {s : ByteArray} (h : keysOf' ls s ≠ []) : hasT (secsOf' ls) s = true := by
  have hv : vfile ls = true := by
    rcases hv : vfile ls with _ | _
    · exact absurd (by unfold keysOf'; rw [if_neg (by rw [hv]; simp)]) h
    · rfl
  obtain ⟨k, t, hk⟩ := List.exists_cons_of_ne_nil h
  have := keys_has hv s k
  have h2 : hasT (keysOf' ls s) k = true := hasT_mem.2 (by rw [hk]; simp)
  rw [h2] at this
  exact hasT_mem.2 ((getB_iff hv s k).1 this.symm).1

/-! ### sections are names but for the first one -/
theorem vline_hd {l : Ln} (h : vline l = true) (h2 : l.k = 2) : vname l.na = true := by
  unfold vline at h
  simp [h2] at h
  exact h.2.1
theorem nowAt_valid {ls : List Ln} (hv : vfile ls = true) : ∀ k, k ≤ ls.length → nowAt ls k = ⟨#[]⟩ ∨ vname (nowAt ls k) = true := by
  intro k
  induction k with
  | zero => intro _; exact .inl rfl
  | succ k ih =>
    intro hk
    have hk2 : k < ls.length := by omega
    rw [nowAt_succ hk2]
    by_cases h2 : ls[k].k = 2
    · rw [if_pos h2]
      exact .inr (vline_hd (vfile_line hv k hk2) h2)
    · rw [if_neg h2]
      exact ih (by omega)
theorem vname_empty : vname (⟨#[]⟩ : ByteArray) = false := vname_size (.inl rfl)
theorem nowAt_first {ls : List Ln} (hv : vfile ls = true) {k : Nat} (hk : k < ls.length) (h : nowAt ls (k + 1) = ⟨#[]⟩) : nowAt ls k = ⟨#[]⟩ := by
  rw [nowAt_succ hk] at h
  by_cases h2 : ls[k].k = 2
  · rw [if_pos h2] at h
    have := vline_hd (vfile_line hv k hk) h2
    rw [h, vname_empty] at this
    cases this
  · rw [if_neg h2] at h; exact h
theorem secsTo_first {ls : List Ln} (hv : vfile ls = true) : ∀ k, k ≤ ls.length → nowAt ls k = ⟨#[]⟩ → ∀ x ∈ secsTo ls k, x = ⟨#[]⟩ := by
  intro k
  induction k with
  | zero => intro _ _ x hx; cases hx
  | succ k ih =>
    intro hk h x hx
    have h0 := nowAt_first hv (by omega) h
    by_cases hs : secLine ls k = true
    · rw [secsTo_yes hs] at hx
      rcases addT_iff.1 hx with hx | hx
      · exact ih (by omega) h0 x hx
      · rw [hx, h]
    · rw [secsTo_no (by simpa using hs)] at hx
      exact ih (by omega) h0 x hx
theorem secsTo_names {ls : List Ln} (hv : vfile ls = true) : ∀ k, k ≤ ls.length → ∀ i (h : i < (secsTo ls k).length), vname (secsTo ls k)[i] = true ∨ (i = 0 ∧ (secsTo ls k)[i] = ⟨#[]⟩) := by
  intro k
  induction k with
  | zero => intro _ i h; exact absurd h (by simp [secsTo])
  | succ k ih =>
    intro hk i h
    by_cases hs : secLine ls k = true
    · by_cases ht : hasT (secsTo ls k) (nowAt ls (k + 1)) = true
      · have e : secsTo ls (k + 1) = secsTo ls k := by rw [secsTo_yes hs, addT_yes ht]
        have := ih (by omega) i (by rw [e] at h; exact h)
        simpa only [e] using this
      · have e : secsTo ls (k + 1) = secsTo ls k ++ [nowAt ls (k + 1)] := by rw [secsTo_yes hs, addT_no (by simpa using ht)]
        by_cases hi : i < (secsTo ls k).length
        · have := ih (by omega) i hi
          simp only [e]
          rw [List.getElem_append_left hi]
          exact this
        · have hl : i = (secsTo ls k).length := by rw [e] at h; simp at h; omega
          subst hl
          simp only [e]
          rw [List.getElem_append_right (Nat.le_refl _)]
          simp only [Nat.sub_self, List.getElem_singleton]
          rcases nowAt_valid hv (k + 1) hk with h1 | h1
          · refine .inr ⟨?_, h1⟩
            rcases Nat.eq_zero_or_pos (secsTo ls k).length with h9 | h9
            · exact h9
            · exfalso
              have hx := secsTo_first hv k (by omega) (nowAt_first hv (by omega) h1) _ (List.getElem_mem h9)
              exact ht (hasT_mem.2 (by rw [h1, ← hx]; exact List.getElem_mem h9))
          · exact .inl h1
    · have e : secsTo ls (k + 1) = secsTo ls k := secsTo_no (by simpa using hs)
      have := ih (by omega) i (by rw [e] at h; exact h)
      simpa only [e] using this
theorem secs_names (ls : List Ln) (i : Nat) (h : i < (secsOf' ls).length) : vname (secsOf' ls)[i] = true ∨ (i = 0 ∧ (secsOf' ls)[i] = ⟨#[]⟩) := by
  rcases hv : vfile ls with _ | _
  · have e : secsOf' ls = [] := by unfold secsOf'; rw [if_neg (by rw [hv]; simp)]
    rw [e] at h; exact absurd h (by simp)
  · have e : secsOf' ls = secsTo ls ls.length := by unfold secsOf'; rw [if_pos hv]
    have := secsTo_names hv ls.length (Nat.le_refl _) i (by rw [e] at h; exact h)
    simpa only [e] using this

/-- the section behind lines -/
def nowF (now : ByteArray) (ls : List Ln) : ByteArray := ls.foldl (fun now l => if l.k = 2 then l.na else now) now
/-- lines with their sections -/
def tagF : ByteArray → List Ln → List (ByteArray × Ln)
  | _, [] => []
  | now, l :: t => (if l.k = 2 then l.na else now, l) :: tagF (if l.k = 2 then l.na else now) t
def tagOf (ls : List Ln) : List (ByteArray × Ln) := tagF ⟨#[]⟩ ls
theorem nowAt_nowF (ls : List Ln) (k : Nat) : nowAt ls k = nowF ⟨#[]⟩ (ls.take k) := rfl
theorem nowF_append (now : ByteArray) (a b : List Ln) : nowF now (a ++ b) = nowF (nowF now a) b := by simp [nowF, List.foldl_append]
theorem tagF_length (ls : List Ln) : ∀ now, (tagF now ls).length = ls.length := by
  induction ls with
  | nil => intro now; rfl
  | cons l t ih => intro now; simp [tagF, ih]
theorem tagF_append (a b : List Ln) : ∀ now, tagF now (a ++ b) = tagF now a ++ tagF (nowF now a) b := by
  induction a with
  | nil => intro now; rfl
  | cons l t ih => intro now; simp [tagF, ih, nowF]
theorem tagF_take (ls : List Ln) : ∀ (k : Nat) (now : ByteArray), (tagF now ls).take k = tagF now (ls.take k) := by
  induction ls with
  | nil => intro k now; simp [tagF]
  | cons l t ih =>
    intro k now
    cases k with
    | zero => simp [tagF]
    | succ k => simp [tagF, ih]
theorem tagF_snoc (ls : List Ln) (l : Ln) (now : ByteArray) : tagF now (ls ++ [l]) = tagF now ls ++ [(nowF now (ls ++ [l]), l)] := by
  rw [tagF_append, nowF_append]
  rfl

/-- the pair is one of the key in the section -/
def hit (s key : ByteArray) (p : ByteArray × Ln) : Bool := (p.2.k == 3) && (p.2.na.toList == key.toList) && (p.1.toList == s.toList)
/-- what lines tell of a key -/
def look (T : List (ByteArray × Ln)) (s key : ByteArray) : Option ByteArray := T.foldl (fun acc p => if hit s key p = true then some p.2.va else acc) none
theorem look_from (T : List (ByteArray × Ln)) (s key : ByteArray) : ∀ acc, T.foldl (fun acc p => if hit s key p = true then some p.2.va else acc) acc = (look T s key).or acc := by
  induction T with
  | nil => intro acc; simp [look]
  | cons p T ih =>
    intro acc
    unfold look
    rw [List.foldl_cons, List.foldl_cons, ih, ih]
    split
    · cases look T s key <;> rfl
    · simp
theorem look_nil (s key : ByteArray) : look [] s key = none := rfl
theorem look_append (A B : List (ByteArray × Ln)) (s key : ByteArray) : look (A ++ B) s key = (look B s key).or (look A s key) := by
  unfold look
  rw [List.foldl_append, look_from]
  rfl
theorem look_one (p : ByteArray × Ln) (s key : ByteArray) : look [p] s key = if hit s key p = true then some p.2.va else none := rfl
theorem look_cons (p : ByteArray × Ln) (T : List (ByteArray × Ln)) (s key : ByteArray) : look (p :: T) s key = (look T s key).or (if hit s key p = true then some p.2.va else none) := by
  have := look_append [p] T s key
  rwa [look_one] at this
theorem look_none {T : List (ByteArray × Ln)} {s key : ByteArray} (h : ∀ p ∈ T, hit s key p = false) : look T s key = none := by
  induction T with
  | nil => rfl
  | cons p T ih =>
    rw [look_cons, ih (fun q hq => h q (by simp [hq])), h p (by simp)]
    rfl
theorem isPair_hit {ls : List Ln} {s key : ByteArray} {i : Nat} (h : i < ls.length) : isPair ls s key i = hit s key (nowAt ls (i + 1), ls[i]) := by
  unfold isPair isKey inSec hit
  rw [get_bang h]
theorem look_take (ls : List Ln) (s key : ByteArray) : ∀ k, k ≤ ls.length → look (tagOf (ls.take k)) s key = if lastP ls s key k < 0 then none else some ls[(lastP ls s key k).toNat]!.va := by
  intro k
  induction k with
  | zero => intro _; rfl
  | succ k ih =>
    intro hk
    have hk2 : k < ls.length := by omega
    have h1 : ls.take (k + 1) = ls.take k ++ [ls[k]] := List.take_succ_eq_append_getElem hk2
    have h2 : tagOf (ls.take (k + 1)) = tagOf (ls.take k) ++ [(nowAt ls (k + 1), ls[k])] := by
      unfold tagOf
      rw [h1, tagF_snoc, ← h1]
      rfl
    rw [h2, look_append, look_one, ih (by omega), ← isPair_hit hk2]
    by_cases hp : isPair ls s key k = true
    · rw [lastP_yes hp, if_pos hp, if_neg (show ¬ ((k : Int) < 0) by omega), Int.toNat_natCast, get_bang hk2]
      rfl
    · rw [lastP_no (by simpa using hp), if_neg hp]
      rfl
/-- what a file tells of a key -/
theorem look_get {ls : List Ln} (hv : vfile ls = true) (s key : ByteArray) : look (tagOf ls) s key = if getB ls s key = true then some (getV ls s key) else none := by
  have h := look_take ls s key ls.length (Nat.le_refl _)
  rw [List.take_length] at h
  rw [h]
  unfold getB getV
  rw [whereOf_yes s key hv]
  by_cases h0 : lastP ls s key ls.length < 0
  · simp [h0]
  · simp [h0]
theorem get_look {ls : List Ln} (hv : vfile ls = true) (s key : ByteArray) : getB ls s key = (look (tagOf ls) s key).isSome ∧ (getB ls s key = true → getV ls s key = (look (tagOf ls) s key).getD ⟨#[]⟩) := by
  rw [look_get hv]
  cases getB ls s key <;> simp
/-- files that tell the same -/
def Same (f g : List Ln) : Prop := ∀ s key, look (tagOf f) s key = look (tagOf g) s key
theorem Same.getB {f g : List Ln} (h : Same f g) (hf : vfile f = true) (hg : vfile g = true) (s key : ByteArray) : getB f s key = getB g s key := by
  rw [(get_look hf s key).1, (get_look hg s key).1, h s key]
theorem Same.getV {f g : List Ln} (h : Same f g) (hf : vfile f = true) (hg : vfile g = true) {s key : ByteArray} (hb : Go.Proofs.YtkjoolmhcfajnaaDoor.getB f s key = true) : getV f s key = getV g s key := by
  rw [(get_look hf s key).2 hb, (get_look hg s key).2 (by rw [← h.getB hf hg]; exact hb), h s key]
end Go.Proofs.YtkjoolmhcfajnaaDoor
