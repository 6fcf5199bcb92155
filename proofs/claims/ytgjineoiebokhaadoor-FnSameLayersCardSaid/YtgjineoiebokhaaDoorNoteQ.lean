/-
  Plain facts on the notes above a key. No program, no condition.
  Plain facts on notes that are added and on pairs that are cut: what is told, and the notes above the key. No program; condition: the edit went well.
-/
import Derived.Test.YtgjineoiebokhaaDoorQP
import Derived.Test.YtgjineoiebokhaaDoorNotes
import Derived.Test.YtgjineoiebokhaaDoorLook
namespace Go.Proofs.YtgjineoiebokhaaDoor
open Go.RowKit

/-! ### notes stand above -/
theorem noteFrom_notes (ls : List Ln) : ∀ k i, noteFrom ls k ≤ i → i < k → ls[i]!.k = 1 := by
  intro k
  induction k with
  | zero => intro i _ h; omega
  | succ k ih =>
    intro i h1 h2
    by_cases h : (ls[k]!.k == 1) = true
    · rw [noteFrom_yes h] at h1
      by_cases e : i = k
      · subst e; exact eq_of_beq h
      · exact ih i h1 (by omega)
    · rw [noteFrom_no (by simpa using h)] at h1; omega
theorem noteFrom_above (ls : List Ln) : ∀ k m, noteFrom ls k = m + 1 → ls[m]!.k ≠ 1 := by
  intro k
  induction k with
  | zero => intro m h; simp [noteFrom] at h
  | succ k ih =>
    intro m h
    by_cases h1 : (ls[k]!.k == 1) = true
    · rw [noteFrom_yes h1] at h; exact ih m h
    · rw [noteFrom_no (by simpa using h1)] at h
      have : m = k := by omega
      subst this
      simpa using h1
theorem valsFrom_get (ls : List Ln) (a b i : Nat) (h : i < (valsFrom ls a b).length) : (valsFrom ls a b)[i] = ls[a + i]!.va := by
  simp [valsFrom]
end Go.Proofs.YtgjineoiebokhaaDoor
namespace Go.Proofs.YtgjineoiebokhaaDoor
open Go.RowKit

/-! ### a note added -/
theorem putL_bang_lt {ls ms : List Ln} {k i : Nat} (hk : k ≤ ls.length) (h : i < k) : (putL ls k ms)[i]! = ls[i]! := by
  have hl : i < (ls.take k).length := by rw [List.length_take]; omega
  unfold putL
  rw [List.getElem!_eq_getElem?_getD, List.getElem!_eq_getElem?_getD, List.getElem?_append_left hl, List.getElem?_take_of_lt h]
theorem putL_bang_at {ls : List Ln} {k : Nat} {l : Ln} (hk : k ≤ ls.length) : (putL ls k [l])[k]! = l := by
  have hl : (ls.take k).length = k := by rw [List.length_take]; omega
  unfold putL
  rw [List.getElem!_eq_getElem?_getD, List.getElem?_append_right (by omega), hl, Nat.sub_self]
  rfl
theorem putL_bang_gt {ls : List Ln} {k i : Nat} {l : Ln} (hk : k ≤ ls.length) (h : k < i) : (putL ls k [l])[i]! = ls[i - 1]! := by
  have hl : (ls.take k).length = k := by rw [List.length_take]; omega
  unfold putL
  rw [List.getElem!_eq_getElem?_getD, List.getElem!_eq_getElem?_getD, List.getElem?_append_right (by omega), hl]
  rw [List.getElem?_append_right (by simp; omega)]
  simp only [List.length_singleton, List.getElem?_drop]
  rw [show k + (i - k - 1) = i - 1 from by omega]
theorem noteFrom_congr {f g : List Ln} : ∀ k, (∀ i, i < k → f[i]! = g[i]!) → noteFrom f k = noteFrom g k := by
  intro k
  induction k with
  | zero => intro _; rfl
  | succ k ih =>
    intro h
    unfold noteFrom
    rw [h k (by omega), ih (fun i hi => h i (by omega))]
/-- the facts of a note that was added -/
structure NoteQ (ls : List Ln) (s key note : ByteArray) (R : List Ln) : Prop where
  v0 : vfile ls = true
  vR : vfile R = true
  same : ∀ s' key', look (tagOf R) s' key' = look (tagOf ls) s' key'
  notes : notesOf' R s key = notesOf' ls s key ++ [note]
  len : R.length = ls.length + 1
theorem pair_put {ls : List Ln} {k : Nat} {note : ByteArray} : nowF (nowAt ls k) [noteL note] = nowAt ls k := by simp [nowF, noteL]
theorem nowAt_put {ls : List Ln} {k : Nat} {note : ByteArray} (hk : k ≤ ls.length) : ∀ j, k ≤ j → j ≤ ls.length → nowAt (putL ls k [noteL note]) (j + 1) = nowAt ls j := by
  intro j h1 h2
  have e : (putL ls k [noteL note]).take (j + 1) = ls.take k ++ ([noteL note] ++ (ls.drop k).take (j - k)) := by
    unfold putL
    have hl : (ls.take k).length = k := by rw [List.length_take]; omega
    rw [List.take_append, hl, List.take_of_length_le (by omega : (ls.take k).length ≤ j + 1), List.take_append]
    have h3 : j + 1 - k - [noteL note].length = j - k := by simp; omega
    rw [h3, List.take_of_length_le (by simp; omega : [noteL note].length ≤ j + 1 - k)]
  have e2 : ls.take j = ls.take k ++ (ls.drop k).take (j - k) := by
    have : j = k + (j - k) := by omega
    generalize j - k = b at this
    subst this
    rw [List.take_add]
  rw [nowAt_nowF, nowAt_nowF, e, e2, nowF_append, nowF_append, nowF_append]
  have := pair_put (ls := ls) (k := k) (note := note)
  rw [nowAt_nowF] at this
  rw [this]
theorem isPair_put {ls : List Ln} {k : Nat} {note s key : ByteArray} (hk : k ≤ ls.length) {i : Nat} (hi : k ≤ i) (hi2 : i < ls.length) : isPair (putL ls k [noteL note]) s key (i + 1) = isPair ls s key i := by
  unfold isPair isKey inSec
  rw [putL_bang_gt hk (by omega), nowAt_put hk (i + 1) (by omega) (by omega)]
  rfl
theorem lastP_put {ls : List Ln} {k : Nat} {note s key : ByteArray} (hw : lastP ls s key ls.length = k) (hk : k < ls.length) : ∀ j, k < j → j ≤ ls.length → lastP (putL ls k [noteL note]) s key (j + 1) = (k : Int) + 1 := by
  intro j
  induction j with
  | zero => intro h; omega
  | succ j ih =>
    intro h1 h2
    have hp := isPair_put (note := note) (s := s) (key := key) (Nat.le_of_lt hk) (i := j) (by omega) (by omega)
    by_cases e : j = k
    · subst e
      have := (lastP_hit ls s key _ j hw).2
      rw [lastP_yes (by rw [hp]; exact this)]
      rfl
    · have hno : isPair ls s key j = false := by
        rcases hh : isPair ls s key j with _ | _
        · rfl
        · have := lastP_max ls s key ls.length j (by omega) hh
          omega
      rw [lastP_no (by rw [hp]; exact hno)]
      exact ih (by omega) (by omega)
theorem noteQ_of {ls : List Ln} {s key note : ByteArray} (hb : addNB ls s key note = true) : NoteQ ls s key note (addNL ls s key note) := by
  unfold addNB at hb
  unfold addNL
  by_cases h0 : whereOf ls s key < 0
  · rw [if_pos h0] at hb; cases hb
  · rw [if_neg h0] at hb ⊢
    obtain ⟨k, hk⟩ : ∃ k : Nat, whereOf ls s key = k := ⟨(whereOf ls s key).toNat, by omega⟩
    have hwp := where_pair hk
    rw [hk, Int.toNat_natCast] at hb ⊢
    unfold chkL
    rw [if_pos hb]
    have hkl := hwp.1
    have hv := hwp.2.2
    have hwl : lastP ls s key ls.length = k := by rw [← whereOf_yes s key hv]; exact hk
    have hlen : (putL ls k [noteL note]).length = ls.length + 1 := by rw [putL_length _ _ _ (by omega)]; rfl
    have hw2 : whereOf (putL ls k [noteL note]) s key = ((k + 1 : Nat) : Int) := by
      rw [whereOf_yes s key hb, hlen, lastP_put hwl hkl _ hkl (Nat.le_refl _)]
      omega
    refine ⟨hv, hb, fun s' key' => look_put_no pair_put ?_, ?_, hlen⟩
    · refine look_none fun p hp => ?_
      simp only [tagF, List.mem_singleton] at hp
      subst hp
      simp [hit, noteL]
    · rw [notesOf_yes hw2, notesOf_yes hk]
      have e1 : noteFrom (putL ls k [noteL note]) (k + 1) = noteFrom ls k := by
        rw [noteFrom_yes (by rw [putL_bang_at (by omega)]; rfl)]
        exact noteFrom_congr k (fun i hi => putL_bang_lt (by omega) hi)
      rw [e1, valsFrom_succ _ _ _ (noteFrom_le ls k), putL_bang_at (by omega)]
      congr 1
      unfold valsFrom
      apply List.map_congr_left
      intro i hi
      rw [List.mem_range] at hi
      rw [putL_bang_lt (by omega) (by omega)]
end Go.Proofs.YtgjineoiebokhaaDoor
