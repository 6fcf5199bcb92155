/-
  SetValue: with arguments that are not valid it makes no valid file. No program.
-/
import Derived.Test.YthgfmbhopppkmaaSetP
namespace Go.Proofs.Ythgfmbhopppkmaa
open Go.RowKit

theorem vfile_mem {ls : List Ln} : vfile ls = true ↔ (∀ l ∈ ls, vline l = true) ∧ ls.length ≤ 20 := by
  unfold vfile vlines
  rw [Bool.and_eq_true, List.all_eq_true, decide_eq_true_iff]
theorem put_valid {ls ms : List Ln} {k : Nat} (h : vfile (putL ls k ms) = true) : vfile ls = true ∧ ∀ m ∈ ms, vline m = true := by
  rw [vfile_mem] at h
  obtain ⟨h1, h2⟩ := h
  unfold putL at h1 h2
  refine ⟨vfile_mem.2 ⟨fun l hl => ?_, ?_⟩, fun m hm => h1 m (by simp [hm])⟩
  · refine h1 l ?_
    have hl2 : l ∈ ls.take k ++ ls.drop k := by rw [List.take_append_drop]; exact hl
    rcases List.mem_append.1 hl2 with h3 | h3
    · simp [h3]
    · simp [h3]
  · rw [List.length_append, List.length_append, List.length_take, List.length_drop] at h2
    omega
theorem lastP_pair {ls : List Ln} {s key : ByteArray} : ∀ {k q : Nat}, lastP ls s key k = (q : Int) → isPair ls s key q = true := by
  intro k
  induction k with
  | zero => intro q h; exact absurd (show (-1 : Int) = q from h) (by omega)
  | succ k ih =>
    intro q h
    by_cases hp : isPair ls s key k = true
    · rw [lastP_yes hp] at h
      have : k = q := by omega
      exact this ▸ hp
    · rw [lastP_no (by simpa using hp)] at h
      exact ih h
theorem vline_pair {k v : ByteArray} (h : vline (pairL k v) = true) : vname k = true ∧ vvalue v = true := by
  have h : (vspaces _ && (vname k && (vsep newSep && (vvalue v && _)))) = true := h
  simp only [Bool.and_eq_true] at h
  exact ⟨h.2.1, h.2.2.2.1⟩
theorem vline_head {s : ByteArray} (h : vline (headL s) = true) : vname s = true := by
  have h : (vspaces _ && (vname s && _)) = true := h
  simp only [Bool.and_eq_true] at h
  exact h.2.1
theorem vline_3p {l : Ln} (hk : l.k = 3) (h : vline l = true) : vname l.na = true ∧ vvalue l.va = true := by
  obtain ⟨lk, le, na, se, va, ta⟩ := l
  simp only at hk
  subst hk
  have h : (vspaces le && (vname na && (vsep se && (vvalue va && _)))) = true := h
  simp only [Bool.and_eq_true] at h
  exact ⟨h.2.1, h.2.2.2.1⟩
theorem vline_2p {l : Ln} (hk : l.k = 2) (h : vline l = true) : vname l.na = true := by
  obtain ⟨lk, le, na, se, va, ta⟩ := l
  simp only at hk
  subst hk
  have h : (vspaces le && (vname na && _)) = true := h
  simp only [Bool.and_eq_true] at h
  exact h.2.1
/-- the arguments that SetValue takes -/
def setOk (ls : List Ln) (s key v : ByteArray) : Bool := vfile ls && ((s.toList.isEmpty || vname s) && (vname key && vvalue v))
theorem head_name {ls : List Ln} {j : Nat} (hv : vfile ls = true) (hj : j < ls.length) (h : isHd ls j = true) : vname ls[j]!.na = true := by
  have h1 := vfile_line hv j hj
  unfold isHd at h
  rw [get_bang hj] at h ⊢
  exact vline_2p (by simpa using h) h1
theorem sec_name {ls : List Ln} {s : ByteArray} {k : Nat} (hv : vfile ls = true) (hk : k < ls.length) (h : inSec ls s k = true) : (s.toList.isEmpty || vname s) = true := by
  unfold inSec at h
  have he : nowAt ls (k + 1) = s := toList_inj (by simpa using h)
  rcases nowAt_head ls (k + 1) (by omega) with h1 | ⟨j, h1, h2, h3⟩
  · have h4 : s = ⟨#[]⟩ := by rw [← he, h1]
    rw [h4]
    simp
  · have h4 := head_name hv (by omega) h2
    rw [h3, he] at h4
    rw [h4, Bool.or_true]
theorem set_ok {ls : List Ln} {s key v : ByteArray} (h : vfile (setR ls s key v) = true) : setOk ls s key v = true := by
  unfold setR at h
  unfold setOk
  by_cases h0 : 0 ≤ whereOf ls s key
  · rw [if_pos h0] at h
    obtain ⟨k, hk⟩ : ∃ k : Nat, whereOf ls s key = k := ⟨(whereOf ls s key).toNat, by omega⟩
    have hkl : k < ls.length := by have := where_lt ls s key; omega
    have hv := (pairs_some (ls := ls) (s := s) (key := key) (by omega)).1
    rw [hk, Int.toNat_natCast] at h
    rw [whereOf_yes s key hv] at hk
    have hp := lastP_pair hk
    unfold isPair isKey at hp
    rw [Bool.and_eq_true, Bool.and_eq_true, get_bang hkl] at hp
    have h3 : ls[k].k = 3 := by simpa using hp.1.1
    have hkn : ls[k].na = key := toList_inj (eq_of_beq hp.1.2)
    have h1 := vline_3p h3 (vfile_line hv k hkl)
    rw [hkn] at h1
    have hvv : vvalue v = true := by
      unfold valL at h
      rw [get_bang hkl] at h
      split at h
      · have h9 := vfile_line h k (by simp; exact hkl)
        rw [List.getElem_set_self] at h9
        exact (vline_3p (by exact h3) h9).2
      · have h9 := vfile_line h k (by simp; exact hkl)
        rw [List.getElem_set_self] at h9
        exact (vline_3p (by exact h3) h9).2
    rw [hv, sec_name hv hkl hp.2, h1.1, hvv]
    rfl
  · rw [if_neg h0] at h
    by_cases hc : s.toList.isEmpty = false ∧ headsOf' ls s = []
    · rw [if_pos hc] at h
      obtain ⟨h1, h2⟩ := put_valid h
      have h3 := vline_head (h2 (headL s) (by simp))
      have h4 := vline_pair (h2 (pairL key v) (by simp))
      rw [h1, h3, h4.1, h4.2, Bool.or_true]
      rfl
    · rw [if_neg hc] at h
      obtain ⟨h1, h2⟩ := put_valid h
      have h4 := vline_pair (h2 (pairL key v) (by simp))
      have h5 : (s.toList.isEmpty || vname s) = true := by
        rcases he : s.toList.isEmpty with _ | _
        · have h6 : headsOf' ls s ≠ [] := fun e => hc ⟨he, e⟩
          obtain ⟨j, hj⟩ := List.exists_mem_of_ne_nil _ h6
          rw [headsOf_eq s h1, List.mem_filter, List.mem_range] at hj
          obtain ⟨hj1, hj2⟩ := hj
          unfold headP at hj2
          rw [Bool.and_eq_true] at hj2
          have h7 := head_name h1 hj1 hj2.1
          rw [toList_inj (eq_of_beq hj2.2)] at h7
          rw [h7]; rfl
        · rfl
      rw [h1, h5, h4.1, h4.2]
      rfl
theorem set_no {ls : List Ln} {s key v : ByteArray} (h : setOk ls s key v = false) : setL ls s key v = [] ∧ setB ls s key v = false := by
  have h1 : vfile (setR ls s key v) = false := by
    rcases hb : vfile (setR ls s key v) with _ | _
    · rfl
    · rw [set_ok hb] at h; cases h
  unfold setL setB chkL
  rw [if_neg (by rw [h1]; simp), h1]
  exact ⟨rfl, rfl⟩
/-- with good arguments, as the specification tells the lines -/
theorem set_old {ls : List Ln} {s key v : ByteArray} {k : Nat} (hv : vfile ls = true) (h : lastP ls s key ls.length = (k : Int)) : setR ls s key v = valL ls k v := by
  unfold setR
  rw [whereOf_yes s key hv, h, if_pos (by omega), Int.toNat_natCast]
theorem set_sec {ls : List Ln} {s key v : ByteArray} (hv : vfile ls = true) (h : lastP ls s key ls.length < 0) (hp : placeTo ls s ls.length = -2) : setR ls s key v = putL ls ls.length [headL s, pairL key v] := by
  unfold setR
  rw [whereOf_yes s key hv, if_neg (by omega)]
  have he : s.toList.isEmpty = false := by
    rcases he : s.toList.isEmpty with _ | _
    · rfl
    · have := (placeTo_lt ls s ls.length).2.2 he
      omega
  rw [if_pos ⟨he, (place_heads hv he).1 (by omega)⟩]
theorem set_new {ls : List Ln} {s key v : ByteArray} {k : Nat} (hv : vfile ls = true) (h : lastP ls s key ls.length < 0) (hp : placeTo ls s ls.length + 1 = (k : Int)) : setR ls s key v = putL ls k [pairL key v] := by
  unfold setR
  rw [whereOf_yes s key hv, if_neg (by omega)]
  have hk : endOf' ls s = k := by
    have := end_place s hv
    split at this <;> omega
  rw [if_neg, hk]
  rintro ⟨he, hh⟩
  have h1 := (place_heads hv he).2 hh
  have h2 : placeTo ls s ls.length = -1 := by omega
  have h3 : ∀ j, placeTo ls s j < 0 → placeTo ls s j = -2 := by
    intro j
    induction j with
    | zero => intro _; show (if s.toList.isEmpty = true then (-1 : Int) else -2) = -2; rw [if_neg (by rw [he]; simp)]
    | succ j ih =>
      intro hj
      by_cases h9 : (inSec ls s j && secLine ls j) = true
      · rw [placeTo_yes h9] at hj; omega
      · rw [placeTo_no (by simpa using h9)] at hj ⊢; exact ih hj
  have := h3 _ h1
  omega
end Go.Proofs.Ythgfmbhopppkmaa
