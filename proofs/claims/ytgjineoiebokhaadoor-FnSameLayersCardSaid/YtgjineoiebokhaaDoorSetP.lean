/-
  The place behind the last head or pair of a section: endOf of the program. Conditions: at most 1048576 bytes in all.
  Lines put into a file: putLines of the program. Conditions: at most 1048576 lines.
  A file with one more note: AddNote of the program. Conditions: at most 1048576 bytes in all.
  SetValue: the lines that it makes; valueLines of the program; validLines also of more lines than a file may have. Conditions: at most 1048576 bytes in all.
  SetValue: with arguments that are not valid it makes no valid file. No program.
-/
import Derived.Test.YtgjineoiebokhaaDoorCopyF
import Derived.Test.YtgjineoiebokhaaDoorRegM
import Derived.IntWalk
namespace Go.Proofs.YtgjineoiebokhaaDoor
open Go.RowKit

/-- the place behind the last head or pair of these lines -/
def endF (ls : List Ln) : List Nat → Nat → Nat
  | [], e => e
  | i :: L, e => endF ls L (if secLine ls i = true then i + 1 else e)
theorem endF_append (ls : List Ln) (L M : List Nat) (e : Nat) : endF ls (L ++ M) e = endF ls M (endF ls L e) := by
  induction L generalizing e with
  | nil => rfl
  | cons i L ih => exact ih _
def endOf' (ls : List Ln) (s : ByteArray) : Nat := endF ls (secOf ls s) 0
theorem endTo_place (ls : List Ln) (s : ByteArray) : ∀ k, (endF ls (secTo ls s k) 0 : Int) = if 0 ≤ placeTo ls s k then placeTo ls s k + 1 else 0 := by
  intro k
  induction k with
  | zero =>
    have h := (placeTo_lt ls s 0).1
    rw [if_neg (by omega)]
    rfl
  | succ k ih =>
    by_cases h1 : inSec ls s k = true
    · rw [secTo_yes h1, endF_append]
      by_cases h2 : secLine ls k = true
      · rw [placeTo_yes (by rw [h1, h2]; rfl), if_pos (by omega)]
        show ((if secLine ls k = true then k + 1 else _ : Nat) : Int) = _
        rw [if_pos h2]; omega
      · rw [placeTo_no (by rw [h1]; simpa using h2), ← ih]
        show ((if secLine ls k = true then k + 1 else _ : Nat) : Int) = _
        rw [if_neg h2]
    · rw [secTo_no (by simpa using h1), placeTo_no (by simp [h1]), ih]
/-- where the program and the specification put a new pair of a section -/
theorem end_place {ls : List Ln} (s : ByteArray) (hv : vfile ls = true) : (endOf' ls s : Int) = if 0 ≤ placeTo ls s ls.length then placeTo ls s ls.length + 1 else 0 := by
  unfold endOf' secOf
  rw [if_pos hv]
  exact endTo_place ls s ls.length
theorem end_no {ls : List Ln} (s : ByteArray) (hv : vfile ls = false) : endOf' ls s = 0 := by
  unfold endOf' secOf
  rw [if_neg (by rw [hv]; simp)]
  rfl
theorem endF_le {ls : List Ln} {n : Nat} : ∀ (L : List Nat) (e : Nat), (∀ i ∈ L, i < n) → e ≤ n → endF ls L e ≤ n := by
  intro L
  induction L with
  | nil => intro e _ h; exact h
  | cons i L ih =>
    intro e h1 h2
    refine ih _ (fun j hj => h1 j (by simp [hj])) ?_
    have := h1 i (by simp)
    split <;> omega
theorem endOf_le (ls : List Ln) (s : ByteArray) : endOf' ls s ≤ ls.length := endF_le _ _ (fun _ h => secOf_lt h) (Nat.zero_le _)

end Go.Proofs.YtgjineoiebokhaaDoor
namespace Go.Proofs.YtgjineoiebokhaaDoor
open Go.RowKit

/-- the lines with more ahead of place k -/
def putL (ls : List Ln) (k : Nat) (ms : List Ln) : List Ln := ls.take k ++ (ms ++ ls.drop k)
theorem putL_length (ls : List Ln) (k : Nat) (ms : List Ln) (hk : k ≤ ls.length) : (putL ls k ms).length = ls.length + ms.length := by
  simp [putL]; omega
theorem LnsAt.take {w : World} {A : Option Addr} {ls : List Ln} (h : LnsAt w A ls) (k : Nat) : LnsAt w A (ls.take k) := fun h0 => by
  have h1 : 0 < ls.length := by rw [List.length_take] at h0; omega
  obtain ⟨b, o, e, hb, hc⟩ := h h1
  refine ⟨b, o, e, hb, fun i hi => ?_⟩
  have hi2 : i < ls.length := by rw [List.length_take] at hi; omega
  rw [List.getElem_take]
  exact hc i hi2
theorem LnsAt.drop {w : World} {b o : Nat} {ls : List Ln} (h : LnsAt w (some ⟨b, o, none⟩) ls) (k : Nat) : LnsAt w (some ⟨b, o + k * 6, none⟩) (ls.drop k) := fun h0 => by
  rw [List.length_drop] at h0
  obtain ⟨b', o', e, hb, hc⟩ := h (by omega)
  injection e with e
  injection e with e1 e2
  subst e1
  subst e2
  refine ⟨b, o + k * 6, rfl, hb, fun i hi => ?_⟩
  rw [List.length_drop] at hi
  have := hc (k + i) (by omega)
  rw [List.getElem_drop]
  rwa [show o + (k + i) * 6 = o + k * 6 + i * 6 from by omega] at this
theorem lay3 (ls ms : List Ln) (k : Nat) (hk : k ≤ ls.length) :
    lay (lay (lay (List.replicate (ls.length + ms.length) Ln.zero) 0 (ls.take k)) k ms) (k + ms.length) (ls.drop k) = putL ls k ms := by
  have h1 : lay (List.replicate (ls.length + ms.length) Ln.zero) 0 (ls.take k) = ls.take k ++ List.replicate (ls.length + ms.length - k) Ln.zero := by
    unfold lay
    rw [List.take_zero, List.nil_append, Nat.zero_add, List.length_take, Nat.min_eq_left hk, List.drop_replicate]
  have hl : (ls.take k).length = k := by rw [List.length_take, Nat.min_eq_left hk]
  have h2 : lay (ls.take k ++ List.replicate (ls.length + ms.length - k) Ln.zero) k ms = ls.take k ++ (ms ++ List.replicate (ls.length - k) Ln.zero) := by
    unfold lay
    rw [List.take_left' hl, List.drop_append, List.drop_eq_nil_of_le (by rw [hl]; omega), List.nil_append, hl, List.drop_replicate]
    congr 3
    omega
  rw [h1, h2]
  unfold lay putL
  have e1 : (ls.take k ++ (ms ++ List.replicate (ls.length - k) Ln.zero)).take (k + ms.length) = ls.take k ++ ms := by
    rw [← List.append_assoc, List.take_left' (by rw [List.length_append, hl])]
  have e2 : (ls.take k ++ (ms ++ List.replicate (ls.length - k) Ln.zero)).drop (k + ms.length + (ls.drop k).length) = [] := by
    apply List.drop_eq_nil_of_le
    simp
    omega
  rw [e1, e2, List.append_nil, List.append_assoc]

end Go.Proofs.YtgjineoiebokhaaDoor
namespace Go.Proofs.YtgjineoiebokhaaDoor
open Go.RowKit

/-- the line of a new note -/
def noteL (v : ByteArray) : Ln := ⟨1, ⟨#[]⟩, ⟨#[]⟩, ⟨#[]⟩, v, ⟨#[]⟩⟩
def addNL (ls : List Ln) (s key note : ByteArray) : List Ln := if whereOf ls s key < 0 then [] else chkL (putL ls (whereOf ls s key).toNat [noteL note])
def addNB (ls : List Ln) (s key note : ByteArray) : Bool := if whereOf ls s key < 0 then false else vfile (putL ls (whereOf ls s key).toNat [noteL note])
theorem chkL_20 (K : List Ln) : (chkL K).length ≤ 20 := by
  unfold chkL
  split
  · rename_i h
    unfold vfile at h
    rw [Bool.and_eq_true, decide_eq_true_iff] at h
    exact h.2
  · simp
theorem addNL_le (ls : List Ln) (s key note : ByteArray) : (addNL ls s key note).length ≤ 1048576 := by
  unfold addNL
  split
  · simp
  · exact Nat.le_trans (chkL_20 _) (by omega)
theorem putL_fits {ls ms : List Ln} {k : Nat} (hf : AllFit ls) (hl : ls.length + ms.length ≤ 1048576) (hm : ∀ i (h : i < ms.length), ms[i].fits) : AllFit (putL ls k ms) := by
  have hall : ∀ l ∈ putL ls k ms, l.fits := fun l hl => by
    unfold putL at hl
    rw [List.mem_append, List.mem_append] at hl
    rcases hl with h | h | h
    · obtain ⟨i, hi, rfl⟩ := List.getElem_of_mem (List.mem_of_mem_take h); exact hf.2 i hi
    · obtain ⟨i, hi, rfl⟩ := List.getElem_of_mem h; exact hm i hi
    · obtain ⟨i, hi, rfl⟩ := List.getElem_of_mem (List.mem_of_mem_drop h); exact hf.2 i hi
  refine ⟨?_, fun i h => hall _ (List.getElem_mem h)⟩
  unfold putL
  simp
  omega
theorem one_at (w : World) (l : Ln) (t : TypeId) : LnsAt (w.alloc (.cells #[.int .i64 l.k, .string l.le, .string l.na, .string l.se, .string l.va, .string l.ta] t)) (some ⟨w.heap.size, 0, none⟩) [l] := fun _ => by
  refine ⟨w.heap.size, 0, rfl, by simp, fun i hi => ?_⟩
  have h0 : i = 0 := by simp at hi; omega
  subst h0
  have hx := fun d => cell_of_row (w.alloc (.cells #[.int .i64 l.k, .string l.le, .string l.na, .string l.se, .string l.va, .string l.ta] t)) w.heap.size d _ _ _ (heap_alloc_new w _)
  refine ⟨?_, ?_, ?_, ?_, ?_, ?_⟩
  all_goals
    simp only [Nat.zero_mul, Nat.zero_add, Nat.add_zero]
    rw [hx]
    rfl

end Go.Proofs.YtgjineoiebokhaaDoor
namespace Go.Proofs.YtgjineoiebokhaaDoor
open Go.RowKit

/-- the line with another value -/
def Ln.valued (l : Ln) (v : ByteArray) : Ln := ⟨l.k, l.le, l.na, l.se, v, l.ta⟩
def Ln.tailed (l : Ln) (v : ByteArray) : Ln := ⟨l.k, l.le, l.na, l.se, l.va, v⟩
/-- these lines with a value at one place, without a tail if the value is none -/
def valL (ls : List Ln) (k : Nat) (v : ByteArray) : List Ln := if v.toList.isEmpty = true then (ls.set k ((ls[k]!).valued v)).set k (((ls[k]!).valued v).tailed ⟨#[]⟩) else ls.set k ((ls[k]!).valued v)
theorem valL_length (ls : List Ln) (k : Nat) (v : ByteArray) : (valL ls k v).length = ls.length := by unfold valL; split <;> simp
theorem lcells_setv (K : List Ln) : ∀ (k : Nat) (h : k < K.length) (v : ByteArray), (lcells K).set (k * 6 + 4) (.string v) = lcells (K.set k (K[k].valued v)) := by
  induction K with
  | nil => intro k h; exact absurd h (by simp)
  | cons l K ih =>
    intro k h v
    cases k with
    | zero => simp [lcells, lcell, Ln.valued]
    | succ k =>
      have hl : (lcell l).length = 6 := rfl
      rw [lcells, List.set_append_right _ _ (by rw [hl]; omega), hl, show (k + 1) * 6 + 4 - 6 = k * 6 + 4 from by omega, ih k (by simpa using h) v]
      simp [lcells]
theorem lcells_sett (K : List Ln) : ∀ (k : Nat) (h : k < K.length) (v : ByteArray), (lcells K).set (k * 6 + 5) (.string v) = lcells (K.set k (K[k].tailed v)) := by
  induction K with
  | nil => intro k h; exact absurd h (by simp)
  | cons l K ih =>
    intro k h v
    cases k with
    | zero => simp [lcells, lcell, Ln.tailed]
    | succ k =>
      have hl : (lcell l).length = 6 := rfl
      rw [lcells, List.set_append_right _ _ (by rw [hl]; omega), hl, show (k + 1) * 6 + 5 - 6 = k * 6 + 5 from by omega, ih k (by simpa using h) v]
      simp [lcells]

theorem vfile_big {ls : List Ln} (h : 20 < ls.length) : vfile ls = false := by
  unfold vfile
  rw [decide_eq_false (by omega), Bool.and_false]
def setR (ls : List Ln) (s key v : ByteArray) : List Ln :=
  if 0 ≤ whereOf ls s key then valL ls (whereOf ls s key).toNat v
  else if s.toList.isEmpty = false ∧ headsOf' ls s = [] then putL ls ls.length [headL s, pairL key v]
  else putL ls (endOf' ls s) [pairL key v]
def setL (ls : List Ln) (s key v : ByteArray) : List Ln := chkL (setR ls s key v)
def setB (ls : List Ln) (s key v : ByteArray) : Bool := vfile (setR ls s key v)
theorem setL_le (ls : List Ln) (s key v : ByteArray) : (setL ls s key v).length ≤ 1048576 := Nat.le_trans (chkL_20 _) (by omega)
end Go.Proofs.YtgjineoiebokhaaDoor
namespace Go.Proofs.YtgjineoiebokhaaDoor
open Go.RowKit

theorem put_valid {ls ms : List Ln} {k : Nat} (h : vfile (putL ls k ms) = true) : vfile ls = true ∧ ∀ m ∈ ms, vline m = true := by
  rw [vfile_mem] at h
  obtain ⟨h1, h2⟩ := h
  unfold putL at h1 h2
  refine ⟨vfile_mem.2 ⟨fun l hl => ?_, ?_⟩, fun m hm => h1 m (by simp [hm])⟩
  · refine h1 l ?_
    have hl2 : l ∈ ls.take k ++ ls.drop k := by rw [List.take_append_drop]; exact hl
    rcases List.mem_append.1 hl2 with h3 | h3
    · simp [h3]
    · simp [h3]
  · rw [List.length_append, List.length_append, List.length_take, List.length_drop] at h2
    omega
theorem lastP_pair {ls : List Ln} {s key : ByteArray} : ∀ {k q : Nat}, lastP ls s key k = (q : Int) → isPair ls s key q = true := by
  intro k
  induction k with
  | zero => intro q h; exact absurd (show (-1 : Int) = q from h) (by omega)
  | succ k ih =>
    intro q h
    by_cases hp : isPair ls s key k = true
    · rw [lastP_yes hp] at h
      have : k = q := by omega
      exact this ▸ hp
    · rw [lastP_no (by simpa using hp)] at h
      exact ih h
theorem vline_pair {k v : ByteArray} (h : vline (pairL k v) = true) : vname k = true ∧ vvalue v = true := by
  have h : (vspaces _ && (vname k && (vsep newSep && (vvalue v && _)))) = true := h
  simp only [Bool.and_eq_true] at h
  exact ⟨h.2.1, h.2.2.2.1⟩
theorem vline_head {s : ByteArray} (h : vline (headL s) = true) : vname s = true := by
  have h : (vspaces _ && (vname s && _)) = true := h
  simp only [Bool.and_eq_true] at h
  exact h.2.1
/-- the arguments that SetValue takes -/
def setOk (ls : List Ln) (s key v : ByteArray) : Bool := vfile ls && ((s.toList.isEmpty || vname s) && (vname key && vvalue v))
theorem set_ok {ls : List Ln} {s key v : ByteArray} (h : vfile (setR ls s key v) = true) : setOk ls s key v = true := by
  unfold setR at h
  unfold setOk
  by_cases h0 : 0 ≤ whereOf ls s key
  · rw [if_pos h0] at h
    obtain ⟨k, hk⟩ : ∃ k : Nat, whereOf ls s key = k := ⟨(whereOf ls s key).toNat, by omega⟩
    have hkl : k < ls.length := by have := where_lt ls s key; omega
    have hv := (pairs_some (ls := ls) (s := s) (key := key) (by omega)).1
    rw [hk, Int.toNat_natCast] at h
    rw [whereOf_yes s key hv] at hk
    have hp := lastP_pair hk
    unfold isPair isKey at hp
    rw [Bool.and_eq_true, Bool.and_eq_true, get_bang hkl] at hp
    have h3 : ls[k].k = 3 := by simpa using hp.1.1
    have hkn : ls[k].na = key := toList_inj (eq_of_beq hp.1.2)
    have h1 := vline_3p h3 (vfile_line hv k hkl)
    rw [hkn] at h1
    have hvv : vvalue v = true := by
      unfold valL at h
      rw [get_bang hkl] at h
      split at h
      · have h9 := vfile_line h k (by simp; exact hkl)
        rw [List.getElem_set_self] at h9
        exact (vline_3p (by exact h3) h9).2
      · have h9 := vfile_line h k (by simp; exact hkl)
        rw [List.getElem_set_self] at h9
        exact (vline_3p (by exact h3) h9).2
    rw [hv, sec_name hv hkl hp.2, h1.1, hvv]
    rfl
  · rw [if_neg h0] at h
    by_cases hc : s.toList.isEmpty = false ∧ headsOf' ls s = []
    · rw [if_pos hc] at h
      obtain ⟨h1, h2⟩ := put_valid h
      have h3 := vline_head (h2 (headL s) (by simp))
      have h4 := vline_pair (h2 (pairL key v) (by simp))
      rw [h1, h3, h4.1, h4.2, Bool.or_true]
      rfl
    · rw [if_neg hc] at h
      obtain ⟨h1, h2⟩ := put_valid h
      have h4 := vline_pair (h2 (pairL key v) (by simp))
      have h5 : (s.toList.isEmpty || vname s) = true := by
        rcases he : s.toList.isEmpty with _ | _
        · have h6 : headsOf' ls s ≠ [] := fun e => hc ⟨he, e⟩
          obtain ⟨j, hj⟩ := List.exists_mem_of_ne_nil _ h6
          rw [headsOf_eq s h1, List.mem_filter, List.mem_range] at hj
          obtain ⟨hj1, hj2⟩ := hj
          unfold headP at hj2
          rw [Bool.and_eq_true] at hj2
          have h7 := head_name h1 hj1 hj2.1
          rw [toList_inj (eq_of_beq hj2.2)] at h7
          rw [h7]; rfl
        · rfl
      rw [h1, h5, h4.1, h4.2]
      rfl
theorem set_no {ls : List Ln} {s key v : ByteArray} (h : setOk ls s key v = false) : setL ls s key v = [] ∧ setB ls s key v = false := by
  have h1 : vfile (setR ls s key v) = false := by
    rcases hb : vfile (setR ls s key v) with _ | _
    · rfl
    · rw [set_ok hb] at h; cases h
  unfold setL setB chkL
  rw [if_neg (by rw [h1]; simp), h1]
  exact ⟨rfl, rfl⟩
/-- with good arguments, as the specification tells the lines -/
theorem set_old {ls : List Ln} {s key v : ByteArray} {k : Nat} (hv : vfile ls = true) (h : lastP ls s key ls.length = (k : Int)) : setR ls s key v = valL ls k v := by
  unfold setR
  rw [whereOf_yes s key hv, h, if_pos (by omega), Int.toNat_natCast]
theorem set_sec {ls : List Ln} {s key v : ByteArray} (hv : vfile ls = true) (h : lastP ls s key ls.length < 0) (hp : placeTo ls s ls.length = -2) : setR ls s key v = putL ls ls.length [headL s, pairL key v] := by
  unfold setR
  rw [whereOf_yes s key hv, if_neg (by omega)]
  have he : s.toList.isEmpty = false := by
    rcases he : s.toList.isEmpty with _ | _
    · rfl
    · have := (placeTo_lt ls s ls.length).2.2 he
      omega
  rw [if_pos ⟨he, (place_heads hv he).1 (by omega)⟩]
theorem set_new {ls : List Ln} {s key v : ByteArray} {k : Nat} (hv : vfile ls = true) (h : lastP ls s key ls.length < 0) (hp : placeTo ls s ls.length + 1 = (k : Int)) : setR ls s key v = putL ls k [pairL key v] := by
  unfold setR
  rw [whereOf_yes s key hv, if_neg (by omega)]
  have hk : endOf' ls s = k := by
    have := end_place s hv
    split at this <;> omega
  rw [if_neg, hk]
  rintro ⟨he, hh⟩
  have h1 := (place_heads hv he).2 hh
  have h2 : placeTo ls s ls.length = -1 := by omega
  have h3 : ∀ j, placeTo ls s j < 0 → placeTo ls s j = -2 := by
    intro j
    induction j with
    | zero => intro _; show (if s.toList.isEmpty = true then (-1 : Int) else -2) = -2; rw [if_neg (by rw [he]; simp)]
    | succ j ih =>
      intro hj
      by_cases h9 : (inSec ls s j && secLine ls j) = true
      · rw [placeTo_yes h9] at hj; omega
      · rw [placeTo_no (by simpa using h9)] at hj ⊢; exact ih hj
  have := h3 _ h1
  omega
end Go.Proofs.YtgjineoiebokhaaDoor
