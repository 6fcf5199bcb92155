/-
  Plain facts on bytes, used by all texts of this seat: what a name, a value, a few spaces and a separator are; no program, no condition.
-/
import Derived.Lib.Strings
import Derived.Lib.TrimByte
import Derived.Lib.IndexMore
import Derived.Lib.Hide
import Derived.Laws.RangeAny
import Derived.WalkKit
import Derived.Deep.Draws
namespace Go.Proofs.YtkjoolmhcfajnaaDoor
open Go.RowKit

theorem ret_bool {a b : Bool} (h : a = b) : Ending.returned (.bool a) = .returned (.bool b) := by rw [h]
theorem ret_int {k : IntKind} {a b : Int} (h : a = b) : Ending.returned (.int k a) = .returned (.int k b) := by rw [h]
theorem ret_str {a b : ByteArray} (h : a = b) : Ending.returned (.string a) = .returned (.string b) := by rw [h]

/-- a letter from a to z -/
def letter (b : UInt8) : Bool := decide (97 ≤ b.toNat) && decide (b.toNat ≤ 122)
/-- a printable byte -/
def pr (b : UInt8) : Bool := decide (32 ≤ b.toNat) && decide (b.toNat ≤ 126)
/-- a space -/
def sp (b : UInt8) : Bool := decide (b.toNat = 32)
/-- all bytes are so -/
def allB (p : UInt8 → Bool) (s : ByteArray) : Bool := s.data.toList.all p
/-- the first k bytes are so -/
def Upto (p : UInt8 → Bool) (s : ByteArray) (k : Nat) : Prop := ∀ j (h : j < s.size), j < k → p s[j] = true

section
variable {p : UInt8 → Bool} {s : ByteArray} {k : Nat}
theorem Upto.all (h : Upto p s s.size) : allB p s = true := by
  unfold allB
  rw [List.all_eq_true]
  intro b hb
  obtain ⟨j, hj, rfl⟩ := List.getElem_of_mem hb
  have hj' : j < s.size := by simpa using hj
  exact h j hj' hj'
theorem allB_not (hk : k < s.size) (h : p s[k] = false) : allB p s = false := by
  unfold allB
  rw [← Bool.not_eq_true, List.all_eq_true]
  intro hall
  have hm : s[k] ∈ s.data.toList := by
    have : s[k] = s.data.toList[k]'(by simpa using hk) := rfl
    rw [this]
    exact List.getElem_mem _
  have := hall _ hm
  rw [this] at h
  cases h
theorem Upto.zero (p : UInt8 → Bool) (s : ByteArray) : Upto p s 0 := fun _ _ h => absurd h (Nat.not_lt_zero _)
theorem Upto.succ (h : Upto p s k) (hk : k < s.size) (hl : p s[k] = true) : Upto p s (k + 1) := by
  intro j hj hjk
  by_cases e : j = k
  · subst e; exact hl
  · exact h j hj (by omega)
end
theorem letter_yes {b : UInt8} (h1 : 97 ≤ b.toNat) (h2 : b.toNat ≤ 122) : letter b = true := by simp [letter, h1, h2]
theorem letter_no {b : UInt8} (h : b.toNat < 97 ∨ 122 < b.toNat) : letter b = false := by
  unfold letter
  rw [Bool.and_eq_false_iff, decide_eq_false_iff_not, decide_eq_false_iff_not]
  omega
theorem pr_yes {b : UInt8} (h1 : 32 ≤ b.toNat) (h2 : b.toNat ≤ 126) : pr b = true := by simp [pr, h1, h2]
theorem pr_no {b : UInt8} (h : b.toNat < 32 ∨ 126 < b.toNat) : pr b = false := by
  unfold pr
  rw [Bool.and_eq_false_iff, decide_eq_false_iff_not, decide_eq_false_iff_not]
  omega
theorem sp_yes {b : UInt8} (h1 : b.toNat = 32) : sp b = true := by simp [sp, h1]
theorem sp_no {b : UInt8} (h : b.toNat ≠ 32) : sp b = false := by simp [sp, h]

/-- what a name is -/
def vname (s : ByteArray) : Bool := allB letter s && (decide (1 ≤ s.size) && decide (s.size ≤ 8))
/-- at most four spaces -/
def vspaces (s : ByteArray) : Bool := allB sp s && decide (s.size ≤ 4)
/-- neither the first nor the last byte is a space -/
def edge (l : List UInt8) : Bool := decide (l.head? ≠ some 32) && decide (l.getLast? ≠ some 32)
/-- what a value is -/
def vvalue (s : ByteArray) : Bool := allB pr s && (decide (s.size ≤ 40) && edge s.data.toList)

theorem vname_size {s : ByteArray} (h : s.size = 0 ∨ 8 < s.size) : vname s = false := by
  unfold vname
  have : (decide (1 ≤ s.size) && decide (s.size ≤ 8)) = false := by
    rw [Bool.and_eq_false_iff, decide_eq_false_iff_not, decide_eq_false_iff_not]; omega
  rw [this, Bool.and_false]
theorem vname_in {s : ByteArray} (h : 0 < s.size) (h8 : s.size ≤ 8) : vname s = allB letter s := by
  unfold vname
  have : (decide (1 ≤ s.size) && decide (s.size ≤ 8)) = true := by
    rw [Bool.and_eq_true, decide_eq_true_iff, decide_eq_true_iff]; omega
  rw [this, Bool.and_true]

theorem toList_length (s : ByteArray) : s.toList.length = s.size := by rw [Lib.toList_data]; simp
theorem toList_nil {s : ByteArray} (h : s.size = 0) : s.toList = [] := List.eq_nil_of_length_eq_zero (by rw [toList_length, h])
theorem toList_ne {s : ByteArray} (h : 0 < s.size) : ¬ s.toList = [] := fun e => by
  have := toList_length s
  rw [e] at this
  simp at this; omega
theorem isEmpty_ne {s : ByteArray} (h : 0 < s.size) : s.toList.isEmpty = false := by
  have := toList_ne h
  simpa using this

/-- the rune that is read at a byte: the byte itself if it is of ASCII, and one byte wide; else at least 128 -/
theorem rune_at {s : ByteArray} {pos : Nat} (h : pos < s.size) : ((Utf8.decode s pos).1 = (s[pos]'h).toNat ∧ (Utf8.decode s pos).2 = 1) ∨ (128 ≤ (Utf8.decode s pos).1 ∧ 128 ≤ (s[pos]'h).toNat ∧ 1 ≤ (Utf8.decode s pos).2) := by
  by_cases ha : (s[pos]'h).toNat < 128
  · rw [decode_ascii s pos h ha]
    exact .inl ⟨rfl, rfl⟩
  · have := decode_high s pos h (by omega)
    exact .inr ⟨this.1, by omega, this.2⟩
theorem rune_letter {s : ByteArray} {pos : Nat} (h : pos < s.size) (h1 : 97 ≤ (Utf8.decode s pos).1) (h2 : (Utf8.decode s pos).1 ≤ 122) :
    letter (s[pos]'h) = true ∧ (Utf8.decode s pos).2 = 1 := by
  rcases rune_at h with ⟨e, e2⟩ | ⟨e, _⟩
  · exact ⟨letter_yes (by omega) (by omega), e2⟩
  · omega
theorem rune_no_letter {s : ByteArray} {pos : Nat} (h : pos < s.size) (h1 : (Utf8.decode s pos).1 < 97 ∨ 122 < (Utf8.decode s pos).1) :
    letter (s[pos]'h) = false := by
  rcases rune_at h with ⟨e, e2⟩ | ⟨_, e, _⟩
  · exact letter_no (by omega)
  · exact letter_no (by omega)
theorem rune_pr {s : ByteArray} {pos : Nat} (h : pos < s.size) (h1 : 32 ≤ (Utf8.decode s pos).1) (h2 : (Utf8.decode s pos).1 ≤ 126) :
    pr (s[pos]'h) = true ∧ (Utf8.decode s pos).2 = 1 := by
  rcases rune_at h with ⟨e, e2⟩ | ⟨e, _⟩
  · exact ⟨pr_yes (by omega) (by omega), e2⟩
  · omega
theorem rune_no_pr {s : ByteArray} {pos : Nat} (h : pos < s.size) (h1 : (Utf8.decode s pos).1 < 32 ∨ 126 < (Utf8.decode s pos).1) :
    pr (s[pos]'h) = false := by
  rcases rune_at h with ⟨e, e2⟩ | ⟨_, e, _⟩
  · exact pr_no (by omega)
  · exact pr_no (by omega)
/-- what there was is as it was: new blocks alone -/
def Grows (w w' : World) : Prop := Below w.heap.size w w'
theorem Grows.refl (w : World) : Grows w w := Below.refl _ _
theorem Grows.trans {a b c : World} (h : Grows a b) (k : Grows b c) : Grows a c := Below.trans h (Below.mono k h.size)
theorem Grows.alloc {a b : World} (h : Grows a b) (o : Obj) : Grows a (b.alloc o) := Below.alloc h h.size o
theorem Grows.drew {a b : World} (h : Grows a b) : Grows a b.drew := Below.drew h
theorem Grows.drewN {a b : World} (h : Grows a b) (n : Nat) : Grows a (b.drewN n) := ⟨h.os, h.tape, h.output, h.size, h.block⟩
theorem Grows.setCell {a b : World} (h : Grows a b) {p : Addr} (hp : a.heap.size ≤ p.block) (u : Value) : Grows a (b.setCell p u) := Below.setCell h hp u
theorem Grows.below {a b : World} (h : Grows a b) : Below a.heap.size a b := h
theorem Grows.cell {a b : World} (h : Grows a b) {p : Addr} (hp : p.block < a.heap.size) : b.cell? p = a.cell? p := Below.cell h hp
theorem below_iter (w : World) (s : ByteArray) (pos : Nat) : Below w.heap.size w (w.iter s pos) := (Below.refl _ _).alloc (Nat.le_refl _) _

/-! ### what cutting spaces off tells -/
theorem dw_len {α : Type} (q : α → Bool) : ∀ m : List α, (m.dropWhile q).length ≤ m.length
  | [] => by simp
  | b :: t => by
    rw [List.dropWhile_cons]
    split
    · have := dw_len q t; simp; omega
    · exact Nat.le_refl _
theorem dw_self {α : Type} (q : α → Bool) (m : List α) : m.dropWhile q = m ↔ ∀ b, m.head? = some b → q b = false := by
  cases m with
  | nil => simp
  | cons b t =>
    rw [List.dropWhile_cons]
    by_cases hb : q b = true
    · rw [if_pos hb]
      constructor
      · intro h
        have := dw_len q t
        rw [h] at this
        simp at this
        omega
      · intro h
        have := h b rfl
        rw [hb] at this
        cases this
    · rw [if_neg hb]
      simp [hb]
theorem dw_nil {α : Type} (q : α → Bool) (m : List α) : m.dropWhile q = [] ↔ m.all q = true := by
  induction m with
  | nil => simp
  | cons b t ih =>
    rw [List.dropWhile_cons, List.all_cons]
    by_cases hb : q b = true
    · simp [hb, ih]
    · simp [hb]
theorem dw_head {α : Type} (q : α → Bool) (m : List α) : ∀ b, (m.dropWhile q).head? = some b → q b = false := by
  induction m with
  | nil => simp
  | cons b t ih =>
    rw [List.dropWhile_cons]
    by_cases hb : q b = true
    · rw [if_pos hb]; exact ih
    · rw [if_neg hb]; intro c hc
      simp at hc; subst hc; simpa using hb
theorem eq32 (b : UInt8) : (b == 32) = sp b := by
  unfold sp
  rw [Bool.eq_iff_iff, beq_iff_eq, decide_eq_true_iff]
  exact ⟨fun h => by rw [h]; rfl, fun h => UInt8.toNat_inj.1 h⟩
theorem trimB_nil (l : List UInt8) : Lib.trimB l 32 = [] ↔ l.all sp = true := by
  have hq : (fun b : UInt8 => b == 32) = sp := funext eq32
  unfold Lib.trimB Lib.trimLeftB Lib.trimRightB
  rw [hq, dw_nil, List.all_reverse]
  constructor
  · intro h
    rw [← List.all_reverse, ← dw_nil]
    rcases hd : l.reverse.dropWhile sp with _ | ⟨b, t⟩
    · rfl
    · exfalso
      have h1 := dw_head sp l.reverse b (by rw [hd]; rfl)
      rw [hd, List.all_cons, h1] at h
      cases h
  · intro h
    have : l.reverse.all sp = true := by rw [List.all_reverse]; exact h
    rw [(dw_nil _ _).2 this]; rfl
theorem trimB_self (l : List UInt8) : Lib.trimB l 32 = l ↔ edge l = true := by
  have hq : (fun b : UInt8 => b == 32) = sp := funext eq32
  have h32 : ∀ b : UInt8, sp b = false ↔ b ≠ 32 := by
    intro b; rw [← eq32, beq_eq_false_iff_ne]
  have hE : edge l = true ↔ (∀ b, l.head? = some b → sp b = false) ∧ (∀ b, l.reverse.head? = some b → sp b = false) := by
    unfold edge
    rw [Bool.and_eq_true, decide_eq_true_iff, decide_eq_true_iff, List.head?_reverse]
    constructor
    · rintro ⟨h1, h2⟩
      exact ⟨fun b hb => (h32 b).2 (fun e => h1 (by rw [hb, e])), fun b hb => (h32 b).2 (fun e => h2 (by rw [hb, e]))⟩
    · rintro ⟨h1, h2⟩
      exact ⟨fun e => by have := h1 _ e; simp [sp] at this, fun e => by have := h2 _ e; simp [sp] at this⟩
  rw [hE, ← dw_self, ← dw_self]
  unfold Lib.trimB Lib.trimLeftB Lib.trimRightB
  rw [hq]
  constructor
  · intro h
    have e1 := dw_len sp l.reverse
    have e2 := dw_len sp (l.reverse.dropWhile sp).reverse
    rw [h] at e2
    have e3 : (l.reverse.dropWhile sp).length = l.reverse.length := by simp at e1 e2 ⊢; omega
    have e4 : l.reverse.dropWhile sp = l.reverse := by
      rcases Nat.lt_or_ge 0 l.reverse.length with h0 | h0
      · have hs : l.reverse.dropWhile sp <:+ l.reverse := List.dropWhile_suffix sp
        exact List.IsSuffix.eq_of_length hs e3
      · have : l.reverse = [] := List.eq_nil_of_length_eq_zero (by omega)
        rw [this]; rfl
    rw [e4, List.reverse_reverse] at h
    exact ⟨h, e4⟩
  · rintro ⟨h1, h2⟩
    rw [h2, List.reverse_reverse, h1]

/-! ### the separator of a pair -/
/-- the place of the first byte '=', the length if there is none -/
def eqAt (l : List UInt8) : Nat := (l.takeWhile (fun b => b.toNat != 61)).length
/-- at most four spaces -/
def lspaces (l : List UInt8) : Bool := l.all sp && decide (l.length ≤ 4)
/-- what a separator is -/
def vsep (s : ByteArray) : Bool := decide (eqAt s.data.toList < s.size) && (lspaces (s.data.toList.take (eqAt s.data.toList)) && lspaces (s.data.toList.drop (eqAt s.data.toList + 1)))
theorem lspaces_eq (s : ByteArray) : lspaces s.data.toList = vspaces s := by
  unfold lspaces vspaces allB
  rw [Lib.size_eq]
theorem eqAt_of (l : List UInt8) : ∀ k, k < l.length → (∀ j (h : j < l.length), j < k → l[j].toNat ≠ 61) → (∀ h : k < l.length, l[k].toNat = 61) → eqAt l = k := by
  induction l with
  | nil => intro k hk; simp at hk
  | cons b t ih =>
    intro k hk h1 h2
    unfold eqAt
    rw [List.takeWhile_cons]
    cases k with
    | zero =>
      have : b.toNat = 61 := h2 (by simp)
      simp [this]
    | succ k =>
      have hb : b.toNat ≠ 61 := h1 0 (by simp) (by omega)
      have := ih k (by simpa using hk) (fun j hj hjk => h1 (j + 1) (by simpa using hj) (by omega)) (fun h => h2 (by simpa using h))
      unfold eqAt at this
      simp [hb, this]
theorem eqAt_none (l : List UInt8) (h : ∀ j (h : j < l.length), l[j].toNat ≠ 61) : eqAt l = l.length := by
  induction l with
  | nil => rfl
  | cons b t ih =>
    have hb : b.toNat ≠ 61 := h 0 (by simp)
    have := ih (fun j hj => h (j + 1) (by simpa using hj))
    unfold eqAt at this ⊢
    rw [List.takeWhile_cons]
    simp [hb, this]
theorem eqAt_le (l : List UInt8) : eqAt l ≤ l.length := by
  induction l with
  | nil => exact Nat.le_refl _
  | cons b t ih =>
    unfold eqAt at ih ⊢
    rw [List.takeWhile_cons]
    split
    · simp; omega
    · simp
theorem eqAt_cons (b : UInt8) (t : List UInt8) : eqAt (b :: t) = if b.toNat = 61 then 0 else eqAt t + 1 := by
  unfold eqAt
  rw [List.takeWhile_cons]
  by_cases h : b.toNat = 61 <;> simp [h]
theorem eqAt_index (l : List UInt8) : Lib.indexByte l 61 = if eqAt l < l.length then (eqAt l : Int) else -1 := by
  induction l with
  | nil => rfl
  | cons b t ih =>
    have hle := eqAt_le t
    have h61 : (b == 61) = decide (b.toNat = 61) := by
      rw [Bool.eq_iff_iff, beq_iff_eq, decide_eq_true_iff]
      exact ⟨fun h => by rw [h]; rfl, fun h => UInt8.toNat_inj.1 h⟩
    unfold Lib.indexByte
    rw [ih, eqAt_cons, h61]
    by_cases h : b.toNat = 61
    · simp [h]
    · by_cases h2 : eqAt t < t.length
      · rw [if_pos h2]
        simp [h, h2]

      · rw [if_neg h2]
        simp [h, h2]
theorem allB_extract (p : UInt8 → Bool) (s : ByteArray) (a b : Nat) : allB p (s.extract a b) = ((s.data.toList.drop a).take (b - a)).all p := by
  unfold allB
  rw [Lib.extract_data]
end Go.Proofs.YtkjoolmhcfajnaaDoor
