/-
  Texts of places and of edits as plain functions of bytes: how they are made, read, and read back. No program.
-/
import Derived.Test.YthiefficgmokgaaDoorTidyQ
import Derived.Lib.SmallJoins
namespace Go.Proofs.YthiefficgmokgaaDoor
open Go.RowKit

/-- the place of the first byte 46, the length if there is none -/
def dotAt (l : List UInt8) : Nat := (l.takeWhile (fun b => b.toNat != 46)).length
theorem dotAt_of (l : List UInt8) : ∀ k, k < l.length → (∀ j (h : j < l.length), j < k → l[j].toNat ≠ 46) → (∀ h : k < l.length, l[k].toNat = 46) → dotAt l = k := by
  induction l with
  | nil => intro k hk; simp at hk
  | cons b t ih =>
    intro k hk h1 h2
    unfold dotAt
    rw [List.takeWhile_cons]
    cases k with
    | zero =>
      have : b.toNat = 46 := h2 (by simp)
      simp [this]
    | succ k =>
      have hb : b.toNat ≠ 46 := h1 0 (by simp) (by omega)
      have := ih k (by simpa using hk) (fun j hj hjk => h1 (j + 1) (by simpa using hj) (by omega)) (fun h => h2 (by simpa using h))
      unfold dotAt at this
      simp [hb, this]
theorem dotAt_none (l : List UInt8) (h : ∀ j (h : j < l.length), l[j].toNat ≠ 46) : dotAt l = l.length := by
  induction l with
  | nil => rfl
  | cons b t ih =>
    have hb : b.toNat ≠ 46 := h 0 (by simp)
    have := ih (fun j hj => h (j + 1) (by simpa using hj))
    unfold dotAt at this ⊢
    rw [List.takeWhile_cons]
    simp [hb, this]
theorem dotAt_le (l : List UInt8) : dotAt l ≤ l.length := by
  induction l with
  | nil => exact Nat.le_refl _
  | cons b t ih =>
    unfold dotAt at ih ⊢
    rw [List.takeWhile_cons]
    split
    · simp; omega
    · simp
theorem dotAt_cons (b : UInt8) (t : List UInt8) : dotAt (b :: t) = if b.toNat = 46 then 0 else dotAt t + 1 := by
  unfold dotAt
  rw [List.takeWhile_cons]
  by_cases h : b.toNat = 46 <;> simp [h]
theorem dotAt_index (l : List UInt8) : Lib.indexByte l 46 = if dotAt l < l.length then (dotAt l : Int) else -1 := by
  induction l with
  | nil => rfl
  | cons b t ih =>
    have hle := dotAt_le t
    have h46 : (b == 46) = decide (b.toNat = 46) := by
      rw [Bool.eq_iff_iff, beq_iff_eq, decide_eq_true_iff]
      exact ⟨fun h => by rw [h]; rfl, fun h => UInt8.toNat_inj.1 h⟩
    unfold Lib.indexByte
    rw [ih, dotAt_cons, h46]
    by_cases h : b.toNat = 46
    · simp [h]
    · by_cases h2 : dotAt t < t.length
      · rw [if_pos h2]
        simp [h, h2]

      · rw [if_neg h2]
        simp [h, h2]
/-- the place of the first byte 32, the length if there is none -/
def blAt (l : List UInt8) : Nat := (l.takeWhile (fun b => b.toNat != 32)).length
theorem blAt_of (l : List UInt8) : ∀ k, k < l.length → (∀ j (h : j < l.length), j < k → l[j].toNat ≠ 32) → (∀ h : k < l.length, l[k].toNat = 32) → blAt l = k := by
  induction l with
  | nil => intro k hk; simp at hk
  | cons b t ih =>
    intro k hk h1 h2
    unfold blAt
    rw [List.takeWhile_cons]
    cases k with
    | zero =>
      have : b.toNat = 32 := h2 (by simp)
      simp [this]
    | succ k =>
      have hb : b.toNat ≠ 32 := h1 0 (by simp) (by omega)
      have := ih k (by simpa using hk) (fun j hj hjk => h1 (j + 1) (by simpa using hj) (by omega)) (fun h => h2 (by simpa using h))
      unfold blAt at this
      simp [hb, this]
theorem blAt_none (l : List UInt8) (h : ∀ j (h : j < l.length), l[j].toNat ≠ 32) : blAt l = l.length := by
  induction l with
  | nil => rfl
  | cons b t ih =>
    have hb : b.toNat ≠ 32 := h 0 (by simp)
    have := ih (fun j hj => h (j + 1) (by simpa using hj))
    unfold blAt at this ⊢
    rw [List.takeWhile_cons]
    simp [hb, this]
theorem blAt_le (l : List UInt8) : blAt l ≤ l.length := by
  induction l with
  | nil => exact Nat.le_refl _
  | cons b t ih =>
    unfold blAt at ih ⊢
    rw [List.takeWhile_cons]
    split
    · simp; omega
    · simp
theorem blAt_cons (b : UInt8) (t : List UInt8) : blAt (b :: t) = if b.toNat = 32 then 0 else blAt t + 1 := by
  unfold blAt
  rw [List.takeWhile_cons]
  by_cases h : b.toNat = 32 <;> simp [h]
theorem blAt_index (l : List UInt8) : Lib.indexByte l 32 = if blAt l < l.length then (blAt l : Int) else -1 := by
  induction l with
  | nil => rfl
  | cons b t ih =>
    have hle := blAt_le t
    have h32 : (b == 32) = decide (b.toNat = 32) := by
      rw [Bool.eq_iff_iff, beq_iff_eq, decide_eq_true_iff]
      exact ⟨fun h => by rw [h]; rfl, fun h => UInt8.toNat_inj.1 h⟩
    unfold Lib.indexByte
    rw [ih, blAt_cons, h32]
    by_cases h : b.toNat = 32
    · simp [h]
    · by_cases h2 : blAt t < t.length
      · rw [if_pos h2]
        simp [h, h2]

      · rw [if_neg h2]
        simp [h, h2]

/-- the two parts at the first point: nothing and all where there is none -/
def pSec (s : ByteArray) : ByteArray := if dotAt s.data.toList < s.size then s.extract 0 (dotAt s.data.toList) else ⟨#[]⟩
def pKey (s : ByteArray) : ByteArray := if dotAt s.data.toList < s.size then s.extract (dotAt s.data.toList + 1) s.size else s
def parB (s : ByteArray) : Bool := vplace (pSec s) (pKey s) && (!decide (dotAt s.data.toList < s.size) || !((pSec s).toList == []))
def resS (s : ByteArray) : ByteArray := if parB s = true then pSec s else ⟨#[]⟩
def resK (s : ByteArray) : ByteArray := if parB s = true then pKey s else ⟨#[]⟩
/-- the text of a place -/
def plT (r k : ByteArray) : ByteArray := if (r.toList == []) = true then k else r ++ ⟨#[46]⟩ ++ k
def plTB (r k : ByteArray) : ByteArray := if vplace r k = true then plT r k else ⟨#[]⟩

theorem ba_data {a b : ByteArray} (h : a.data.toList = b.data.toList) : a = b := toList_inj (by rw [Lib.toList_data, Lib.toList_data, h])
theorem nil_toList : (⟨#[]⟩ : ByteArray).toList = [] := by rw [Lib.toList_data]
theorem szD (s : ByteArray) : s.data.toList.length = s.size := (Lib.size_eq s).symm
theorem data_nil {s : ByteArray} (h : s.toList = []) : s = ⟨#[]⟩ := toList_inj (h.trans nil_toList.symm)
theorem eqNil_yes {s : ByteArray} (h : s.toList = []) : (s.toList == []) = true := by rw [h]; rfl
theorem eqNil_no {s : ByteArray} (h : ¬ s.toList = []) : ¬ (s.toList == []) = true := fun e => h (eq_of_beq e)
theorem dat_one (c : UInt8) : (⟨#[c]⟩ : ByteArray).data.toList = [c] := rfl
theorem sz_append (a b : ByteArray) : (a ++ b).size = a.size + b.size := ByteArray.size_append
theorem takeWhile_all {p : UInt8 → Bool} {l m : List UInt8} (h : l.all p = true) : (l ++ m).takeWhile p = l ++ m.takeWhile p := by
  induction l with
  | nil => rfl
  | cons b t ih =>
    rw [List.all_cons, Bool.and_eq_true] at h
    rw [List.cons_append, List.takeWhile_cons, if_pos h.1, ih h.2]; rfl
/-- a name has no byte below 97 -/
theorem vname_no {s : ByteArray} (h : vname s = true) (c : Nat) (hc : c < 97) : s.data.toList.all (fun b => b.toNat != c) = true := by
  unfold vname at h
  rw [Bool.and_eq_true] at h
  have h1 := h.1
  unfold allB at h1
  rw [List.all_eq_true] at h1 ⊢
  intro b hb
  have := h1 b hb
  unfold letter at this
  rw [Bool.and_eq_true, decide_eq_true_iff, decide_eq_true_iff] at this
  simp; omega
theorem vname_pos {s : ByteArray} (h : vname s = true) : 0 < s.size ∧ s.size ≤ 8 := by
  unfold vname at h
  rw [Bool.and_eq_true, Bool.and_eq_true, decide_eq_true_iff, decide_eq_true_iff] at h
  exact ⟨h.2.1, h.2.2⟩
theorem vplace_key {r k : ByteArray} (h : vplace r k = true) : vname k = true := by
  unfold vplace at h; rw [Bool.and_eq_true] at h; exact h.2
theorem vplace_sec {r k : ByteArray} (h : vplace r k = true) (hr : ¬ r.toList = []) : vname r = true := by
  unfold vplace at h; rw [Bool.and_eq_true] at h
  rw [← vsec_ne hr]; exact h.1
theorem dotAt_no {s : ByteArray} (h : s.data.toList.all (fun b => b.toNat != 46) = true) : ¬ dotAt s.data.toList < s.size := by
  unfold dotAt
  have := takeWhile_all (m := []) h
  rw [List.append_nil] at this
  rw [this, Lib.size_eq]; simp
theorem dotAt_mid {r k : ByteArray} (h : r.data.toList.all (fun b => b.toNat != 46) = true) : dotAt (r ++ ⟨#[46]⟩ ++ k).data.toList = r.size := by
  unfold dotAt
  rw [Joins.data_append, Joins.data_append, List.append_assoc, takeWhile_all h, dat_one]
  simp
theorem ex_left (r m k : ByteArray) : (r ++ m ++ k).extract 0 r.size = r := by
  refine ba_data ?_
  rw [Lib.extract_data, Joins.data_append, Joins.data_append, List.append_assoc, Lib.size_eq]
  simp
theorem ex_right (r k : ByteArray) (c : UInt8) : (r ++ ⟨#[c]⟩ ++ k).extract (r.size + 1) (r ++ ⟨#[c]⟩ ++ k).size = k := by
  refine ba_data ?_
  rw [Lib.extract_to_end, Joins.data_append, Joins.data_append, dat_one, Lib.size_eq]
  have : r.data.toList.length + 1 = (r.data.toList ++ [c]).length := by simp
  rw [this, List.drop_left]
/-- a text is what stands ahead of a byte, this, and what stands behind it -/
theorem ex_join (s : ByteArray) (k : Nat) (hk : k < s.size) (c : UInt8) (hc : s[k] = c) : s.extract 0 k ++ ⟨#[c]⟩ ++ s.extract (k + 1) s.size = s := by
  refine ba_data ?_
  rw [Joins.data_append, Joins.data_append, Lib.extract_data, Lib.extract_to_end, dat_one]
  have hk2 : k < s.data.toList.length := by rw [← Lib.size_eq]; exact hk
  have hg : s.data.toList[k] = c := by rw [← hc]; rfl
  rw [List.drop_zero, Nat.sub_zero, ← hg, ← List.take_succ_eq_append_getElem hk2, List.take_append_drop]
theorem at_is (c : Nat) (l : List UInt8) : (h : (l.takeWhile (fun b => b.toNat != c)).length < l.length) → (l[(l.takeWhile (fun b => b.toNat != c)).length]'h).toNat = c := by
  induction l with
  | nil => intro h; simp at h
  | cons b t ih =>
    intro h
    by_cases hb : b.toNat = c
    · have e : (b :: t).takeWhile (fun b => b.toNat != c) = [] := by rw [List.takeWhile_cons, if_neg (by simp [hb])]
      simp [e, hb]
    · have e : (b :: t).takeWhile (fun b => b.toNat != c) = b :: t.takeWhile (fun b => b.toNat != c) := by rw [List.takeWhile_cons, if_pos (by simp [hb])]
      have h2 : (t.takeWhile (fun b => b.toNat != c)).length < t.length := by rw [e] at h; simpa using h
      have := ih h2
      simp only [e, List.length_cons, List.getElem_cons_succ]
      exact this
theorem dot_is {s : ByteArray} (h : dotAt s.data.toList < s.size) : s[dotAt s.data.toList] = 46 := by
  have h2 : dotAt s.data.toList < s.data.toList.length := by rw [← Lib.size_eq]; exact h
  have := at_is 46 s.data.toList h2
  exact UInt8.toNat_inj.1 this
theorem bl_is {s : ByteArray} (h : blAt s.data.toList < s.size) : s[blAt s.data.toList] = 32 := by
  have h2 : blAt s.data.toList < s.data.toList.length := by rw [← Lib.size_eq]; exact h
  have := at_is 32 s.data.toList h2
  exact UInt8.toNat_inj.1 this
theorem parts_join {s : ByteArray} (h : dotAt s.data.toList < s.size) : pSec s ++ ⟨#[46]⟩ ++ pKey s = s := by
  unfold pSec pKey
  rw [if_pos h, if_pos h]
  exact ex_join s _ h 46 (dot_is h)
theorem pSec_le (s : ByteArray) : (pSec s).size ≤ s.size := by
  unfold pSec; split
  · exact extract_le _ _ _
  · exact Nat.zero_le _
theorem pKey_le (s : ByteArray) : (pKey s).size ≤ s.size := by
  unfold pKey; split
  · exact extract_le _ _ _
  · exact Nat.le_refl _
/-- a place that is read is written back -/
theorem par_text {s : ByteArray} (h : parB s = true) : plTB (pSec s) (pKey s) = s := by
  unfold parB at h
  rw [Bool.and_eq_true] at h
  unfold plTB
  rw [if_pos h.1]
  by_cases hd : dotAt s.data.toList < s.size
  · have h2 := h.2
    unfold plT
    rw [if_neg (by intro e; rw [e] at h2; simp [hd] at h2)]
    exact parts_join hd
  · unfold pSec pKey
    rw [if_neg hd, if_neg hd]
    unfold plT
    rw [if_pos (eqNil_yes nil_toList)]
/-- the program's test of a place that is read -/
theorem par_test (s : ByteArray) : parB s = (vplace (pSec s) (pKey s) && ((plTB (pSec s) (pKey s)).toList == s.toList)) := by
  by_cases h : parB s = true
  · rw [par_text h, h]
    unfold parB at h
    rw [Bool.and_eq_true] at h
    rw [h.1]; simp
  · have h' : parB s = false := by simpa using h
    rw [h']
    by_cases hv : vplace (pSec s) (pKey s) = true
    · rw [hv, Bool.true_and]
      have h2 := h'
      unfold parB at h2
      rw [hv, Bool.true_and, Bool.or_eq_false_iff] at h2
      have hd : dotAt s.data.toList < s.size := by simpa using h2.1
      have hn : ((pSec s).toList == []) = true := by simpa using h2.2
      symm
      rw [beq_eq_false_iff_ne]
      intro e
      have e2 := toList_inj e
      unfold plTB plT at e2
      rw [if_pos hv, if_pos hn] at e2
      have h3 := parts_join hd
      have h4 := congrArg ByteArray.size h3
      have h5 := congrArg ByteArray.size e2
      rw [sz_append, sz_append] at h4
      have : (⟨#[46]⟩ : ByteArray).size = 1 := rfl
      omega
    · have hv' : vplace (pSec s) (pKey s) = false := by simpa using hv
      rw [hv', Bool.false_and]
theorem pl_parts {r k : ByteArray} (h : vplace r k = true) : pSec (plT r k) = r ∧ pKey (plT r k) = k := by
  have hk := vplace_key h
  by_cases hr : r.toList = []
  · have hr' := data_nil hr
    subst hr'
    have hd := dotAt_no (vname_no hk 46 (by omega))
    unfold plT pSec pKey
    rw [if_pos (eqNil_yes nil_toList), if_neg hd, if_neg hd]
    exact ⟨rfl, rfl⟩
  · have hn := vplace_sec h hr
    have hd := dotAt_mid (k := k) (vname_no hn 46 (by omega))
    have hl : dotAt (r ++ ⟨#[46]⟩ ++ k).data.toList < (r ++ ⟨#[46]⟩ ++ k).size := by
      rw [hd, sz_append, sz_append]
      have : (⟨#[46]⟩ : ByteArray).size = 1 := rfl
      omega
    unfold plT pSec pKey
    rw [if_neg (eqNil_no hr), if_pos hl, if_pos hl, hd]
    exact ⟨ex_left _ _ _, ex_right _ _ _⟩
theorem pl_read {r k : ByteArray} (h : vplace r k = true) : parB (plT r k) = true ∧ resS (plT r k) = r ∧ resK (plT r k) = k := by
  obtain ⟨h1, h2⟩ := pl_parts h
  have hp : parB (plT r k) = true := by
    rw [par_test, h1, h2, h, Bool.true_and]
    unfold plTB
    rw [if_pos h]; simp
  exact ⟨hp, by unfold resS; rw [if_pos hp, h1], by unfold resK; rw [if_pos hp, h2]⟩
theorem pl_size {r k : ByteArray} (h : vplace r k = true) : (plT r k).size ≤ 17 ∧ 0 < (plT r k).size := by
  have hk := vname_pos (vplace_key h)
  by_cases hr : r.toList = []
  · unfold plT
    rw [if_pos (eqNil_yes hr)]
    omega
  · have hn := vname_pos (vplace_sec h hr)
    unfold plT
    rw [if_neg (eqNil_no hr), sz_append, sz_append]
    have : (⟨#[46]⟩ : ByteArray).size = 1 := rfl
    omega
theorem plT_size (r k : ByteArray) : (plT r k).size ≤ r.size + 1 + k.size := by
  unfold plT
  split
  · omega
  · rw [sz_append, sz_append]
    have : (⟨#[46]⟩ : ByteArray).size = 1 := rfl
    omega
theorem pl_noblank {r k : ByteArray} (h : vplace r k = true) : (plT r k).data.toList.all (fun b => b.toNat != 32) = true := by
  have hk := vname_no (vplace_key h) 32 (by omega)
  by_cases hr : r.toList = []
  · unfold plT
    rw [if_pos (eqNil_yes hr)]
    exact hk
  · have hn := vname_no (vplace_sec h hr) 32 (by omega)
    unfold plT
    rw [if_neg (eqNil_no hr), Joins.data_append, Joins.data_append, List.all_append, List.all_append, hk, hn]
    rfl

/-! ### edits -/
def vedit (r k : ByteArray) (d : Bool) (v : ByteArray) : Bool := vplace r k && (vvalue v && (!d || (v.toList == [])))
def edT (r k : ByteArray) (d : Bool) (v : ByteArray) : ByteArray := if d = true then plT r k ++ ⟨#[32, 45]⟩ else plT r k ++ ⟨#[32, 61, 32]⟩ ++ v
def edTB (r k : ByteArray) (d : Bool) (v : ByteArray) : ByteArray := if vedit r k d v = true then edT r k d v else ⟨#[]⟩
/-- what stands ahead of the first space, and what behind it -/
def eWhere (s : ByteArray) : ByteArray := if blAt s.data.toList < s.size then s.extract 0 (blAt s.data.toList) else s
def eDoes (s : ByteArray) : ByteArray := if blAt s.data.toList < s.size then s.extract (blAt s.data.toList + 1) s.size else ⟨#[]⟩
def eDrop (s : ByteArray) : Bool := (eDoes s).toList == [45]
def ePre (s : ByteArray) : Bool := Lib.hasPrefix (eDoes s).data.toList [61, 32]
/-- what the edit's value would be -/
def eVal (s : ByteArray) : ByteArray := (eDoes s).extract 2 (eDoes s).size
/-- whether the text is one of an edit, as the specification asks it -/
def pedB (s : ByteArray) : Bool := decide (blAt s.data.toList < s.size) && (parB (eWhere s) && (eDrop s || (ePre s && vvalue (eVal s))))
def pedV (s : ByteArray) : ByteArray := if eDrop s = true then ⟨#[]⟩ else eVal s
/-- the value as the program takes it -/
def ePV (s : ByteArray) : ByteArray := if eDrop s = true then ⟨#[]⟩ else if ePre s = true then eVal s else eDoes s
theorem vvalue_nil : vvalue ⟨#[]⟩ = true := by decide +kernel
theorem blAt_no {s : ByteArray} (h : s.data.toList.all (fun b => b.toNat != 32) = true) : ¬ blAt s.data.toList < s.size := by
  unfold blAt
  have := takeWhile_all (m := []) h
  rw [List.append_nil] at this
  rw [this, Lib.size_eq]; simp
theorem bl_mid {p : ByteArray} (h : p.data.toList.all (fun b => b.toNat != 32) = true) (q : ByteArray) : blAt (p ++ ⟨#[32]⟩ ++ q).data.toList = p.size := by
  unfold blAt
  rw [Joins.data_append, Joins.data_append, List.append_assoc, takeWhile_all h, dat_one]
  simp
theorem w_parts {p q : ByteArray} (h : p.data.toList.all (fun b => b.toNat != 32) = true) : blAt (p ++ ⟨#[32]⟩ ++ q).data.toList < (p ++ ⟨#[32]⟩ ++ q).size ∧ eWhere (p ++ ⟨#[32]⟩ ++ q) = p ∧ eDoes (p ++ ⟨#[32]⟩ ++ q) = q := by
  have hd := bl_mid h q
  have hl : blAt (p ++ ⟨#[32]⟩ ++ q).data.toList < (p ++ ⟨#[32]⟩ ++ q).size := by
    rw [hd, sz_append, sz_append]
    have : (⟨#[32]⟩ : ByteArray).size = 1 := rfl
    omega
  refine ⟨hl, ?_⟩
  unfold eWhere eDoes
  rw [if_pos hl, if_pos hl, hd]
  exact ⟨ex_left _ _ _, ex_right _ _ _⟩
theorem w_join {s : ByteArray} (h : blAt s.data.toList < s.size) : eWhere s ++ ⟨#[32]⟩ ++ eDoes s = s := by
  unfold eWhere eDoes
  rw [if_pos h, if_pos h]
  exact ex_join s _ h 32 (bl_is h)
theorem ap_assoc (a b c : ByteArray) : a ++ b ++ c = a ++ (b ++ c) := by
  refine ba_data ?_
  rw [Joins.data_append, Joins.data_append, Joins.data_append, Joins.data_append, List.append_assoc]
theorem edT_is (r k : ByteArray) (d : Bool) (v : ByteArray) : edT r k d v = plT r k ++ ⟨#[32]⟩ ++ (if d = true then ⟨#[45]⟩ else ⟨#[61, 32]⟩ ++ v) := by
  unfold edT
  cases d
  · rw [if_neg (by simp), if_neg (by simp)]
    exact ba_data (by simp)
  · rw [if_pos rfl, if_pos rfl]
    exact ba_data (by simp)
theorem pre_val {q : ByteArray} (h : Lib.hasPrefix q.data.toList [61, 32] = true) : ⟨#[61, 32]⟩ ++ q.extract 2 q.size = q := by
  refine ba_data ?_
  rw [Joins.data_append, Lib.extract_to_end]
  unfold Lib.hasPrefix at h
  obtain ⟨t, ht⟩ := List.isPrefixOf_iff_prefix.1 h
  rw [← ht]; rfl
theorem val_pre (v : ByteArray) : Lib.hasPrefix (⟨#[61, 32]⟩ ++ v : ByteArray).data.toList [61, 32] = true ∧ (⟨#[61, 32]⟩ ++ v : ByteArray).extract 2 (⟨#[61, 32]⟩ ++ v : ByteArray).size = v := by
  refine ⟨?_, ba_data ?_⟩
  · unfold Lib.hasPrefix
    rw [List.isPrefixOf_iff_prefix, Joins.data_append]
    exact ⟨_, rfl⟩
  · rw [Lib.extract_to_end, Joins.data_append]; rfl
theorem vedit_yes {r k : ByteArray} {d : Bool} {v : ByteArray} (h : vedit r k d v = true) : vplace r k = true ∧ vvalue v = true ∧ (d = true → v = ⟨#[]⟩) := by
  unfold vedit at h
  rw [Bool.and_eq_true, Bool.and_eq_true] at h
  refine ⟨h.1, h.2.1, fun hd => ?_⟩
  have := h.2.2
  rw [hd] at this
  exact data_nil (by simpa using this)
/-- an edit's text is read back -/
theorem ed_read {r k : ByteArray} {d : Bool} {v : ByteArray} (h : vedit r k d v = true) :
    pedB (edT r k d v) = true ∧ resS (eWhere (edT r k d v)) = r ∧ resK (eWhere (edT r k d v)) = k ∧ eDrop (edT r k d v) = d ∧ pedV (edT r k d v) = v := by
  obtain ⟨h1, h2, h3⟩ := vedit_yes h
  obtain ⟨a1, a2, a3⟩ := w_parts (q := if d = true then ⟨#[45]⟩ else ⟨#[61, 32]⟩ ++ v) (pl_noblank h1)
  rw [← edT_is] at a1 a2 a3
  obtain ⟨b1, b2, b3⟩ := pl_read h1
  have hdr : eDrop (edT r k d v) = d := by
    unfold eDrop
    rw [a3]
    cases d
    · rw [if_neg (by simp)]
      rw [beq_eq_false_iff_ne, Lib.toList_data, Joins.data_append]
      simp
    · rw [if_pos rfl, Lib.toList_data]; rfl
  refine ⟨?_, by rw [a2]; exact b2, by rw [a2]; exact b3, hdr, ?_⟩
  · unfold pedB ePre eVal
    rw [hdr, a2, b1, a3, decide_eq_true a1]
    cases d
    · rw [if_neg (by simp), (val_pre v).1, (val_pre v).2, h2]; rfl
    · rfl
  · unfold pedV eVal
    rw [hdr, a3]
    cases d
    · rw [if_neg (by simp), if_neg (by simp), (val_pre v).2]
    · rw [if_pos rfl, h3 rfl]
/-- and what is read is written back -/
theorem ped_text {s : ByteArray} (h : pedB s = true) : vedit (resS (eWhere s)) (resK (eWhere s)) (eDrop s) (pedV s) = true ∧ edT (resS (eWhere s)) (resK (eWhere s)) (eDrop s) (pedV s) = s := by
  unfold pedB at h
  rw [Bool.and_eq_true, Bool.and_eq_true, decide_eq_true_iff] at h
  obtain ⟨h1, h2, h3⟩ := h
  have hv : vplace (pSec (eWhere s)) (pKey (eWhere s)) = true := by
    have := h2
    unfold parB at this
    rw [Bool.and_eq_true] at this
    exact this.1
  have ht := par_text h2
  unfold plTB at ht
  rw [if_pos hv] at ht
  unfold resS resK
  rw [if_pos h2, if_pos h2]
  rw [edT_is, ht]
  unfold vedit
  rw [hv]
  unfold pedV
  cases hd : eDrop s
  · rw [hd, Bool.false_or, Bool.and_eq_true] at h3
    rw [if_neg (by simp), if_neg (by simp), h3.2]
    refine ⟨rfl, ?_⟩
    have := pre_val (q := eDoes s) h3.1
    unfold eVal
    rw [this]
    exact w_join h1
  · rw [if_pos rfl, if_pos rfl, vvalue_nil]
    refine ⟨by rw [eqNil_yes nil_toList]; rfl, ?_⟩
    have : eDoes s = ⟨#[45]⟩ := toList_inj (by unfold eDrop at hd; rw [eq_of_beq hd, Lib.toList_data])
    have h4 := w_join h1
    rw [this] at h4
    exact h4
/-- the program's test of an edit that is read -/
theorem ped_test (s : ByteArray) : pedB s = (parB (eWhere s) && ((edTB (resS (eWhere s)) (resK (eWhere s)) (eDrop s) (ePV s)).toList == s.toList)) := by
  by_cases h : pedB s = true
  · obtain ⟨h1, h2⟩ := ped_text h
    have h0 := h
    unfold pedB at h0
    rw [Bool.and_eq_true, Bool.and_eq_true] at h0
    have hpv : ePV s = pedV s := by
      unfold ePV pedV
      cases hd : eDrop s
      · have := h0.2.2
        rw [hd, Bool.false_or, Bool.and_eq_true] at this
        rw [if_neg (by simp), if_pos this.1, if_neg (by simp)]
      · rw [if_pos rfl, if_pos rfl]
    rw [h, h0.2.1, hpv]
    unfold edTB
    rw [if_pos h1, h2]; simp
  · have h' : pedB s = false := by simpa using h
    rw [h']
    by_cases hp : parB (eWhere s) = true
    · rw [hp, Bool.true_and]
      symm
      rw [beq_eq_false_iff_ne]
      intro e
      have e2 := toList_inj e
      unfold edTB at e2
      by_cases hv : vedit (resS (eWhere s)) (resK (eWhere s)) (eDrop s) (ePV s) = true
      · rw [if_pos hv] at e2
        obtain ⟨b1, b2, b3, b4, b5⟩ := ed_read hv
        rw [e2] at b1
        rw [b1] at h'
        cases h'
      · rw [if_neg hv] at e2
        -- a text of nothing is no place
        subst e2
        exact absurd hp (by decide +kernel)
    · have hp' : parB (eWhere s) = false := by simpa using hp
      rw [hp', Bool.false_and]
theorem ePV_le (s : ByteArray) : (ePV s).size ≤ s.size := by
  have h1 : (eDoes s).size ≤ s.size := by
    unfold eDoes
    split
    · exact extract_le _ _ _
    · exact Nat.zero_le _
  unfold ePV eVal
  split
  · exact Nat.zero_le _
  · split
    · exact Nat.le_trans (extract_le _ _ _) h1
    · exact h1
theorem eWhere_le (s : ByteArray) : (eWhere s).size ≤ s.size := by
  unfold eWhere
  split
  · exact extract_le _ _ _
  · exact Nat.le_refl _
theorem resS_le (s : ByteArray) : (resS s).size ≤ s.size := by
  unfold resS; split
  · exact pSec_le s
  · exact Nat.zero_le _
theorem resK_le (s : ByteArray) : (resK s).size ≤ s.size := by
  unfold resK; split
  · exact pKey_le s
  · exact Nat.zero_le _
end Go.Proofs.YthiefficgmokgaaDoor
