/-
  What files tell of a key after edits, as plain lists: a line put in, a value set, pairs cut, a note added. No program; conditions: the file is valid where it is said.
  Plain facts on values that are set: what is set is told, all else is told as before, set again it is as it is, and the old value set gives the old file. No program; condition: the setting went well.
  Plain facts on pairs that are cut: nothing is told of the key any more, all else as before. No program; condition: the file is valid.
-/
import Derived.Test.YtgjineoiebokhaaDoorQP
import Derived.Test.YtgjineoiebokhaaDoorSetP
import Derived.Test.YtgjineoiebokhaaDoorCopyF
namespace Go.Proofs.YtgjineoiebokhaaDoor
open Go.RowKit

theorem tag_put (A B ms : List Ln) (h : nowF (nowF ⟨#[]⟩ A) ms = nowF ⟨#[]⟩ A) : tagOf (A ++ (ms ++ B)) = tagOf A ++ (tagF (nowF ⟨#[]⟩ A) ms ++ tagF (nowF ⟨#[]⟩ A) B) := by
  unfold tagOf
  rw [tagF_append, tagF_append, h]
theorem tag_two (A B : List Ln) : tagOf (A ++ B) = tagOf A ++ tagF (nowF ⟨#[]⟩ A) B := by
  unfold tagOf
  rw [tagF_append]
/-- what lines that are no heads, put in at k, tell with the others -/
theorem look_put {ls ms : List Ln} {k : Nat} (h : nowF (nowAt ls k) ms = nowAt ls k) (s key : ByteArray) :
    look (tagOf (putL ls k ms)) s key = (look (tagF (nowAt ls k) (ls.drop k)) s key).or ((look (tagF (nowAt ls k) ms) s key).or (look (tagOf (ls.take k)) s key)) := by
  unfold putL
  rw [tag_put _ _ _ h, look_append, look_append, Option.or_assoc]
  rfl
theorem look_cut (ls : List Ln) (k : Nat) (s key : ByteArray) : look (tagOf ls) s key = (look (tagF (nowAt ls k) (ls.drop k)) s key).or (look (tagOf (ls.take k)) s key) := by
  have := tag_two (ls.take k) (ls.drop k)
  rw [List.take_append_drop] at this
  rw [this, look_append]
  rfl
/-- lines that are no pairs of the key change nothing that is told of it -/
theorem look_put_no {ls ms : List Ln} {k : Nat} {s key : ByteArray} (h : nowF (nowAt ls k) ms = nowAt ls k) (hm : look (tagF (nowAt ls k) ms) s key = none) : look (tagOf (putL ls k ms)) s key = look (tagOf ls) s key := by
  rw [look_put h, hm, look_cut ls k]
  simp
/-- a pair of a key that was not there tells its value -/
theorem look_put_new {ls : List Ln} {k : Nat} {s key v : ByteArray} (hs : nowAt ls k = s) (h0 : look (tagOf ls) s key = none) : look (tagOf (putL ls k [pairL key v])) s key = some v := by
  have hn : nowF (nowAt ls k) [pairL key v] = nowAt ls k := by simp [nowF, pairL]
  rw [look_cut ls k] at h0
  rw [look_put hn]
  have hB : look (tagF (nowAt ls k) (ls.drop k)) s key = none := by
    cases h : look (tagF (nowAt ls k) (ls.drop k)) s key with
    | none => rfl
    | some x => rw [h] at h0; cases h0
  rw [hB, hs]
  have : hit s key (s, pairL key v) = true := by simp [hit, pairL]
  have e : tagF s [pairL key v] = [(s, pairL key v)] := by simp [tagF, pairL]
  rw [e, look_one, if_pos this]
  rfl
theorem hit_only {s key s' key' : ByteArray} {p : ByteArray × Ln} (h : hit s key p = true) (h' : hit s' key' p = true) : s' = s ∧ key' = key := by
  unfold hit at h h'
  simp only [Bool.and_eq_true, beq_iff_eq] at h h'
  exact ⟨toList_inj (h'.2.symm.trans h.2), toList_inj (h'.1.2.symm.trans h.1.2)⟩
theorem look_put_other {ls : List Ln} {k : Nat} {s key v s' key' : ByteArray} (hs : nowAt ls k = s) (hne : ¬ (s' = s ∧ key' = key)) : look (tagOf (putL ls k [pairL key v])) s' key' = look (tagOf ls) s' key' := by
  refine look_put_no (by simp [nowF, pairL]) ?_
  rw [hs]
  have e : tagF s [pairL key v] = [(s, pairL key v)] := by simp [tagF, pairL]
  have hp : hit s key (s, pairL key v) = true := by simp [hit, pairL]
  rw [e, look_one]
  split
  · rename_i h
    exact absurd (hit_only hp h) hne
  · rfl
/-- a head and a pair behind all lines -/
theorem look_end {ls : List Ln} {s key v : ByteArray} : look (tagOf (putL ls ls.length [headL s, pairL key v])) s key = some v ∧ ∀ s' key', ¬ (s' = s ∧ key' = key) → look (tagOf (putL ls ls.length [headL s, pairL key v])) s' key' = look (tagOf ls) s' key' := by
  have e0 : putL ls ls.length [headL s, pairL key v] = ls ++ [headL s, pairL key v] := by
    unfold putL
    rw [List.take_length, List.drop_length, List.append_nil]
  have e1 : ∀ now, tagF now [headL s, pairL key v] = [(s, headL s), (s, pairL key v)] := fun now => by simp [tagF, headL, pairL]
  have hp : hit s key (s, pairL key v) = true := by simp [hit, pairL]
  have hh : ∀ a b, hit a b (s, headL s) = false := fun a b => by simp [hit, headL]
  rw [e0, tag_two, e1]
  refine ⟨?_, fun s' key' hne => ?_⟩
  · rw [look_append, look_cons, look_one, if_pos hp]
    rfl
  · rw [look_append, look_cons, look_one, hh]
    have : ¬ hit s' key' (s, pairL key v) = true := fun h => hne (hit_only hp h)
    rw [if_neg this]
    simp
/-- a line set to another one of the same kind and name -/
theorem nowF_set (ls : List Ln) : ∀ (k : Nat) (l : Ln) (now : ByteArray) (hk : k < ls.length), l.k = ls[k].k → l.na = ls[k].na → nowF now (ls.set k l) = nowF now ls := by
  induction ls with
  | nil => intro k l now hk; exact absurd hk (by simp)
  | cons x t ih =>
    intro k l now hk h1 h2
    cases k with
    | zero =>
      have h1' : l.k = x.k := h1
      have h2' : l.na = x.na := h2
      simp [nowF, h1', h2']
    | succ k => exact ih k l _ (by simpa using hk) h1 h2
theorem tagF_set (ls : List Ln) : ∀ (k : Nat) (l : Ln) (now : ByteArray) (hk : k < ls.length), l.k = ls[k].k → l.na = ls[k].na → tagF now (ls.set k l) = tagF now (ls.take k) ++ (nowF now (ls.take (k + 1)), l) :: tagF (nowF now (ls.take (k + 1))) (ls.drop (k + 1)) := by
  induction ls with
  | nil => intro k l now hk; exact absurd hk (by simp)
  | cons x t ih =>
    intro k l now hk h1 h2
    cases k with
    | zero =>
      have h1' : l.k = x.k := h1
      have h2' : l.na = x.na := h2
      simp [tagF, nowF, h1', h2']
    | succ k =>
      have := ih k l (if x.k = 2 then x.na else now) (by simpa using hk) h1 h2
      simp only [List.set_cons_succ, tagF, List.take_succ_cons, List.drop_succ_cons, List.cons_append, this]
      rfl
theorem lastP_max (ls : List Ln) (s key : ByteArray) : ∀ k i, i < k → isPair ls s key i = true → (i : Int) ≤ lastP ls s key k := by
  intro k
  induction k with
  | zero => intro i h; omega
  | succ k ih =>
    intro i hi hp
    by_cases hk : isPair ls s key k = true
    · rw [lastP_yes hk]; omega
    · rw [lastP_no (by simpa using hk)]
      by_cases e : i = k
      · subst e; exact absurd hp hk
      · exact ih i (by omega) hp
theorem mem_tagF {ls : List Ln} {p : ByteArray × Ln} : ∀ {now : ByteArray}, p ∈ tagF now ls → ∃ i, ∃ h : i < ls.length, p = (nowF now (ls.take (i + 1)), ls[i]) := by
  induction ls with
  | nil => intro now h; cases h
  | cons x t ih =>
    intro now h
    rcases List.mem_cons.1 h with h | h
    · exact ⟨0, by simp, h⟩
    · obtain ⟨i, hi, e⟩ := ih h
      exact ⟨i + 1, by simpa using hi, e⟩
/-- behind the last pair of a key there is none -/
theorem look_behind {ls : List Ln} {s key : ByteArray} {k : Nat} (h : lastP ls s key ls.length = k) : look (tagF (nowAt ls (k + 1)) (ls.drop (k + 1))) s key = none := by
  refine look_none fun p hp => ?_
  obtain ⟨i, hi, e⟩ := mem_tagF hp
  have hi2 : k + 1 + i < ls.length := by simp at hi; omega
  rcases hh : hit s key p with _ | _
  · rfl
  · exfalso
    have e2 : p = (nowAt ls (k + 1 + i + 1), ls[k + 1 + i]) := by
      rw [e, List.getElem_drop]
      congr 1
      rw [nowAt_nowF, nowAt_nowF, ← nowF_append]
      have e9 : ls.take (k + 1) ++ (ls.drop (k + 1)).take (i + 1) = ls.take (k + 1 + i + 1) := by
        rw [show k + 1 + i + 1 = (k + 1) + (i + 1) from by omega]
        generalize k + 1 = a
        generalize i + 1 = b
        rw [List.take_add]
      rw [e9]
    rw [e2, ← isPair_hit hi2] at hh
    have := lastP_max ls s key ls.length _ hi2 hh
    omega
theorem look_set {ls : List Ln} {s key : ByteArray} {k : Nat} {l : Ln} (hw : lastP ls s key ls.length = k) (hk : k < ls.length) (h1 : l.k = ls[k].k) (h2 : l.na = ls[k].na) (s' key' : ByteArray) :
    look (tagOf (ls.set k l)) s' key' = if s' = s ∧ key' = key then some l.va else look (tagOf ls) s' key' := by
  have hp := (lastP_hit ls s key _ k hw).2
  rw [isPair_hit hk] at hp
  have e1 := tagF_set ls k l ⟨#[]⟩ hk h1 h2
  have e2 := tagF_set ls k ls[k] ⟨#[]⟩ hk rfl rfl
  rw [List.set_getElem_self] at e2
  have hb := look_behind hw
  have hsame : ∀ a b, hit a b (nowF ⟨#[]⟩ (ls.take (k + 1)), l) = hit a b (nowF ⟨#[]⟩ (ls.take (k + 1)), ls[k]) := fun a b => by simp [hit, h1, h2]
  unfold tagOf
  rw [e1, e2, look_append, look_append, look_cons, look_cons, hsame]
  by_cases he : s' = s ∧ key' = key
  · obtain ⟨rfl, rfl⟩ := he
    have hp' : hit s' key' (nowF ⟨#[]⟩ (ls.take (k + 1)), ls[k]) = true := hp
    have hb' : look (tagF (nowF ⟨#[]⟩ (ls.take (k + 1))) (ls.drop (k + 1))) s' key' = none := hb
    rw [hp', hb']
    simp
  · rw [if_neg he]
    have : ¬ hit s' key' (nowF ⟨#[]⟩ (ls.take (k + 1)), ls[k]) = true := fun h => he (hit_only hp h)
    rw [if_neg this, if_neg this]
end Go.Proofs.YtgjineoiebokhaaDoor
namespace Go.Proofs.YtgjineoiebokhaaDoor
open Go.RowKit

theorem valL_eq (ls : List Ln) (k : Nat) (v : ByteArray) : valL ls k v = ls.set k (if v.toList.isEmpty = true then ((ls[k]!).valued v).tailed ⟨#[]⟩ else (ls[k]!).valued v) := by
  unfold valL
  split
  · rw [List.set_set]
  · rfl
theorem valL_same {R : List Ln} {k : Nat} {v : ByteArray} (hk : k < R.length) (h1 : R[k].va = v) (h2 : v.toList.isEmpty = true → R[k].ta = ⟨#[]⟩) : valL R k v = R := by
  rw [valL_eq, get_bang hk]
  have e1 : R[k].valued v = R[k] := by rw [← h1]; rfl
  rw [e1]
  split
  · rename_i h
    have e2 : R[k].tailed ⟨#[]⟩ = R[k] := by rw [← h2 h]; rfl
    rw [e2, List.set_getElem_self]
  · rw [List.set_getElem_self]
theorem vline_tail {l : Ln} (h : vline l = true) (h3 : l.k = 3) (hv : l.va.toList.isEmpty = true) : l.ta = ⟨#[]⟩ := by
  unfold vline at h
  simp [h3] at h
  have h9 := h.2.2.2.2.2
  have hn : nul l.va = true := hv
  rw [hn] at h9
  simp at h9
  exact nul_eq h9
theorem placeTo_at (ls : List Ln) (s : ByteArray) : ∀ k (j : Nat), placeTo ls s k = j → inSec ls s j = true := by
  intro k
  induction k with
  | zero =>
    intro j h
    simp only [placeTo] at h
    split at h <;> omega
  | succ k ih =>
    intro j h
    by_cases hp : (inSec ls s k && secLine ls k) = true
    · rw [placeTo_yes hp] at h
      have : j = k := by omega
      subst this
      rw [Bool.and_eq_true] at hp
      exact hp.1
    · rw [placeTo_no (by simpa using hp)] at h
      exact ih j h
theorem placeTo_zero (ls : List Ln) (s : ByteArray) : ∀ k, placeTo ls s k = -1 → s.toList.isEmpty = true := by
  intro k
  induction k with
  | zero =>
    intro h
    simp only [placeTo] at h
    split at h
    · assumption
    · omega
  | succ k ih =>
    intro h
    by_cases hp : (inSec ls s k && secLine ls k) = true
    · rw [placeTo_yes hp] at h; omega
    · rw [placeTo_no (by simpa using hp)] at h
      exact ih h
theorem nowAt_end {ls : List Ln} {s : ByteArray} {e : Nat} (h : placeTo ls s ls.length + 1 = (e : Int)) : nowAt ls e = s := by
  rcases Nat.eq_zero_or_pos e with h0 | h0
  · subst h0
    have h1 : placeTo ls s ls.length = -1 := by omega
    have := placeTo_zero ls s _ h1
    have h2 : s = ⟨#[]⟩ := toList_inj (by have h3 : s.toList = [] := by simpa using this
                                          rw [h3]; exact (toList_nil rfl).symm)
    rw [h2]; rfl
  · obtain ⟨j, rfl⟩ : ∃ j, e = j + 1 := ⟨e - 1, by omega⟩
    have h1 : placeTo ls s ls.length = (j : Int) := by omega
    have := placeTo_at ls s _ j h1
    unfold inSec at this
    exact toList_inj (eq_of_beq this)
/-- the facts of a value that was set -/
structure SetQ (ls : List Ln) (s key v : ByteArray) (R : List Ln) : Prop where
  v0 : vfile ls = true
  vR : vfile R = true
  look : ∀ s' key', look (tagOf R) s' key' = if s' = s ∧ key' = key then some v else Go.Proofs.YtgjineoiebokhaaDoor.look (tagOf ls) s' key'
  old : 0 ≤ whereOf ls s key → R.length = ls.length
  new : whereOf ls s key < 0 → ls.length < R.length
theorem setQ_of {ls : List Ln} {s key v : ByteArray} (hb : setB ls s key v = true) : SetQ ls s key v (setL ls s key v) ∧ setL ls s key v = setR ls s key v := by
  have hb' : vfile (setR ls s key v) = true := hb
  have hok := set_ok hb'
  have hv : vfile ls = true := by unfold setOk at hok; rw [Bool.and_eq_true] at hok; exact hok.1
  have e : setL ls s key v = setR ls s key v := by unfold setL chkL; rw [if_pos hb']
  rw [e]
  have hw := whereOf_yes s key hv
  have hlt := lastP_lt ls s key ls.length
  refine ⟨?_, rfl⟩
  by_cases h0 : lastP ls s key ls.length < 0
  · have hnone : Go.Proofs.YtgjineoiebokhaaDoor.look (tagOf ls) s key = none := by
      have := look_take ls s key ls.length (Nat.le_refl _)
      rw [List.take_length, if_pos h0] at this
      exact this
    have hpl := placeTo_lt ls s ls.length
    by_cases hp : placeTo ls s ls.length = -2
    · have e2 := set_sec (v := v) hv h0 hp
      rw [e2]
      refine ⟨hv, by rw [← e2]; exact hb', fun s' key' => ?_, fun h => by omega, fun _ => by rw [putL_length _ _ _ (Nat.le_refl _)]; simp⟩
      split
      · rename_i h; rw [h.1, h.2]; exact look_end.1
      · rename_i h; exact look_end.2 s' key' h
    · obtain ⟨k, hk⟩ : ∃ k : Nat, placeTo ls s ls.length + 1 = (k : Int) := ⟨(placeTo ls s ls.length + 1).toNat, by omega⟩
      have e2 := set_new (v := v) hv h0 hk
      rw [e2]
      have hs := nowAt_end hk
      refine ⟨hv, by rw [← e2]; exact hb', fun s' key' => ?_, fun h => by omega, fun _ => by rw [putL_length _ _ _ (by omega)]; simp⟩
      split
      · rename_i h; rw [h.1, h.2]; exact look_put_new hs hnone
      · rename_i h; exact look_put_other hs h
  · obtain ⟨k, hk⟩ : ∃ k : Nat, lastP ls s key ls.length = k := ⟨(lastP ls s key ls.length).toNat, by omega⟩
    have hkl : k < ls.length := by omega
    have e2 := set_old (v := v) hv hk
    rw [e2]
    refine ⟨hv, by rw [← e2]; exact hb', fun s' key' => ?_, fun _ => valL_length _ _ _, fun h => by omega⟩
    rw [valL_eq, get_bang hkl]
    have := look_set (l := if v.toList.isEmpty = true then (ls[k].valued v).tailed ⟨#[]⟩ else ls[k].valued v) hk hkl (by split <;> rfl) (by split <;> rfl) s' key'
    rw [this]
    split <;> rename_i h
    · split <;> rfl
    · rfl
section
variable {ls : List Ln} {s key v : ByteArray} {R : List Ln}
theorem SetQ.get (h : SetQ ls s key v R) : getB R s key = true ∧ getV R s key = v := by
  have h1 := get_look h.vR s key
  have h2 := h.look s key
  rw [if_pos ⟨rfl, rfl⟩] at h2
  have hB : getB R s key = true := by rw [h1.1, h2]; rfl
  exact ⟨hB, by rw [h1.2 hB, h2]; rfl⟩
theorem SetQ.other (h : SetQ ls s key v R) {s' key' : ByteArray} (hne : ¬ (s' = s ∧ key' = key)) : getB R s' key' = getB ls s' key' ∧ (getB ls s' key' = true → getV R s' key' = getV ls s' key') := by
  have h1 := get_look h.vR s' key'
  have h0 := get_look h.v0 s' key'
  have h2 := h.look s' key'
  rw [if_neg hne] at h2
  have e : getB R s' key' = getB ls s' key' := by rw [h1.1, h0.1, h2]
  exact ⟨e, fun hb => by rw [h1.2 (by rw [e]; exact hb), h0.2 hb, h2]⟩
/-- what is told set again gives the file itself -/
theorem set_told (hv : vfile R = true) (hb : getB R s key = true) (hx : getV R s key = v) : setL R s key v = R ∧ setB R s key v = true := by
  have hw : ¬ whereOf R s key < 0 := by unfold getB at hb; simpa using hb
  obtain ⟨k, hk⟩ : ∃ k : Nat, whereOf R s key = k := ⟨(whereOf R s key).toNat, by omega⟩
  have hkl := (where_pair hk).1
  have hl := where_line hk hkl
  have hg := (get_yes hk hkl).1
  have e : setR R s key v = R := by
    unfold setR
    rw [if_pos (by omega), hk, Int.toNat_natCast]
    refine valL_same hkl (by rw [← hx, hg]) (fun hv0 => ?_)
    exact vline_tail (vfile_line hv k hkl) hl.1 (by rw [← hg, hx]; exact hv0)
  unfold setL setB chkL
  rw [e, if_pos hv]
  exact ⟨rfl, hv⟩
end
end Go.Proofs.YtgjineoiebokhaaDoor
namespace Go.Proofs.YtgjineoiebokhaaDoor
open Go.RowKit

theorem keep_look (ls : List Ln) (s key : ByteArray) : ∀ k, k ≤ ls.length → nowF ⟨#[]⟩ (keepL ls (isPair ls s key) k) = nowAt ls k ∧
    ∀ s' key', look (tagOf (keepL ls (isPair ls s key) k)) s' key' = if s' = s ∧ key' = key then none else look (tagOf (ls.take k)) s' key' := by
  intro k
  induction k with
  | zero => intro _; exact ⟨rfl, fun s' key' => by split <;> rfl⟩
  | succ k ih =>
    intro hk
    have hk2 : k < ls.length := by omega
    obtain ⟨ih1, ih2⟩ := ih (by omega)
    have h1 : ls.take (k + 1) = ls.take k ++ [ls[k]] := List.take_succ_eq_append_getElem hk2
    have h2 : tagOf (ls.take (k + 1)) = tagOf (ls.take k) ++ [(nowAt ls (k + 1), ls[k])] := by
      unfold tagOf
      rw [h1, tagF_snoc, ← h1]
      rfl
    by_cases hp : isPair ls s key k = true
    · rw [keepL_yes hp]
      have hit1 := hp
      rw [isPair_hit hk2] at hit1
      have h3 : ls[k].k = 3 := by
        unfold hit at hit1
        simp only [Bool.and_eq_true, beq_iff_eq] at hit1
        exact hit1.1.1
      refine ⟨?_, fun s' key' => ?_⟩
      · rw [ih1, nowAt_succ hk2, if_neg (by omega)]
      · rw [ih2, h2, look_append, look_one]
        by_cases he : s' = s ∧ key' = key
        · rw [if_pos he, if_pos he]
        · rw [if_neg he, if_neg he, if_neg (fun h => he (hit_only hit1 h))]
          rfl
    · have hp' : isPair ls s key k = false := by simpa using hp
      rw [keepL_no hp', get_bang hk2]
      have hn : nowF ⟨#[]⟩ (keepL ls (isPair ls s key) k ++ [ls[k]]) = nowAt ls (k + 1) := by
        rw [nowF_append, ih1, nowAt_succ hk2]
        rfl
      refine ⟨hn, fun s' key' => ?_⟩
      have ht : tagOf (keepL ls (isPair ls s key) k ++ [ls[k]]) = tagOf (keepL ls (isPair ls s key) k) ++ [(nowAt ls (k + 1), ls[k])] := by
        unfold tagOf
        rw [tagF_snoc, hn]
      rw [ht, look_append, look_one, ih2, h2, look_append, look_one]
      by_cases he : s' = s ∧ key' = key
      · obtain ⟨rfl, rfl⟩ := he
        rw [isPair_hit hk2] at hp'
        rw [hp']
        simp
      · rw [if_neg he, if_neg he]
theorem keepL_mem {ls : List Ln} {P : Nat → Bool} {x : Ln} : ∀ k, k ≤ ls.length → x ∈ keepL ls P k → x ∈ ls := by
  intro k hk hx
  unfold keepL at hx
  rw [List.mem_map] at hx
  obtain ⟨i, hi, e⟩ := hx
  rw [List.mem_filter, List.mem_range] at hi
  rw [← e, get_bang (by omega)]
  exact List.getElem_mem _
theorem keepL_less {P : Nat → Bool} {ls : List Ln} : ∀ k i, i < k → P i = true → (keepL ls P k).length < k := by
  intro k
  induction k with
  | zero => intro i h; omega
  | succ k ih =>
    intro i hi hp
    by_cases hk : P k = true
    · rw [keepL_yes hk]
      have := keepL_le ls P k
      omega
    · rw [keepL_no (by simpa using hk), List.length_append, List.length_singleton]
      have := ih i (by
        rcases Nat.lt_or_ge i k with h | h
        · exact h
        · have : i = k := by omega
          subst this
          exact absurd hp hk) hp
      omega
/-- the facts of pairs that were cut -/
structure DropQ (ls : List Ln) (s key : ByteArray) (R : List Ln) : Prop where
  v0 : vfile ls = true
  vR : vfile R = true
  look : ∀ s' key', look (tagOf R) s' key' = if s' = s ∧ key' = key then none else Go.Proofs.YtgjineoiebokhaaDoor.look (tagOf ls) s' key'
  len : R.length < ls.length
theorem dropQ_of {ls : List Ln} {s key : ByteArray} (h : ¬ whereOf ls s key < 0) : DropQ ls s key (dropKL ls s key) := by
  obtain ⟨i, hi⟩ : ∃ i : Nat, whereOf ls s key = i := ⟨(whereOf ls s key).toNat, by omega⟩
  obtain ⟨h1, h2, hv⟩ := where_pair hi
  unfold dropKL
  rw [if_neg h]
  have hl := keepL_less (ls := ls) ls.length i h1 h2
  refine ⟨hv, ?_, fun s' key' => ?_, hl⟩
  · have h20 := vfile_20 hv
    unfold vfile vlines
    rw [Bool.and_eq_true, List.all_eq_true, decide_eq_true_iff]
    refine ⟨fun x hx => ?_, by omega⟩
    obtain ⟨j, hj, rfl⟩ := List.getElem_of_mem (keepL_mem ls.length (Nat.le_refl _) hx)
    exact vfile_line hv j hj
  · have := (keep_look ls s key ls.length (Nat.le_refl _)).2 s' key'
    rwa [List.take_length] at this
theorem DropQ.gone {ls : List Ln} {s key : ByteArray} {R : List Ln} (h : DropQ ls s key R) : getB R s key = false := by
  rw [(get_look h.vR s key).1, h.look s key, if_pos ⟨rfl, rfl⟩]
  rfl
theorem DropQ.other {ls : List Ln} {s key s' key' : ByteArray} {R : List Ln} (h : DropQ ls s key R) (hne : ¬ (s' = s ∧ key' = key)) : getB R s' key' = getB ls s' key' ∧ (getB ls s' key' = true → getV R s' key' = getV ls s' key') := by
  have h1 := get_look h.vR s' key'
  have h0 := get_look h.v0 s' key'
  have h2 := h.look s' key'
  rw [if_neg hne] at h2
  have e : getB R s' key' = getB ls s' key' := by rw [h1.1, h0.1, h2]
  exact ⟨e, fun hb => by rw [h1.2 (by rw [e]; exact hb), h0.2 hb, h2]⟩
end Go.Proofs.YtgjineoiebokhaaDoor
