/-
  The heads of a section: headsOf of the program, placeFor and headAt of the specification. Conditions: at most 1048576 bytes in all.
-/
import Derived.Test.YteifcogfnpeahaaDropK
namespace Go.Proofs.Yteifcogfnpeahaa
open Go.RowKit

/-- line i is a head -/
def isHd (ls : List Ln) (i : Nat) : Bool := ls[i]!.k == 2
/-- line i is a head of the section -/
def headP (ls : List Ln) (s : ByteArray) (i : Nat) : Bool := isHd ls i && (ls[i]!.na.toList == s.toList)
def headsOf' (ls : List Ln) (s : ByteArray) : List Nat := (secOf ls s).filter (isHd ls)
theorem inSec_head {ls : List Ln} {s : ByteArray} {i : Nat} (hi : i < ls.length) (h : isHd ls i = true) : inSec ls s i = (ls[i]!.na.toList == s.toList) := by
  unfold inSec
  unfold isHd at h
  rw [get_bang hi] at h ⊢
  rw [nowAt_succ hi, if_pos (by simpa using h)]
theorem headsOf_eq {ls : List Ln} (s : ByteArray) (hv : vfile ls = true) : headsOf' ls s = (List.range ls.length).filter (headP ls s) := by
  unfold headsOf' secOf
  rw [if_pos hv]
  unfold secTo
  rw [List.filter_filter]
  apply List.filter_congr
  intro i hi
  unfold headP
  by_cases h : isHd ls i = true
  · rw [h, Bool.true_and, Bool.true_and, inSec_head (List.mem_range.1 hi) h]
  · have h' : isHd ls i = false := by simpa using h
    rw [h', Bool.false_and, Bool.false_and]
theorem headsOf_no {ls : List Ln} (s : ByteArray) (hv : vfile ls = false) : headsOf' ls s = [] := by
  unfold headsOf' secOf
  rw [if_neg (by rw [hv]; simp)]
  rfl
theorem heads_valid {ls : List Ln} {s : ByteArray} (h : ¬ headsOf' ls s = []) : vfile ls = true := by
  rcases hv : vfile ls with _ | _
  · exact absurd (headsOf_no s hv) h
  · rfl
/-- the section of a line that is not without a name begins with a head -/
theorem nowAt_head (ls : List Ln) : ∀ k, k ≤ ls.length → nowAt ls k = ⟨#[]⟩ ∨ ∃ j, j < k ∧ isHd ls j = true ∧ ls[j]!.na = nowAt ls k := by
  intro k
  induction k with
  | zero => intro _; exact .inl rfl
  | succ k ih =>
    intro hk
    have hk2 : k < ls.length := by omega
    rw [nowAt_succ hk2]
    by_cases h : ls[k].k = 2
    · rw [if_pos h]
      exact .inr ⟨k, by omega, by unfold isHd; rw [get_bang hk2, h]; rfl, by rw [get_bang hk2]⟩
    · rw [if_neg h]
      rcases ih (by omega) with h1 | ⟨j, h1, h2, h3⟩
      · exact .inl h1
      · exact .inr ⟨j, by omega, h2, h3⟩

/-- the place behind which a new pair of a section comes, as far as the first k lines tell -/
def placeTo (ls : List Ln) (s : ByteArray) : Nat → Int
  | 0 => if s.toList.isEmpty = true then -1 else -2
  | k + 1 => if (inSec ls s k && secLine ls k) = true then (k : Int) else placeTo ls s k
theorem placeTo_yes {ls : List Ln} {s : ByteArray} {k : Nat} (h : (inSec ls s k && secLine ls k) = true) : placeTo ls s (k + 1) = k := by
  show (if _ then _ else _) = _
  rw [if_pos h]
theorem placeTo_no {ls : List Ln} {s : ByteArray} {k : Nat} (h : (inSec ls s k && secLine ls k) = false) : placeTo ls s (k + 1) = placeTo ls s k := by
  show (if _ then _ else _) = _
  rw [if_neg (by rw [h]; simp)]
theorem placeTo_lt (ls : List Ln) (s : ByteArray) (k : Nat) : placeTo ls s k < k ∧ -2 ≤ placeTo ls s k ∧ (s.toList.isEmpty = true → -1 ≤ placeTo ls s k) := by
  induction k with
  | zero => unfold placeTo; split <;> simp_all
  | succ k ih =>
    by_cases h : (inSec ls s k && secLine ls k) = true
    · rw [placeTo_yes h]; omega
    · rw [placeTo_no (by simpa using h)]
      exact ⟨by omega, ih.2.1, ih.2.2⟩
theorem placeTo_some {ls : List Ln} {s : ByteArray} {k : Nat} (h : 0 ≤ placeTo ls s k) : ∃ j, j < k ∧ inSec ls s j = true ∧ secLine ls j = true := by
  induction k with
  | zero => unfold placeTo at h; split at h <;> omega
  | succ k ih =>
    by_cases h2 : (inSec ls s k && secLine ls k) = true
    · rw [Bool.and_eq_true] at h2
      exact ⟨k, by omega, h2.1, h2.2⟩
    · rw [placeTo_no (by simpa using h2)] at h
      obtain ⟨j, h3, h4⟩ := ih h
      exact ⟨j, by omega, h4⟩
theorem placeTo_none {ls : List Ln} {s : ByteArray} {k : Nat} (h : placeTo ls s k < 0) : ∀ j, j < k → (inSec ls s j && secLine ls j) = false := by
  induction k with
  | zero => intro j hj; omega
  | succ k ih =>
    intro j hj
    by_cases h2 : (inSec ls s k && secLine ls k) = true
    · rw [placeTo_yes h2] at h; omega
    · rw [placeTo_no (by simpa using h2)] at h
      by_cases e : j = k
      · subst e; simpa using h2
      · exact ih h j (by omega)
/-- a section with a name has a place exactly if it has a head -/
theorem place_heads {ls : List Ln} {s : ByteArray} (hv : vfile ls = true) (hs : s.toList.isEmpty = false) : placeTo ls s ls.length < 0 ↔ headsOf' ls s = [] := by
  rw [headsOf_eq s hv]
  constructor
  · intro h
    rw [List.filter_eq_nil_iff]
    intro i hi hp
    have hil := List.mem_range.1 hi
    unfold headP at hp
    rw [Bool.and_eq_true] at hp
    have h1 := placeTo_none h i hil
    rw [inSec_head hil hp.1, hp.2, Bool.true_and] at h1
    have h2 := hp.1
    unfold isHd at h2
    unfold secLine at h1
    rw [h2] at h1
    simp at h1
  · intro h
    rcases Int.lt_or_le (placeTo ls s ls.length) 0 with h0 | h0
    · exact h0
    · exfalso
      obtain ⟨j, hj, h1, h2⟩ := placeTo_some h0
      have he : (nowAt ls (j + 1)).toList = s.toList := by unfold inSec at h1; simpa using h1
      rcases nowAt_head ls (j + 1) (by omega) with h3 | ⟨q, h3, h4, h5⟩
      · rw [h3] at he
        rw [← he] at hs
        simp at hs
      · have := List.filter_eq_nil_iff.1 h q (List.mem_range.2 (by omega))
        apply this
        unfold headP
        rw [h4, h5, he]
        simp
theorem heads_empty {ls : List Ln} {s : ByteArray} (hs : s.toList.isEmpty = true) : headsOf' ls s = [] := by
  rcases hv : vfile ls with _ | _
  · exact headsOf_no s hv
  · rw [headsOf_eq s hv, List.filter_eq_nil_iff]
    intro i hi hp
    have hil := List.mem_range.1 hi
    unfold headP isHd at hp
    rw [Bool.and_eq_true, get_bang hil] at hp
    have hvl := vfile_line hv i hil
    obtain ⟨h1, h2⟩ := hp
    have hk : ls[i].k = 2 := by simpa using h1
    have he : ls[i].na.toList = [] := by
      have h3 : ls[i].na.toList = s.toList := by simpa using h2
      rw [h3]; simpa using hs
    have hn0 : ls[i].na.size = 0 := by rw [← toList_length, he]; rfl
    obtain ⟨l, hl⟩ : ∃ l, ls[i] = l := ⟨_, rfl⟩
    rw [hl] at hvl hk hn0
    obtain ⟨lk, le, na, se, va, ta⟩ := l
    simp only at hk hn0
    subst hk
    have hx : vname na = false := vname_size (.inl hn0)
    simp [vline, hx] at hvl

set_option maxRecDepth 100000 in
set_option maxHeartbeats 2000000 in
theorem headsOf_any (A : Option Addr) (c : Nat) (ls : List Ln) (s : ByteArray) (w : World) (hf : AllFit ls) (hA : LnsAt w A ls) :
    Calls Try.prog 77 #[.agg #[.slice A ls.length c], .string s] w (ValsRet (ints (headsOf' ls s)) w) := by
  have HF := Lib.hid (fun w1 (g : Grows w w1) => linesIn_all A c ls s w1 hf (hA.keep g))
  have HA := Lib.hid hA
  have hn : ls.length ≤ 1048576 := hf.1
  have HE : Hid ((secOf ls s).filter (isHd ls) = headsOf' ls s) := rfl
  have HLT : Hid (∀ i (h : i < (secOf ls s).length), (secOf ls s)[i] < ls.length) := fun i h => secOf_lt (List.getElem_mem h)
  have hL := secOf_le ls s
  clear hA hf
  obtain ⟨L, hLL⟩ : ∃ L, secOf ls s = L := ⟨_, rfl⟩
  rw [hLL] at HF HE HLT hL
  clear hLL
  obtain ⟨n, hnn⟩ : ∃ n, ls.length = n := ⟨_, rfl⟩
  rw [hnn] at hn HF HLT hL
  rw [hnn]
  have HN := Lib.hid hnn
  clear hnn
  obtain ⟨i0, hi, hz0, hz1, hz2⟩ := info_parts infoInt
  have HI : Hid (Try.prog.info? 3 = some i0) := hi
  have HZ0 : Hid (i0.zero = some (.int .i64 0)) := hz0
  have HZ1 : Hid (i0.size = 1) := hz1
  have HZ2 : Hid (i0.bytes = 8) := hz2
  clear hi hz0 hz1 hz2
  go_enter Try.func77, Try.ntmps77
  go_wp2_with fail
  refine (HF.out _ ((Grows.refl _).alloc _)).mono ?_
  rintro e w1 ⟨A1, c1, rfl, hv1, g1, _⟩
  have HG0 : Hid (Grows (w.alloc (fbox A n c)) w1) := g1
  have HV1 := Lib.hid hv1
  have HG1 : Hid (Grows w w1) := ((Grows.refl _).alloc _).trans g1
  clear g1 hv1
  rw [ints_length]
  obtain ⟨p, hp⟩ : ∃ p, L.length = p := ⟨_, rfl⟩
  rw [hp]
  rw [hp] at hL
  have HP := Lib.hid hp
  clear hp
  go_wp2_with fail
  go_loopw [5, 12] (fun v i wr => ∃ (j : Nat) (R : List Nat), j ≤ p ∧ i = .int .i64 j ∧ Hid (R = (L.take j).filter (isHd ls)) ∧ R.length ≤ j ∧ wr.ownsRow w1.heap.size 3 1 v R.length (ints R) ∧ Grows w1 wr) (fun _ i _ => p - (intOf i).toNat)
  case atStart => exact ⟨0, [], Nat.zero_le _, rfl, rfl, Nat.zero_le _, World.ownsRow_nil _ _ _ _, Grows.refl _⟩
  case round =>
    obtain ⟨j, R, hj, rfl, HR, hRj, hown, hg⟩ := hrel
    have HG := Lib.hid hg
    have HOW := Lib.hid hown
    have hb0 : wr.cell? ⟨w.heap.size, 0, none⟩ = some (.slice A n c) := ((HG0.out.trans HG.out).cell (p := ⟨w.heap.size, 0, none⟩) (by simp)).trans (by simp [fbox])
    clear hg hown
    by_cases hlt : j < p
    · have hjL : j < L.length := by rw [HP.out]; exact hlt
      have hx := HLT.out j hjL
      have hTS : L.take (j + 1) = L.take j ++ [L[j]] := List.take_succ_eq_append_getElem hjL
      obtain ⟨b1, o1, rfl, hb1, hc1⟩ := HV1.out (by rw [ints_length]; omega)
      have d0 := hc1 j (by rw [ints_length]; exact hjL)
      have hix : (ints L)[j]'(by rw [ints_length]; exact hjL) = Value.int .i64 (L[j] : Int) := by simp [ints]
      rw [hix] at d0
      obtain ⟨x, hxx⟩ : ∃ x, L[j] = x := ⟨_, rfl⟩
      rw [hxx] at hx hTS d0
      have d1 : wr.cell? ⟨b1, o1 + j, none⟩ = some (.int .i64 x) := (HG.out.cell (p := ⟨b1, o1 + j, none⟩) hb1).trans d0
      obtain ⟨b, o, rfl, hb, hc⟩ := HA.out (by rw [HN.out]; omega)
      have hk2 : x < ls.length := by rw [HN.out]; exact hx
      have HSU := Lib.hid (get_bang hk2)
      obtain ⟨l, hl⟩ : ∃ l, ls[x] = l := ⟨_, rfl⟩
      have hat := (hc x hk2).keep hb (HG1.out.trans HG.out)
      rw [hl] at hat HSU
      obtain ⟨c0, c1', c2, c3, c4, c5⟩ := hat
      have HK : Hid (isHd ls x = (l.k == 2)) := by
        unfold Hid isHd
        rw [HSU.out]
      have HTS := Lib.hid hTS
      clear hl hc hc1 hix d0 hxx hTS
      by_cases hk : isHd ls x = true
      · have HS2 : Hid ((L.take (j + 1)).filter (isHd ls) = R ++ [x]) := by
          unfold Hid; rw [HTS.out, List.filter_append, ← HR.out]; simp [hk]
        have e1 := hk
        rw [HK.out] at e1
        clear hk
        go_wp2_with (at_builtin; refine wpList_append_own _ rfl _ _ 83 rfl w1.heap.size 3 i0 (.int .i64 0) 1 8 Try.underlying83 HI.out HZ0.out HZ1.out HZ2.out rfl (by decide) _ _ _ rfl (HOW.out.alloc _) ⟨wr.heap.size, 0, none⟩ 1 1 [.int .i64 x] rfl rfl ?c1 ?c2 ?c3 ?c4 ?c5 ?_)
        case c1 =>
          intro j u hj
          match j, hj with
          | 0, hj => simp at hj; subst hj; simp [Addr.add]
        case c2 => intro u hu; simp at hu; subst hu; rfl
        case c3 => unfold maxLen; omega
        case c4 => omega
        case c5 => have := HG.out.size; simp; omega
        · intro v' w2 hown' hgrow _
          have HR2 : Hid (Grows w1 w2) := (HG.out.alloc _).grown (HOW.out.alloc _) hgrow
          have HO2 : Hid (w2.ownsRow w1.heap.size 3 1 v' (R ++ [x]).length (ints (R ++ [x]))) := by unfold Hid; rw [ints_snoc, List.length_append]; exact hown'
          clear hown' hgrow
          go_wp2
          go_roundw
          case rel => exact ⟨j + 1, R ++ [x], by omega, by go_num, HS2.out.symm, by simp; omega, HO2.out, HR2.out⟩
          case measure => simp [intOf]; omega
      · have hk' : isHd ls x = false := by simpa using hk
        have HS2 : Hid ((L.take (j + 1)).filter (isHd ls) = R) := by
          unfold Hid; rw [HTS.out, List.filter_append, ← HR.out]; simp [hk']
        have e1 := hk'
        rw [HK.out] at e1
        clear hk hk'
        go_wp2
        go_roundw
        case rel => exact ⟨j + 1, R, by omega, by go_num, HS2.out.symm, by omega, HOW.out, HG.out⟩
        case measure => simp [intOf]; omega
    · obtain rfl : j = p := by omega
      have HRR : Hid (R = headsOf' ls s) := by
        unfold Hid
        rw [← HE.out, HR.out, ← HP.out, List.take_length]
      go_wp2
      go_ret
      obtain ⟨A', c', hv', hat', hcp'⟩ := ValsAt.of_own (base := w1.heap.size) (e := 3) (v := u5) (xs := ints R) (by rw [ints_length]; exact HOW.out)
      rw [← HRR.out]
      exact ⟨A', c', by rw [← hv']; rfl, hat', HG1.out.trans HG.out, hcp'⟩


/-- the first head of a name, from place i on -/
def headFrom (s : ByteArray) : List Ln → Nat → Int
  | [], _ => -1
  | l :: ls, i => if (l.k == 2 && l.na.toList == s.toList) = true then (i : Int) else headFrom s ls (i + 1)
def headIx (ls : List Ln) (s : ByteArray) : Int := headFrom s ls 0
def NoneH (ls : List Ln) (s : ByteArray) (j : Nat) : Prop := ∀ i (h : i < ls.length), i < j → (ls[i].k == 2 && ls[i].na.toList == s.toList) = false
theorem NoneH.zero (ls : List Ln) (s : ByteArray) : NoneH ls s 0 := fun _ _ h => absurd h (Nat.not_lt_zero _)
theorem NoneH.succ {ls : List Ln} {s : ByteArray} {j : Nat} (h : NoneH ls s j) (hj : j < ls.length) (hl : (ls[j].k == 2 && ls[j].na.toList == s.toList) = false) : NoneH ls s (j + 1) := by
  intro i hi hij
  by_cases e : i = j
  · subst e; exact hl
  · exact h i hi (by omega)
theorem headFrom_at (s : ByteArray) : ∀ (ls : List Ln) (i j : Nat), NoneH ls s j → ∀ (hj : j < ls.length), (ls[j].k == 2 && ls[j].na.toList == s.toList) = true → headFrom s ls i = ((i + j : Nat) : Int) := by
  intro ls
  induction ls with
  | nil => intro i j _ hj; exact absurd hj (by simp)
  | cons l ls ih =>
    intro i j hn hj ht
    cases j with
    | zero => simp only [List.getElem_cons_zero] at ht; rw [headFrom, if_pos ht]; simp
    | succ j =>
      have h0 : (l.k == 2 && l.na.toList == s.toList) = false := hn 0 (by simp) (by omega)
      rw [headFrom, if_neg (by rw [h0]; simp), ih (i + 1) j (fun q hq hqj => hn (q + 1) (by simpa using hq) (by omega)) (by simpa using hj) (by simpa using ht)]
      omega
theorem headFrom_none (s : ByteArray) : ∀ (ls : List Ln) (i : Nat), NoneH ls s ls.length → headFrom s ls i = -1 := by
  intro ls
  induction ls with
  | nil => intro i _; rfl
  | cons l ls ih =>
    intro i hn
    have h0 : (l.k == 2 && l.na.toList == s.toList) = false := hn 0 (by simp) (by simp)
    rw [headFrom, if_neg (by rw [h0]; simp), ih (i + 1) (fun q hq hqj => hn (q + 1) (by simpa using hq) (by simpa using hqj))]
theorem headFrom_neg (s : ByteArray) : ∀ (ls : List Ln) (i : Nat), headFrom s ls i < 0 ↔ ∀ q (h : q < ls.length), (ls[q].k == 2 && ls[q].na.toList == s.toList) = false := by
  intro ls
  induction ls with
  | nil => intro i; exact ⟨fun _ q h => absurd h (by simp), fun _ => by simp [headFrom]⟩
  | cons l ls ih =>
    intro i
    rw [headFrom]
    by_cases h : (l.k == 2 && l.na.toList == s.toList) = true
    · rw [if_pos h]
      constructor
      · intro h2; omega
      · intro h2
        have := h2 0 (by simp)
        simp only [List.getElem_cons_zero] at this
        rw [h] at this
        cases this
    · rw [if_neg h, ih (i + 1)]
      constructor
      · intro h2 q hq
        cases q with
        | zero => simpa using h
        | succ q => simpa using h2 q (by simpa using hq)
      · intro h2 q hq
        exact h2 (q + 1) (by simpa using hq)
theorem headIx_heads {ls : List Ln} {s : ByteArray} (hv : vfile ls = true) : headIx ls s < 0 ↔ headsOf' ls s = [] := by
  rw [headsOf_eq s hv, List.filter_eq_nil_iff]
  unfold headIx
  rw [headFrom_neg]
  constructor
  · intro h i hi
    have hil := List.mem_range.1 hi
    have h1 := h i hil
    unfold headP isHd
    rw [get_bang hil, h1]
    simp
  · intro h q hq
    have h1 := h q (List.mem_range.2 hq)
    unfold headP isHd at h1
    rw [get_bang hq] at h1
    simpa using h1

set_option maxRecDepth 100000 in
set_option maxHeartbeats 2000000 in
theorem headAt_any (A : Option Addr) (c : Nat) (ls : List Ln) (s : ByteArray) (w : World) (hn : ls.length ≤ 1048576) (hA : LnsAt w A ls) :
    Calls Try.prog 78 #[.agg #[.slice A ls.length c], .string s] w fun e w' => e = .returned (.int .i64 (headIx ls s)) ∧ Grows w w' := by
  have HA := Lib.hid hA
  clear hA
  obtain ⟨n, hnn⟩ : ∃ n, ls.length = n := ⟨_, rfl⟩
  rw [hnn] at hn ⊢
  have HN := Lib.hid hnn
  clear hnn
  go_enter Try.func78, Try.ntmps78
  go_wp2
  go_loopw [5] (fun i wr => ∃ (j : Nat), j ≤ n ∧ i = .int .i64 j ∧ Hid (NoneH ls s j) ∧ Hid (Grows (w.alloc (fbox A n c)) wr)) (fun i _ => n - (intOf i).toNat)
  case atStart => exact ⟨0, Nat.zero_le _, rfl, NoneH.zero _ _, Grows.refl _⟩
  case round =>
    obtain ⟨j, hj, rfl, HL, HG⟩ := hrel
    have hb0 : wr.cell? ⟨w.heap.size, 0, none⟩ = some (.slice A n c) := (HG.out.cell (p := ⟨w.heap.size, 0, none⟩) (by simp)).trans (by simp [fbox])
    have HGW : Hid (Grows w wr) := ((Grows.refl _).alloc _).trans HG.out
    by_cases hlt : j < n
    · obtain ⟨b, o, rfl, hb, hc⟩ := HA.out (by rw [HN.out]; omega)
      have hk2 : j < ls.length := by rw [HN.out]; exact hlt
      obtain ⟨l, hl⟩ : ∃ l, ls[j] = l := ⟨_, rfl⟩
      have hat := (hc j hk2).keep hb HGW.out
      rw [hl] at hat
      obtain ⟨d0, d1, d2, d3, d4, d5⟩ := hat
      have HX := Lib.hid hl
      clear hl hc
      by_cases h2 : (l.k == 2) = true
      · by_cases h3 : (l.na.toList == s.toList) = true
        · have HV : Hid (headIx ls s = (j : Int)) := by
            unfold Hid headIx
            rw [headFrom_at s ls 0 j HL.out hk2 (by rw [HX.out, h2, h3]; rfl), Nat.zero_add]
          go_wp2
          go_ret
          exact ⟨ret_int HV.out.symm, ((Grows.refl _).alloc _).trans HG.out⟩
        · have h3' : (l.na.toList == s.toList) = false := by simpa using h3
          have HS : Hid (NoneH ls s (j + 1)) := HL.out.succ hk2 (by rw [HX.out, h3', Bool.and_false])
          clear h3
          go_wp2
          go_roundw
          case rel => exact ⟨j + 1, by omega, by go_num, HS.out, HG.out⟩
          case measure => simp [intOf]; omega
      · have h2' : (l.k == 2) = false := by simpa using h2
        have HS : Hid (NoneH ls s (j + 1)) := HL.out.succ hk2 (by rw [HX.out, h2']; rfl)
        clear h2
        go_wp2
        go_roundw
        case rel => exact ⟨j + 1, by omega, by go_num, HS.out, HG.out⟩
        case measure => simp [intOf]; omega
    · obtain rfl : j = n := by omega
      have HV : Hid (headIx ls s = -1) := headFrom_none s ls 0 (by rw [HN.out]; exact HL.out)
      go_wp2
      go_ret
      exact ⟨ret_int HV.out.symm, ((Grows.refl _).alloc _).trans HG.out⟩
end Go.Proofs.Yteifcogfnpeahaa
