/-
  Rows of lines known whole, and the builtin copy onto them. Condition: the copied lines fit.
  Lines cut out of a file: cutLines of the program, at the indices that meet a test. Condition: at most 1048576 lines.
  A file without a key: DropKey of the program and of the specification. Conditions: at most 1048576 bytes in all.
  The heads of a section: headsOf of the program, placeFor and headAt of the specification. Conditions: at most 1048576 bytes in all.
  Copies of lines, lines with other names, and the test of a new file: copyLines, nameLines, validLines of the program, copyLines, checkedFile of the specification. Conditions: at most 1048576 lines, parts no longer than a text may be.
-/
import Derived.Test.YtgjineoiebokhaaDoorGrow
import Derived.Laws.CopyRow
import Derived.Laws.CopyOwn
import Derived.Test.YtgjineoiebokhaaDoorQP
namespace Go.Proofs.YtgjineoiebokhaaDoor
open Go.RowKit

theorem lcells_take (X : List Ln) (k : Nat) (hk : k ≤ X.length) : (lcells X).take (k * 6) = lcells (X.take k) := by
  have e : lcells X = lcells (X.take k) ++ lcells (X.drop k) := by rw [← lcells_append, List.take_append_drop]
  rw [e, List.take_left' (by rw [lcells_length, List.length_take, Nat.min_eq_left hk])]
theorem lcells_drop (X : List Ln) (k : Nat) (hk : k ≤ X.length) : (lcells X).drop (k * 6) = lcells (X.drop k) := by
  have e : lcells X = lcells (X.take k) ++ lcells (X.drop k) := by rw [← lcells_append, List.take_append_drop]
  rw [e, List.drop_left' (by rw [lcells_length, List.length_take, Nat.min_eq_left hk])]
/-- ms laid over X from place off on -/
def lay (X : List Ln) (off : Nat) (ms : List Ln) : List Ln := X.take off ++ (ms ++ X.drop (off + ms.length))
theorem lay_length {X : List Ln} {off : Nat} {ms : List Ln} (h : off + ms.length ≤ X.length) : (lay X off ms).length = X.length := by
  simp [lay]; omega
theorem lay_cells {X : List Ln} {off : Nat} {ms : List Ln} (h : off + ms.length ≤ X.length) : (lcells X).take (off * 6) ++ (lcells ms ++ (lcells X).drop (off * 6 + ms.length * 6)) = lcells (lay X off ms) := by
  rw [lay, lcells_append, lcells_append, lcells_take X off (by omega), ← lcells_drop X (off + ms.length) h, Nat.add_mul]
theorem lay_nil (X : List Ln) (off : Nat) : lay X off [] = X := by simp [lay]

theorem zeros_cells (n : Nat) : (madeCells Ln.zero.agg.cells (n * 6)).toList = lcells (List.replicate n Ln.zero) := by
  apply List.ext_getElem?
  intro i
  by_cases hi : i < n * 6
  · have h1 : i / 6 < (List.replicate n Ln.zero).length := by simp; omega
    have h2 := lcells_get (List.replicate n Ln.zero) (i / 6) h1 (i % 6) (Nat.mod_lt _ (by omega))
    rw [show i / 6 * 6 + i % 6 = i from by omega] at h2
    rw [h2]
    have h3 : i % 6 < 6 := Nat.mod_lt _ (by omega)
    have hz : Ln.zero.agg.cells = #[.int .i64 0, .string ⟨#[]⟩, .string ⟨#[]⟩, .string ⟨#[]⟩, .string ⟨#[]⟩, .string ⟨#[]⟩] := rfl
    simp only [List.getElem_replicate]
    have hc : lcell Ln.zero = [.int .i64 0, .string ⟨#[]⟩, .string ⟨#[]⟩, .string ⟨#[]⟩, .string ⟨#[]⟩, .string ⟨#[]⟩] := rfl
    rw [hc, hz]
    obtain ⟨r, hr⟩ : ∃ r, i % 6 = r := ⟨_, rfl⟩
    have hsz : (#[.int .i64 0, .string ⟨#[]⟩, .string ⟨#[]⟩, .string ⟨#[]⟩, .string ⟨#[]⟩, .string ⟨#[]⟩] : Array Value).size = 6 := rfl
    have hm : ∀ Z : Array Value, (madeCells Z (n * 6)).toList[i]? = some (Z[i % Z.size]!) := fun Z => by simp [madeCells, hi]
    rw [hm, hsz, hr]
    rw [hr] at h3
    match r, h3 with
    | 0, _ => rfl
    | 1, _ => rfl
    | 2, _ => rfl
    | 3, _ => rfl
    | 4, _ => rfl
    | 5, _ => rfl
  · rw [List.getElem?_eq_none (by simp [size_madeCells]; omega), List.getElem?_eq_none (by rw [lcells_length]; simp; omega)]
theorem grown_setRow (w : World) (g : Nat) (cs : Array Value) : w.grownBy (w.setRow g cs) (some g) :=
  ⟨rfl, rfl, rfl, by simp [World.setRow], fun k _ hne => setRow_other w g k cs (fun e => hne (by rw [e]))⟩

end Go.Proofs.YtgjineoiebokhaaDoor
namespace Go.Proofs.YtgjineoiebokhaaDoor
open Go.RowKit

/-- the lines among the first k that do not meet the test -/
def keepL (ls : List Ln) (P : Nat → Bool) (k : Nat) : List Ln := ((List.range k).filter fun i => !P i).map fun i => ls[i]!
theorem keepL_yes {ls : List Ln} {P : Nat → Bool} {k : Nat} (h : P k = true) : keepL ls P (k + 1) = keepL ls P k := by
  unfold keepL; rw [List.range_succ, List.filter_append]; simp [h]
theorem keepL_no {ls : List Ln} {P : Nat → Bool} {k : Nat} (h : P k = false) : keepL ls P (k + 1) = keepL ls P k ++ [ls[k]!] := by
  unfold keepL; rw [List.range_succ, List.filter_append]; simp [h]
theorem keepL_le (ls : List Ln) (P : Nat → Bool) (k : Nat) : (keepL ls P k).length ≤ k := by
  unfold keepL
  rw [List.length_map]
  exact Nat.le_trans (List.length_filter_le _ _) (by simp)
/-- the indices from k on that meet the test -/
def restI (P : Nat → Bool) (n k : Nat) : List Nat := (List.range' k (n - k)).filter P
theorem restI_yes {P : Nat → Bool} {n k : Nat} (hk : k < n) (h : P k = true) : restI P n k = k :: restI P n (k + 1) := by
  unfold restI
  rw [show n - k = (n - (k + 1)) + 1 from by omega, List.range'_succ, List.filter_cons, if_pos h]
theorem restI_no {P : Nat → Bool} {n k : Nat} (hk : k < n) (h : P k = false) : restI P n k = restI P n (k + 1) := by
  unfold restI
  rw [show n - k = (n - (k + 1)) + 1 from by omega, List.range'_succ, List.filter_cons, if_neg (by rw [h]; simp)]
theorem restI_ge {P : Nat → Bool} {n k i : Nat} (h : i ∈ restI P n k) : k ≤ i := by
  unfold restI at h
  have := (List.mem_filter.1 h).1
  rw [List.mem_range'_1] at this
  exact this.1
theorem restI_head {P : Nat → Bool} {n k : Nat} (h : P k = false) (hk : k < n) (h0 : 0 < (restI P n k).length) : (restI P n k)[0] ≠ k := by
  intro e
  have hm : (restI P n k)[0] ∈ restI P n (k + 1) := by rw [← restI_no hk h]; exact List.getElem_mem _
  have := restI_ge hm
  omega
theorem restI_zero (P : Nat → Bool) (n : Nat) : restI P n 0 = (List.range n).filter P := by
  unfold restI; rw [Nat.sub_zero, List.range_eq_range']
theorem restI_le (P : Nat → Bool) (n k : Nat) : (restI P n k).length ≤ n - k := by
  unfold restI
  exact Nat.le_trans (List.length_filter_le _ _) (by simp)

theorem one_newsA (w : World) (l : Ln) (t : TypeId) {p : Nat} (hp : w.heap.size = p) : ∀ j u, (lcells [l])[j]? = some u → (w.alloc (.cells #[.int .i64 l.k, .string l.le, .string l.na, .string l.se, .string l.va, .string l.ta] t)).cell? ((⟨p, 0, none⟩ : Addr).add j) = some u := fun j u hj => by
  subst hp
  exact World.news_of_block (heap_alloc_new w _) j u (by simpa [lcells, lcell] using hj)
/-- the cells lie in another block than the row that turns -/
theorem ValsAt.farV {w w' : World} {A : Option Addr} {xs : List Value} {row : Option Nat} (h : ValsAt w A xs) (g : w.grownBy w' row) (hne : ∀ b, row = some b → ∀ o, A ≠ some ⟨b, o, none⟩) : ValsAt w' A xs := fun h0 => by
  obtain ⟨b, o, e, hb, hc⟩ := h h0
  refine ⟨b, o, e, Nat.lt_of_lt_of_le hb g.size, fun i hi => ?_⟩
  rw [g.cell_far ⟨b, o + i, none⟩ hb (fun e2 => hne b e2.symm o e)]
  exact hc i hi

end Go.Proofs.YtgjineoiebokhaaDoor
namespace Go.Proofs.YtgjineoiebokhaaDoor
open Go.RowKit

/-- the lines without a key's, none if it is not there -/
def dropKL (ls : List Ln) (s key : ByteArray) : List Ln := if whereOf ls s key < 0 then [] else keepL ls (isPair ls s key) ls.length
theorem dropKL_le (ls : List Ln) (s key : ByteArray) (hn : ls.length ≤ 1048576) : (dropKL ls s key).length ≤ 1048576 := by
  unfold dropKL
  split
  · simp
  · exact Nat.le_trans (keepL_le _ _ _) hn
theorem pairs_none {ls : List Ln} {s key : ByteArray} (h : whereOf ls s key < 0) : pairsOf' ls s key = [] := by
  rw [whereOf_eq] at h
  rcases hg : (pairsOf' ls s key).getLast? with _ | i
  · exact List.getLast?_eq_none_iff.1 hg
  · rw [hg] at h; simp at h; omega
theorem pairs_some {ls : List Ln} {s key : ByteArray} (h : ¬ whereOf ls s key < 0) : vfile ls = true ∧ 0 < (pairsOf' ls s key).length := by
  have hv : vfile ls = true := by
    rcases hb : vfile ls with _ | _
    · rw [whereOf_no s key hb] at h; omega
    · rfl
  refine ⟨hv, ?_⟩
  rcases Nat.eq_zero_or_pos (pairsOf' ls s key).length with h0 | h0
  · rw [whereOf_eq, List.eq_nil_of_length_eq_zero h0] at h
    simp at h
  · exact h0
theorem getB_where (ls : List Ln) (s key : ByteArray) : getB ls s key = !decide (whereOf ls s key < 0) := rfl

end Go.Proofs.YtgjineoiebokhaaDoor
namespace Go.Proofs.YtgjineoiebokhaaDoor
open Go.RowKit

/-- the first head of a name, from place i on -/
def headFrom (s : ByteArray) : List Ln → Nat → Int
  | [], _ => -1
  | l :: ls, i => if (l.k == 2 && l.na.toList == s.toList) = true then (i : Int) else headFrom s ls (i + 1)
def headIx (ls : List Ln) (s : ByteArray) : Int := headFrom s ls 0
def NoneH (ls : List Ln) (s : ByteArray) (j : Nat) : Prop := ∀ i (h : i < ls.length), i < j → (ls[i].k == 2 && ls[i].na.toList == s.toList) = false
theorem NoneH.zero (ls : List Ln) (s : ByteArray) : NoneH ls s 0 := fun _ _ h => absurd h (Nat.not_lt_zero _)
theorem NoneH.succ {ls : List Ln} {s : ByteArray} {j : Nat} (h : NoneH ls s j) (hj : j < ls.length) (hl : (ls[j].k == 2 && ls[j].na.toList == s.toList) = false) : NoneH ls s (j + 1) := by
  intro i hi hij
  by_cases e : i = j
  · subst e; exact hl
  · exact h i hi (by omega)
theorem headFrom_at (s : ByteArray) : ∀ (ls : List Ln) (i j : Nat), NoneH ls s j → ∀ (hj : j < ls.length), (ls[j].k == 2 && ls[j].na.toList == s.toList) = true → headFrom s ls i = ((i + j : Nat) : Int) := by
  intro ls
  induction ls with
  | nil => intro i j _ hj; exact absurd hj (by simp)
  | cons l ls ih =>
    intro i j hn hj ht
    cases j with
    | zero => simp only [List.getElem_cons_zero] at ht; rw [headFrom, if_pos ht]; simp
    | succ j =>
      have h0 : (l.k == 2 && l.na.toList == s.toList) = false := hn 0 (by simp) (by omega)
      rw [headFrom, if_neg (by rw [h0]; simp), ih (i + 1) j (fun q hq hqj => hn (q + 1) (by simpa using hq) (by omega)) (by simpa using hj) (by simpa using ht)]
      omega
theorem headFrom_none (s : ByteArray) : ∀ (ls : List Ln) (i : Nat), NoneH ls s ls.length → headFrom s ls i = -1 := by
  intro ls
  induction ls with
  | nil => intro i _; rfl
  | cons l ls ih =>
    intro i hn
    have h0 : (l.k == 2 && l.na.toList == s.toList) = false := hn 0 (by simp) (by simp)
    rw [headFrom, if_neg (by rw [h0]; simp), ih (i + 1) (fun q hq hqj => hn (q + 1) (by simpa using hq) (by simpa using hqj))]
theorem headFrom_neg (s : ByteArray) : ∀ (ls : List Ln) (i : Nat), headFrom s ls i < 0 ↔ ∀ q (h : q < ls.length), (ls[q].k == 2 && ls[q].na.toList == s.toList) = false := by
  intro ls
  induction ls with
  | nil => intro i; exact ⟨fun _ q h => absurd h (by simp), fun _ => by simp [headFrom]⟩
  | cons l ls ih =>
    intro i
    rw [headFrom]
    by_cases h : (l.k == 2 && l.na.toList == s.toList) = true
    · rw [if_pos h]
      constructor
      · intro h2; omega
      · intro h2
        have := h2 0 (by simp)
        simp only [List.getElem_cons_zero] at this
        rw [h] at this
        cases this
    · rw [if_neg h, ih (i + 1)]
      constructor
      · intro h2 q hq
        cases q with
        | zero => simpa using h
        | succ q => simpa using h2 q (by simpa using hq)
      · intro h2 q hq
        exact h2 (q + 1) (by simpa using hq)
theorem headIx_heads {ls : List Ln} {s : ByteArray} (hv : vfile ls = true) : headIx ls s < 0 ↔ headsOf' ls s = [] := by
  rw [headsOf_eq s hv, List.filter_eq_nil_iff]
  unfold headIx
  rw [headFrom_neg]
  constructor
  · intro h i hi
    have hil := List.mem_range.1 hi
    have h1 := h i hil
    unfold headP isHd
    rw [get_bang hil, h1]
    simp
  · intro h q hq
    have h1 := h q (List.mem_range.2 hq)
    unfold headP isHd at h1
    rw [get_bang hq] at h1
    simpa using h1

end Go.Proofs.YtgjineoiebokhaaDoor
namespace Go.Proofs.YtgjineoiebokhaaDoor
open Go.RowKit

/-- the line with another name -/
def Ln.named (l : Ln) (to : ByteArray) : Ln := ⟨l.k, l.le, to, l.se, l.va, l.ta⟩
/-- the lines, those of S with another name -/
def renS (ls : List Ln) (S : Nat → Bool) (to : ByteArray) : List Ln := (List.range ls.length).map fun i => if S i = true then (ls[i]!).named to else ls[i]!
theorem renS_length (ls : List Ln) (S : Nat → Bool) (to : ByteArray) : (renS ls S to).length = ls.length := by simp [renS]
theorem renS_get (ls : List Ln) (S : Nat → Bool) (to : ByteArray) (i : Nat) (h : i < ls.length) : (renS ls S to)[i]'(by rw [renS_length]; exact h) = if S i = true then ls[i].named to else ls[i] := by
  simp only [renS, List.getElem_map, List.getElem_range, get_bang h]
theorem renS_congr {ls : List Ln} {S T : Nat → Bool} (to : ByteArray) (h : ∀ i, i < ls.length → S i = T i) : renS ls S to = renS ls T to := by
  unfold renS
  apply List.map_congr_left
  intro i hi
  rw [h i (List.mem_range.1 hi)]
theorem renS_none {ls : List Ln} {S : Nat → Bool} (to : ByteArray) (h : ∀ i, i < ls.length → S i = false) : renS ls S to = ls := by
  apply List.ext_getElem (renS_length _ _ _)
  intro i h1 h2
  rw [renS_get ls S to i h2, if_neg (by rw [h i h2]; simp)]
/-- one more line has the name -/
theorem renS_set {ls : List Ln} {S T : Nat → Bool} {to : ByteArray} {k : Nat} (hk : k < ls.length) (h : ∀ i, T i = (S i || decide (i = k))) : renS ls T to = (renS ls S to).set k (ls[k].named to) := by
  apply List.ext_getElem (by rw [List.length_set, renS_length, renS_length])
  intro i h1 h2
  have hi : i < ls.length := by rw [renS_length] at h1; exact h1
  rw [renS_get ls T to i hi, List.getElem_set, h i]
  by_cases e : i = k
  · subst e; simp
  · have hse : (S i || decide (i = k)) = S i := by simp [e]
    have hki : ¬ k = i := fun h9 => e h9.symm
    rw [hse, renS_get ls S to i hi]
    simp only [hki, if_false]
theorem lcells_set (K : List Ln) : ∀ (k : Nat) (h : k < K.length) (to : ByteArray), (lcells K).set (k * 6 + 2) (.string to) = lcells (K.set k (K[k].named to)) := by
  induction K with
  | nil => intro k h; exact absurd h (by simp)
  | cons l K ih =>
    intro k h to
    cases k with
    | zero => simp [lcells, lcell, Ln.named]
    | succ k =>
      have hl : (lcell l).length = 6 := rfl
      rw [lcells, List.set_append_right _ _ (by rw [hl]; omega), hl, show (k + 1) * 6 + 2 - 6 = k * 6 + 2 from by omega, ih k (by simpa using h) to]
      simp [lcells]
theorem named_twice (l : Ln) (a b : ByteArray) : (l.named a).named b = l.named b := rfl

/-- the lines if they are valid -/
def chkL (K : List Ln) : List Ln := if vfile K = true then K else []
theorem chkL_le (K : List Ln) : (chkL K).length ≤ K.length := by
  unfold chkL
  split <;> simp
end Go.Proofs.YtgjineoiebokhaaDoor
