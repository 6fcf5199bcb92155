/-
  The keys of a section: KeysOf of the program and of the specification. Conditions: at most 1048576 bytes in all.
  What a valid line of each kind has, and the type tests on the program's forms. No condition.
  The sections of a file: SectionsOf of the program and of the specification. Conditions: at most 1048576 bytes in all.
  Rows of lines that a call makes by append: the row of nothing, one more line, what a call that returns a file hands over. Condition: at most 1048576 lines.
  What a tidy file is: its lines as a function of the lines of a valid file; keys have values. No program, no condition.
-/
import Derived.Test.YtkjoolmhcfajnaaDoorMark
import Derived.Test.YtkjoolmhcfajnaaDoorSec
import Derived.Test.YtkjoolmhcfajnaaDoorFile
import Derived.Test.YtkjoolmhcfajnaaDoorMem
import Derived.Deep.AppendLies
namespace Go.Proofs.YtkjoolmhcfajnaaDoor
open Go.RowKit

/-- the keys of a section among the first k lines -/
def keysTo (ls : List Ln) (s : ByteArray) : Nat → List ByteArray
  | 0 => []
  | k + 1 => if (ls[k]!.k == 3 && inSec ls s k) = true then addT (keysTo ls s k) ls[k]!.na else keysTo ls s k
theorem keysTo_yes {ls : List Ln} {s : ByteArray} {k : Nat} (h : (ls[k]!.k == 3 && inSec ls s k) = true) : keysTo ls s (k + 1) = addT (keysTo ls s k) ls[k]!.na := by
  show (if _ then _ else _) = _
  rw [if_pos h]
theorem keysTo_no {ls : List Ln} {s : ByteArray} {k : Nat} (h : (ls[k]!.k == 3 && inSec ls s k) = false) : keysTo ls s (k + 1) = keysTo ls s k := by
  show (if _ then _ else _) = _
  rw [if_neg (by rw [h]; simp)]
theorem keysTo_le (ls : List Ln) (s : ByteArray) (k : Nat) : (keysTo ls s k).length ≤ k := by
  induction k with
  | zero => exact Nat.le_refl _
  | succ k ih =>
    by_cases h : (ls[k]!.k == 3 && inSec ls s k) = true
    · rw [keysTo_yes h]
      have := addT_le (keysTo ls s k) ls[k]!.na
      omega
    · rw [keysTo_no (by simpa using h)]; omega
/-- the keys of a section by its lines -/
def keysBy (ls : List Ln) (L : List Nat) : List ByteArray := L.foldl (fun acc i => if (ls[i]!.k == 3) = true then addT acc ls[i]!.na else acc) []
theorem keysBy_snoc (ls : List Ln) (L : List Nat) (i : Nat) : keysBy ls (L ++ [i]) = if (ls[i]!.k == 3) = true then addT (keysBy ls L) ls[i]!.na else keysBy ls L := by
  unfold keysBy
  rw [List.foldl_append]
  rfl
theorem keysBy_le (ls : List Ln) (L : List Nat) : (keysBy ls L).length ≤ L.length := by
  rw [← List.reverse_reverse L]
  generalize L.reverse = M
  induction M with
  | nil => exact Nat.le_refl _
  | cons i M ih =>
    rw [List.reverse_cons, keysBy_snoc, List.length_append, List.length_singleton]
    split
    · have := addT_le (keysBy ls M.reverse) ls[i]!.na
      omega
    · omega
theorem keysBy_eq (ls : List Ln) (s : ByteArray) (k : Nat) : keysBy ls (secTo ls s k) = keysTo ls s k := by
  induction k with
  | zero => rfl
  | succ k ih =>
    by_cases h : inSec ls s k = true
    · rw [secTo_yes h, keysBy_snoc, ih]
      by_cases h3 : (ls[k]!.k == 3) = true
      · rw [if_pos h3, keysTo_yes (by rw [h3, h]; rfl)]
      · rw [if_neg h3, keysTo_no (by rw [Bool.eq_false_iff.2 h3, Bool.false_and])]
    · have h' : inSec ls s k = false := by simpa using h
      rw [secTo_no h', ih, keysTo_no (by rw [h', Bool.and_false])]
/-- the keys of a section of a file, none if it is not valid -/
def keysOf' (ls : List Ln) (s : ByteArray) : List ByteArray := if vfile ls = true then keysTo ls s ls.length else []
theorem keysOf_by (ls : List Ln) (s : ByteArray) : keysBy ls (secOf ls s) = keysOf' ls s := by
  unfold secOf keysOf'
  split
  · exact keysBy_eq _ _ _
  · rfl

/-- a call's end: it returns a list of texts in rows of the call's own -/
def StrsRet (xs : List ByteArray) (w : World) (e : Ending) (w' : World) : Prop := ∃ v, e = .returned v ∧ OwnS w' w.heap.size v xs ∧ Grows w w'
theorem OwnS.nil (w : World) (base : Nat) : OwnS w base (.slice none 0 0) [] := World.ownsRow_nil _ _ _ _
theorem OwnS.empty (w : World) (base : Nat) (hb : base ≤ w.heap.size) : OwnS (w.alloc (.cells #[] 9)) base (.slice (some ⟨w.heap.size, 0, none⟩) 0 0) [] :=
  World.ownsRow_lit w #[] 0 hb (Nat.zero_le _) rfl
theorem OwnS.less {w : World} {base base' : Nat} {v : Value} {xs : List ByteArray} (h : OwnS w base v xs) (hb : base' ≤ base) : OwnS w base' v xs := by
  refine ⟨h.1, ?_⟩
  rcases h.2 with h2 | ⟨g, cap, cur, hv, hg, hr⟩
  · exact .inl h2
  · exact .inr ⟨g, cap, cur, hv, by omega, hr⟩

theorem keysOf_le (ls : List Ln) (s : ByteArray) : (keysOf' ls s).length ≤ ls.length := by
  unfold keysOf'
  split
  · exact keysTo_le _ _ _
  · exact Nat.zero_le _
theorem Grows.mark {a b c : World} {row : Option Nat} (h : Grows a b) (hg : b.grownBy c row) (hr : ∀ k, row = some k → a.heap.size ≤ k) : Grows a c := Below.grown h hg h.size hr
theorem OwnS.far {a b : World} {base : Nat} {v : Value} {xs : List ByteArray} {row : Option Nat} (h : OwnS a base v xs) (hg : a.grownBy b row) (hne : ∀ k, v.ownBlock = some k → row ≠ some k) : OwnS b base v xs := by
  refine World.ownsRow.kept h hg ?_
  rcases hb : v.ownBlock with _ | k
  · exact .inl rfl
  · exact .inr (fun e => hne k hb e.symm)
end Go.Proofs.YtkjoolmhcfajnaaDoor
namespace Go.Proofs.YtkjoolmhcfajnaaDoor
open Go.RowKit
theorem nul_eq {s : ByteArray} (h : nul s = true) : s = ⟨#[]⟩ := by
  unfold nul at h
  rw [Lib.toList_data] at h
  obtain ⟨⟨d⟩⟩ := s
  have : d = [] := by simpa using h
  rw [this]

theorem vline_0 {le na se va ta : ByteArray} (h : vline ⟨0, le, na, se, va, ta⟩ = true) : na = ⟨#[]⟩ ∧ se = ⟨#[]⟩ ∧ va = ⟨#[]⟩ ∧ ta = ⟨#[]⟩ := by
  have h : (vspaces le && (nul na && (nul se && (nul va && nul ta)))) = true := h
  simp only [Bool.and_eq_true] at h
  exact ⟨nul_eq h.2.1, nul_eq h.2.2.1, nul_eq h.2.2.2.1, nul_eq h.2.2.2.2⟩
theorem vline_1 {le na se va ta : ByteArray} (h : vline ⟨1, le, na, se, va, ta⟩ = true) : na = ⟨#[]⟩ ∧ se = ⟨#[]⟩ ∧ ta = ⟨#[]⟩ := by
  have h : (vspaces le && (nul na && (nul se && (nul ta && vnote va)))) = true := h
  simp only [Bool.and_eq_true] at h
  exact ⟨nul_eq h.2.1, nul_eq h.2.2.1, nul_eq h.2.2.2.1⟩
theorem vline_2 {le na se va ta : ByteArray} (h : vline ⟨2, le, na, se, va, ta⟩ = true) : se = ⟨#[]⟩ ∧ va = ⟨#[]⟩ := by
  have h : (vspaces le && (vname na && (nul se && (nul va && vspaces ta)))) = true := h
  simp only [Bool.and_eq_true] at h
  exact ⟨nul_eq h.2.2.1, nul_eq h.2.2.2.1⟩
theorem vline_k {l : Ln} (h : vline l = true) : l.k = 0 ∨ l.k = 1 ∨ l.k = 2 ∨ l.k = 3 := by
  by_cases k0 : l.k = 0
  · exact .inl k0
  by_cases k1 : l.k = 1
  · exact .inr (.inl k1)
  by_cases k2 : l.k = 2
  · exact .inr (.inr (.inl k2))
  by_cases k3 : l.k = 3
  · exact .inr (.inr (.inr k3))
  · unfold vline at h
    rw [if_neg k0, if_neg k1, if_neg k2, if_neg k3, Bool.and_false] at h
    cases h

end Go.Proofs.YtkjoolmhcfajnaaDoor
namespace Go.Proofs.YtkjoolmhcfajnaaDoor
open Go.RowKit

/-- line k is of those that begin or fill a section -/
def secLine (ls : List Ln) (k : Nat) : Bool := ls[k]!.k == 2 || ls[k]!.k == 3
/-- the sections among the first k lines -/
def secsTo (ls : List Ln) : Nat → List ByteArray
  | 0 => []
  | k + 1 => if secLine ls k = true then addT (secsTo ls k) (nowAt ls (k + 1)) else secsTo ls k
theorem secsTo_yes {ls : List Ln} {k : Nat} (h : secLine ls k = true) : secsTo ls (k + 1) = addT (secsTo ls k) (nowAt ls (k + 1)) := by
  show (if _ then _ else _) = _
  rw [if_pos h]
theorem secsTo_no {ls : List Ln} {k : Nat} (h : secLine ls k = false) : secsTo ls (k + 1) = secsTo ls k := by
  show (if _ then _ else _) = _
  rw [if_neg (by rw [h]; simp)]
theorem secsTo_le (ls : List Ln) (k : Nat) : (secsTo ls k).length ≤ k := by
  induction k with
  | zero => exact Nat.le_refl _
  | succ k ih =>
    by_cases h : secLine ls k = true
    · rw [secsTo_yes h]
      have := addT_le (secsTo ls k) (nowAt ls (k + 1))
      omega
    · rw [secsTo_no (by simpa using h)]; omega
/-- the sections of a file, none if it is not valid -/
def secsOf' (ls : List Ln) : List ByteArray := if vfile ls = true then secsTo ls ls.length else []
theorem secsOf_le (ls : List Ln) : (secsOf' ls).length ≤ ls.length := by
  unfold secsOf'
  split
  · exact secsTo_le _ _
  · exact Nat.zero_le _
theorem vfile_line {ls : List Ln} (hv : vfile ls = true) : ∀ i (h : i < ls.length), vline ls[i] = true := by
  have h1 : vlines ls = true := by
    unfold vfile at hv
    rw [Bool.and_eq_true] at hv
    exact hv.1
  unfold vlines at h1
  rw [List.all_eq_true] at h1
  exact fun i hi => h1 _ (List.getElem_mem hi)

end Go.Proofs.YtkjoolmhcfajnaaDoor
namespace Go.Proofs.YtkjoolmhcfajnaaDoor
open Go.RowKit

theorem gb_of2 {w a : World} (h : Grows w a) (row : Option Nat) : w.grownBy a row := ⟨h.os, h.tape, h.output, h.size, fun i hi _ => h.block i hi⟩
/-- the rows of two values are not the same block -/
def Apart (v u : Value) : Prop := ∀ k, v.ownBlock = some k → u.ownBlock ≠ some k
/-- the row of the new value is the old one's, or it is new -/
def Near (v v' : Value) (w : World) : Prop := ∀ k, v'.ownBlock = some k → v.ownBlock = some k ∨ k = w.heap.size
theorem near_of {v : Value} {g n c : Nat} {w : World} (h : v.ownBlock = some g ∨ g = w.heap.size) : Near v (.slice (some ⟨g, 0, none⟩) n c) w := fun k hk => by
  injection hk with hk
  subst hk
  exact h
theorem Apart.less {v u : Value} {b : Nat} (hv : ∀ k, v.ownBlock = some k → k < b) (hu : ∀ k, u.ownBlock = some k → b ≤ k) : Apart v u := fun k hk e => by
  have := hv k hk
  have := hu k e
  omega
theorem Apart.more {v u : Value} {b : Nat} (hv : ∀ k, v.ownBlock = some k → b ≤ k) (hu : ∀ k, u.ownBlock = some k → k < b) : Apart v u := fun k hk e => by
  have := hv k hk
  have := hu k e
  omega
theorem Apart.near {v v' u : Value} {w : World} (h : Apart v u) (hn : Near v v' w) (hu : ∀ k, u.ownBlock = some k → k < w.heap.size) : Apart v' u := fun k hk e => by
  rcases hn k hk with h1 | h1
  · exact h k h1 e
  · have := hu k e
    omega
theorem lcell_one (l : Ln) : ∀ u ∈ lcell l, u.oneCell' = true := by
  intro u hu
  simp [lcell] at hu
  rcases hu with rfl | rfl | rfl | rfl | rfl | rfl <;> rfl
theorem lcells_one (ls : List Ln) : ∀ u ∈ lcells ls, u.oneCell' = true := by
  induction ls with
  | nil => intro u hu; simp [lcells] at hu
  | cons l ls ih =>
    intro u hu
    rw [lcells, List.mem_append] at hu
    rcases hu with h | h
    · exact lcell_one l u h
    · exact ih u h
theorem LnAt.cells {w : World} {b o : Nat} {l : Ln} (h : LnAt w b o l) : ∀ j u, (lcell l)[j]? = some u → w.cell? ((⟨b, o, none⟩ : Addr).add j) = some u := by
  obtain ⟨h0, h1, h2, h3, h4, h5⟩ := h
  intro j u hj
  match j, hj with
  | 0, hj => simp [lcell] at hj; subst hj; simpa [Addr.add] using h0
  | 1, hj => simp [lcell] at hj; subst hj; simpa [Addr.add] using h1
  | 2, hj => simp [lcell] at hj; subst hj; simpa [Addr.add] using h2
  | 3, hj => simp [lcell] at hj; subst hj; simpa [Addr.add] using h3
  | 4, hj => simp [lcell] at hj; subst hj; simpa [Addr.add] using h4
  | 5, hj => simp [lcell] at hj; subst hj; simpa [Addr.add] using h5
  | j + 6, hj => simp [lcell] at hj
theorem LnsAt.cells {w : World} {b o : Nat} {ls : List Ln} (h : ∀ i (h : i < ls.length), LnAt w b (o + i * 6) ls[i]) : ∀ j u, (lcells ls)[j]? = some u → w.cell? ((⟨b, o, none⟩ : Addr).add j) = some u := by
  intro j u hj
  have hlt : j < ls.length * 6 := by
    rw [← lcells_length]
    rcases Nat.lt_or_ge j (lcells ls).length with h | h
    · exact h
    · rw [List.getElem?_eq_none h] at hj; cases hj
  have hi : j / 6 < ls.length := by omega
  have hd : j % 6 < 6 := Nat.mod_lt _ (by omega)
  have hjj : j / 6 * 6 + j % 6 = j := by omega
  have hg := lcells_get ls (j / 6) hi (j % 6) hd
  rw [hjj, hj] at hg
  have := (h (j / 6) hi).cells (j % 6) u hg.symm
  have e : (⟨b, o + j / 6 * 6, none⟩ : Addr).add (j % 6) = (⟨b, o, none⟩ : Addr).add j := by
    have ha : ∀ (x y z : Nat), (⟨x, y, none⟩ : Addr).add z = ⟨x, y + z, none⟩ := fun x y z => by unfold Addr.add; split <;> simp_all
    rw [ha, ha, show o + j / 6 * 6 + j % 6 = o + j from by omega]
  rw [← e]
  exact this

theorem lcells_append (a b : List Ln) : lcells (a ++ b) = lcells a ++ lcells b := by
  induction a with
  | nil => rfl
  | cons y a ih => simp [lcells, ih, List.append_assoc]
/-- block b is a box of one cell -/
def Box (w : World) (b : Nat) (v : Value) (T : TypeId) : Prop := w.heap[b]? = some (.cells #[v] T (0, 0))
theorem Box.lt {w : World} {b : Nat} {v : Value} {T : TypeId} (h : Box w b v T) : b < w.heap.size := by
  rcases Nat.lt_or_ge b w.heap.size with hlt | hge
  · exact hlt
  · unfold Box at h; rw [Array.getElem?_eq_none hge] at h; cases h
theorem Box.cell {w : World} {b : Nat} {v : Value} {T : TypeId} (h : Box w b v T) : w.cell? ⟨b, 0, none⟩ = some v := by
  rw [cell_of_row w b 0 _ _ _ h]; rfl
theorem Box.free {w : World} {b : Nat} {v : Value} {T : TypeId} (h : Box w b v T) : w.frozen? ⟨b, 0, none⟩ = false := frozen_of_row w b 0 _ _ h
theorem Box.keep {w w' : World} {b : Nat} {v : Value} {T : TypeId} (h : Box w b v T) (g : Grows w w') : Box w' b v T := (g.block b h.lt).trans h
theorem Box.far {w w' : World} {b : Nat} {v : Value} {T : TypeId} {row : Option Nat} (h : Box w b v T) (g : w.grownBy w' row) (hne : row ≠ some b) : Box w' b v T := (g.block b h.lt (by first | exact hne | exact fun e => hne e.symm)).trans h
theorem Box.set_ {w : World} {b : Nat} {v : Value} {T : TypeId} (h : Box w b v T) (u : Value) : Box (w.setCell ⟨b, 0, none⟩ u) b u T := by
  unfold Box
  unfold Box at h
  simp [World.setCell, Array.getElem?_modify, h]
theorem Box.new (w : World) (v : Value) (T : TypeId) : Box (w.alloc (.cells #[v] T)) w.heap.size v T := heap_alloc_new w _
theorem OwnS.setFar {w : World} {base : Nat} {v : Value} {K : List ByteArray} (h : OwnS w base v K) {p i : Nat} (hp : v.ownBlock ≠ some p) (u : Value) : OwnS (w.setCell ⟨p, i, none⟩ u) base v K :=
  OwnS.far h (row := some p) (gb_set (World.grownBy.refl _ _) i u) (fun k hk e => by
    injection e with e
    subst e
    exact hp hk)
theorem one_news (w : World) (l : Ln) (t : TypeId) : ∀ j u, (lcells [l])[j]? = some u → (w.alloc (.cells #[.int .i64 l.k, .string l.le, .string l.na, .string l.se, .string l.va, .string l.ta] t)).cell? ((⟨w.heap.size, 0, none⟩ : Addr).add j) = some u := fun j u hj =>
  World.news_of_block (heap_alloc_new w _) j u (by simpa [lcells, lcell] using hj)
end Go.Proofs.YtkjoolmhcfajnaaDoor
namespace Go.Proofs.YtkjoolmhcfajnaaDoor
open Go.RowKit

/-- the separator of a new pair -/
def newSep : ByteArray := ⟨#[32, 61, 32]⟩
/-- a new pair, a new head -/
def pairL (k v : ByteArray) : Ln := ⟨3, ⟨#[]⟩, k, newSep, v, ⟨#[]⟩⟩
def headL (s : ByteArray) : Ln := ⟨2, ⟨#[]⟩, s, ⟨#[]⟩, ⟨#[]⟩, ⟨#[]⟩⟩
/-- the lines of keys -/
def tkeys (ls : List Ln) (s : ByteArray) (ks : List ByteArray) : List Ln := ks.map fun k => pairL k (getV ls s k)
/-- the line of a head, none for the section without a name -/
def thead (s : ByteArray) : List Ln := if s.toList.isEmpty = true then [] else [headL s]
def tsec (ls : List Ln) (s : ByteArray) : List Ln := thead s ++ tkeys ls s (keysOf' ls s)
def tsecs (ls : List Ln) (ss : List ByteArray) : List Ln := ss.flatMap (tsec ls)
/-- the lines of the tidy file -/
def tidyOf (ls : List Ln) : List Ln := tsecs ls (secsOf' ls)

theorem tkeys_succ (ls : List Ln) (s : ByteArray) {ks : List ByteArray} {j : Nat} (h : j < ks.length) : tkeys ls s (ks.take (j + 1)) = tkeys ls s (ks.take j) ++ [pairL ks[j] (getV ls s ks[j])] := by
  unfold tkeys
  rw [List.take_succ_eq_append_getElem h, List.map_append]
  rfl
theorem tsecs_succ (ls : List Ln) {ss : List ByteArray} {j : Nat} (h : j < ss.length) : tsecs ls (ss.take (j + 1)) = tsecs ls (ss.take j) ++ tsec ls ss[j] := by
  unfold tsecs
  rw [List.take_succ_eq_append_getElem h, List.flatMap_append]
  simp
theorem tkeys_length (ls : List Ln) (s : ByteArray) (ks : List ByteArray) : (tkeys ls s ks).length = ks.length := by simp [tkeys]
theorem thead_le (s : ByteArray) : (thead s).length ≤ 1 := by
  unfold thead
  split <;> simp
theorem vfile_20 {ls : List Ln} (h : vfile ls = true) : ls.length ≤ 20 := by
  unfold vfile at h
  rw [Bool.and_eq_true, decide_eq_true_iff] at h
  exact h.2
theorem keys_20 (ls : List Ln) (s : ByteArray) : (keysOf' ls s).length ≤ 20 := by
  unfold keysOf'
  split
  · rename_i h
    exact Nat.le_trans (keysTo_le _ _ _) (vfile_20 h)
  · exact Nat.zero_le _
theorem secs_20 (ls : List Ln) : (secsOf' ls).length ≤ 20 := by
  unfold secsOf'
  split
  · rename_i h
    exact Nat.le_trans (secsTo_le _ _) (vfile_20 h)
  · exact Nat.zero_le _
theorem tsec_le (ls : List Ln) (s : ByteArray) : (tsec ls s).length ≤ 21 := by
  unfold tsec
  rw [List.length_append, tkeys_length]
  have := thead_le s
  have := keys_20 ls s
  omega
theorem tsecs_le (ls : List Ln) (ss : List ByteArray) : (tsecs ls ss).length ≤ ss.length * 21 := by
  induction ss with
  | nil => simp [tsecs]
  | cons s ss ih =>
    have := tsec_le ls s
    have e : tsecs ls (s :: ss) = tsec ls s ++ tsecs ls ss := by simp [tsecs]
    rw [e, List.length_append, List.length_cons]
    omega
theorem tidy_le (ls : List Ln) : (tidyOf ls).length ≤ 420 := by
  have := tsecs_le ls (secsOf' ls)
  have := secs_20 ls
  unfold tidyOf
  omega
theorem tidy_no {ls : List Ln} (h : vfile ls = false) : tidyOf ls = [] := by
  unfold tidyOf secsOf'
  rw [if_neg (by rw [h]; simp)]
  rfl

theorem addT_mem {xs : List ByteArray} {s x : ByteArray} (h : x ∈ addT xs s) : x ∈ xs ∨ x = s := by
  unfold addT at h
  split at h
  · exact .inl h
  · rw [List.mem_append, List.mem_singleton] at h; exact h
theorem keysTo_last (ls : List Ln) (s : ByteArray) : ∀ (k : Nat) (x : ByteArray), x ∈ keysTo ls s k → 0 ≤ lastP ls s x k := by
  intro k
  induction k with
  | zero => intro x h; simp [keysTo] at h
  | succ k ih =>
    intro x h
    by_cases hp : isPair ls s x k = true
    · rw [lastP_yes hp]; omega
    · have hp' : isPair ls s x k = false := by simpa using hp
      rw [lastP_no hp']
      by_cases hk : (ls[k]!.k == 3 && inSec ls s k) = true
      · rw [keysTo_yes hk] at h
        rcases addT_mem h with h | rfl
        · exact ih x h
        · exfalso
          rw [Bool.and_eq_true] at hk
          unfold isPair isKey at hp'
          rw [hk.1, hk.2] at hp'
          simp at hp'
      · rw [keysTo_no (by simpa using hk)] at h
        exact ih x h
/-- a key has a line -/
theorem keys_where {ls : List Ln} {s : ByteArray} {i : Nat} (h : i < (keysOf' ls s).length) : ∃ k : Nat, lastP ls s (keysOf' ls s)[i] ls.length = k ∧ ∃ hk : k < ls.length, ls[k].va = getV ls s (keysOf' ls s)[i] ∧ getB ls s (keysOf' ls s)[i] = true := by
  have hm : (keysOf' ls s)[i] ∈ keysOf' ls s := List.getElem_mem h
  obtain ⟨x, hx⟩ : ∃ x, (keysOf' ls s)[i] = x := ⟨_, rfl⟩
  rw [hx] at hm ⊢
  clear hx h
  by_cases hv : vfile ls = true
  · unfold keysOf' at hm
    rw [if_pos hv] at hm
    have h0 := keysTo_last ls s _ x hm
    have h1 := (lastP_lt ls s x ls.length).1
    refine ⟨(lastP ls s x ls.length).toNat, by omega, by omega, ?_⟩
    have h2 : whereOf ls s x = ((lastP ls s x ls.length).toNat : Int) := by rw [whereOf_yes s x hv]; omega
    have h3 := get_yes h2 (by omega)
    exact ⟨h3.1.symm, h3.2⟩
  · unfold keysOf' at hm
    rw [if_neg hv] at hm
    simp at hm
end Go.Proofs.YtkjoolmhcfajnaaDoor
