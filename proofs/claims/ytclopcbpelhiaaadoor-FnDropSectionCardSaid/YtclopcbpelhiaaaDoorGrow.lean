/-
  The keys of a section: KeysOf of the program and of the specification. Conditions: at most 1048576 bytes in all.
  What a valid line of each kind has, and the type tests on the program's forms. No condition.
  The sections of a file: SectionsOf of the program and of the specification. Conditions: at most 1048576 bytes in all.
  Rows of lines that a call makes by append: the row of nothing, one more line, what a call that returns a file hands over. Condition: at most 1048576 lines.
  What a tidy file is: its lines as a function of the lines of a valid file; keys have values. No program, no condition.
-/
import Derived.Test.YtclopcbpelhiaaaDoorMark
import Derived.Test.YtclopcbpelhiaaaDoorSec
import Derived.Test.YtclopcbpelhiaaaDoorFile
import Derived.Test.YtclopcbpelhiaaaDoorMem
import Derived.Deep.AppendLies
namespace Go.Proofs.YtclopcbpelhiaaaDoor
open Go.RowKit

/-- the keys of a section among the first k lines -/
def keysTo (ls : List Ln) (s : ByteArray) : Nat → List ByteArray
  | 0 => []
  | k + 1 => if (ls[k]!.k == 3 && inSec ls s k) = true then addT (keysTo ls s k) ls[k]!.na else keysTo ls s k
theorem keysTo_yes {ls : List Ln} {s : ByteArray} {k : Nat} (h : (ls[k]!.k == 3 && inSec ls s k) = true) : keysTo ls s (k + 1) = addT (keysTo ls s k) ls[k]!.na := by
  show (if _ then _ else _) = _
  rw [if_pos h]
theorem keysTo_no {ls : List Ln} {s : ByteArray} {k : Nat} (h : (ls[k]!.k == 3 && inSec ls s k) = false) : keysTo ls s (k + 1) = keysTo ls s k := by
  show (if _ then _ else _) = _
  rw [if_neg (by rw [h]; simp)]
theorem keysTo_le (ls : List Ln) (s : ByteArray) (k : Nat) : (keysTo ls s k).length ≤ k := by
  induction k with
  | zero => exact Nat.le_refl _
  | succ k ih =>
    by_cases h : (ls[k]!.k == 3 && inSec ls s k) = true
    · rw [keysTo_yes h]
      have := addT_le (keysTo ls s k) ls[k]!.na
      omega
    · rw [keysTo_no (by simpa using h)]; omega
/-- the keys of a section by its lines -/
def keysBy (ls : List Ln) (L : List Nat) : List ByteArray := L.foldl (fun acc i => if (ls[i]!.k == 3) = true then addT acc ls[i]!.na else acc) []
theorem keysBy_snoc (ls : List Ln) (L : List Nat) (i : Nat) : keysBy ls (L ++ [i]) = if (ls[i]!.k == 3) = true then addT (keysBy ls L) ls[i]!.na else keysBy ls L := by
  unfold keysBy
  rw [List.foldl_append]
  rfl
theorem keysBy_le (ls : List Ln) (L : List Nat) : (keysBy ls L).length ≤ L.length := by
  rw [← List.reverse_reverse L]
  generalize L.reverse = M
  induction M with
  | nil => exact Nat.le_refl _
  | cons i M ih =>
    rw [List.reverse_cons, keysBy_snoc, List.length_append, List.length_singleton]
    split
    · have := addT_le (keysBy ls M.reverse) ls[i]!.na
      omega
    · omega
theorem keysBy_eq (ls : List Ln) (s : ByteArray) (k : Nat) : keysBy ls (secTo ls s k) = keysTo ls s k := by
  induction k with
  | zero => rfl
  | succ k ih =>
    by_cases h : inSec ls s k = true
    · rw [secTo_yes h, keysBy_snoc, ih]
      by_cases h3 : (ls[k]!.k == 3) = true
      · rw [if_pos h3, keysTo_yes (by rw [h3, h]; rfl)]
      · rw [if_neg h3, keysTo_no (by rw [Bool.eq_false_iff.2 h3, Bool.false_and])]
    · have h' : inSec ls s k = false := by simpa using h
      rw [secTo_no h', ih, keysTo_no (by rw [h', Bool.and_false])]
/-- the keys of a section of a file, none if it is not valid -/
def keysOf' (ls : List Ln) (s : ByteArray) : List ByteArray := if vfile ls = true then keysTo ls s ls.length else []
theorem keysOf_by (ls : List Ln) (s : ByteArray) : keysBy ls (secOf ls s) = keysOf' ls s := by
  unfold secOf keysOf'
  split
  · exact keysBy_eq _ _ _
  · rfl

/-- a call's end: it returns a list of texts in rows of the call's own -/
def StrsRet (xs : List ByteArray) (w : World) (e : Ending) (w' : World) : Prop := ∃ v, e = .returned v ∧ OwnS w' w.heap.size v xs ∧ Grows w w'
theorem OwnS.nil (w : World) (base : Nat) : OwnS w base (.slice none 0 0) [] := World.ownsRow_nil _ _ _ _
theorem OwnS.empty (w : World) (base : Nat) (hb : base ≤ w.heap.size) : OwnS (w.alloc (.cells #[] 9)) base (.slice (some ⟨w.heap.size, 0, none⟩) 0 0) [] :=
  World.ownsRow_lit w #[] 0 hb (Nat.zero_le _) rfl
theorem OwnS.less {w : World} {base base' : Nat} {v : Value} {xs : List ByteArray} (h : OwnS w base v xs) (hb : base' ≤ base) : OwnS w base' v xs := by
  refine ⟨h.1, ?_⟩
  rcases h.2 with h2 | ⟨g, cap, cur, hv, hg, hr⟩
  · exact .inl h2
  · exact .inr ⟨g, cap, cur, hv, by omega, hr⟩

set_option maxRecDepth 100000 in
set_option maxHeartbeats 2000000 in
theorem implKeys_any (A : Option Addr) (c : Nat) (ls : List Ln) (s : ByteArray) (w : World) (hf : AllFit ls) (hA : LnsAt w A ls) :
    Calls Tryd.prog 36 #[.agg #[.slice A ls.length c], .string s] w (StrsRet (keysOf' ls s) w) := by
  have HF := Lib.hid (fun w1 (g : Grows w w1) => linesIn_all A c ls s w1 hf (hA.keep g))
  have HA := Lib.hid hA
  have hn : ls.length ≤ 1048576 := hf.1
  have HE := Lib.hid (keysOf_by ls s)
  have HLT : Hid (∀ i (h : i < (secOf ls s).length), (secOf ls s)[i] < ls.length) := fun i h => secOf_lt (List.getElem_mem h)
  have hL := secOf_le ls s
  clear hA hf
  obtain ⟨L, hLL⟩ : ∃ L, secOf ls s = L := ⟨_, rfl⟩
  rw [hLL] at HF HE HLT hL
  clear hLL
  obtain ⟨n, hnn⟩ : ∃ n, ls.length = n := ⟨_, rfl⟩
  rw [hnn] at hn HF HLT hL
  rw [hnn]
  have HN := Lib.hid hnn
  clear hnn
  go_enter Tryd.func36, Tryd.ntmps36
  go_wp2_with fail
  refine (HF.out _ ((Grows.refl _).alloc _)).mono ?_
  rintro e w1 ⟨A1, c1, rfl, hv1, g1, _⟩
  have HG0 : Hid (Grows (w.alloc (fbox A n c)) w1) := g1
  have HV1 := Lib.hid hv1
  have HG1 : Hid (Grows w w1) := ((Grows.refl _).alloc _).trans g1
  clear g1 hv1
  rw [ints_length]
  obtain ⟨p, hp⟩ : ∃ p, L.length = p := ⟨_, rfl⟩
  rw [hp]
  rw [hp] at hL
  have HP := Lib.hid hp
  clear hp
  go_wp2_with fail
  go_loopw [5, 12] (fun v i wr => ∃ (j : Nat) (K : List ByteArray), j ≤ p ∧ i = .int .i64 j ∧ Hid (K = keysBy ls (L.take j)) ∧ K.length ≤ j ∧ Hid (OwnS wr w1.heap.size v K) ∧ Hid (Grows w1 wr)) (fun _ i _ => p - (intOf i).toNat)
  case atStart => exact ⟨0, [], Nat.zero_le _, rfl, rfl, Nat.zero_le _, OwnS.nil _ _, Grows.refl _⟩
  case round =>
    obtain ⟨j, K, hj, rfl, HK, hKj, HO, HG⟩ := hrel
    have hb0 : wr.cell? ⟨w.heap.size, 0, none⟩ = some (.slice A n c) := ((HG0.out.trans HG.out).cell (p := ⟨w.heap.size, 0, none⟩) (by simp)).trans (by simp [fbox])
    by_cases hlt : j < p
    · have hjL : j < L.length := by rw [HP.out]; exact hlt
      have hx := HLT.out j hjL
      have hTS : L.take (j + 1) = L.take j ++ [L[j]] := List.take_succ_eq_append_getElem hjL
      obtain ⟨b1, o1, rfl, hb1, hc1⟩ := HV1.out (by rw [ints_length]; omega)
      have d0 := hc1 j (by rw [ints_length]; exact hjL)
      have hix : (ints L)[j]'(by rw [ints_length]; exact hjL) = Value.int .i64 (L[j] : Int) := by simp [ints]
      rw [hix] at d0
      obtain ⟨x, hxx⟩ : ∃ x, L[j] = x := ⟨_, rfl⟩
      rw [hxx] at hx hTS d0
      have d1 : wr.cell? ⟨b1, o1 + j, none⟩ = some (.int .i64 x) := (HG.out.cell (p := ⟨b1, o1 + j, none⟩) hb1).trans d0
      obtain ⟨b, o, rfl, hb, hc⟩ := HA.out (by rw [HN.out]; omega)
      have hk2 : x < ls.length := by rw [HN.out]; exact hx
      have hsu := get_bang hk2
      obtain ⟨l, hl⟩ : ∃ l, ls[x] = l := ⟨_, rfl⟩
      have hat := (hc x hk2).keep hb (HG1.out.trans HG.out)
      rw [hl] at hat hsu
      obtain ⟨c0, c1', c2, c3, c4, c5⟩ := hat
      have HST : Hid (keysBy ls (L.take (j + 1)) = if (l.k == 3) = true then addT K l.na else K) := by
        unfold Hid
        rw [hTS, keysBy_snoc, hsu, ← HK.out]
      clear hl hc hc1 hix d0 hxx hTS hsu
      by_cases h3 : (l.k == 3) = true
      · have HS2 : Hid (keysBy ls (L.take (j + 1)) = addT K l.na) := by unfold Hid; rw [HST.out, if_pos h3]
        have HC := Lib.hid (fun v (h : OwnS wr w1.heap.size v K) => addOnce_any v w1.heap.size K l.na wr (by omega) HG.out.size h)
        have hle := addT_le K l.na
        go_wp2_with fail
        refine (HC.out _ HO.out).mono ?_
        rintro e w2 ⟨v', rfl, ho2, hb2⟩
        have HO2 := Lib.hid ho2
        have HG2 : Hid (Grows w1 w2) := Below.trans HG.out hb2
        clear ho2 hb2
        go_wp2
        go_roundw
        case rel => exact ⟨j + 1, addT K l.na, by omega, by go_num, HS2.out.symm, by omega, HO2.out, HG2.out⟩
        case measure => simp [intOf]; omega
      · have h3' : (l.k == 3) = false := by simpa using h3
        have HS2 : Hid (keysBy ls (L.take (j + 1)) = K) := by unfold Hid; rw [HST.out, if_neg h3]
        clear h3
        go_wp2
        go_roundw
        case rel => exact ⟨j + 1, K, by omega, by go_num, HS2.out.symm, by omega, HO.out, HG.out⟩
        case measure => simp [intOf]; omega
    · obtain rfl : j = p := by omega
      have HRR : Hid (K = keysOf' ls s) := by
        unfold Hid
        rw [← HE.out, HK.out, ← HP.out, List.take_length]
      go_wp2
      go_ret
      rw [← HRR.out]
      exact ⟨_, rfl, HO.out.less HG1.out.size, HG1.out.trans HG.out⟩

theorem keysOf_le (ls : List Ln) (s : ByteArray) : (keysOf' ls s).length ≤ ls.length := by
  unfold keysOf'
  split
  · exact keysTo_le _ _ _
  · exact Nat.zero_le _
theorem Grows.mark {a b c : World} {row : Option Nat} (h : Grows a b) (hg : b.grownBy c row) (hr : ∀ k, row = some k → a.heap.size ≤ k) : Grows a c := Below.grown h hg h.size hr
theorem OwnS.far {a b : World} {base : Nat} {v : Value} {xs : List ByteArray} {row : Option Nat} (h : OwnS a base v xs) (hg : a.grownBy b row) (hne : ∀ k, v.ownBlock = some k → row ≠ some k) : OwnS b base v xs := by
  refine World.ownsRow.kept h hg ?_
  rcases hb : v.ownBlock with _ | k
  · exact .inl rfl
  · exact .inr (fun e => hne k hb e.symm)
end Go.Proofs.YtclopcbpelhiaaaDoor
namespace Go.Proofs.YtclopcbpelhiaaaDoor
open Go.RowKit
theorem nul_eq {s : ByteArray} (h : nul s = true) : s = ⟨#[]⟩ := by
  unfold nul at h
  rw [Lib.toList_data] at h
  obtain ⟨⟨d⟩⟩ := s
  have : d = [] := by simpa using h
  rw [this]

theorem ta_0_0 (v : Value) (w : World) : (Instr.typeAssert (.iface 98 v) 77 98 true).run Tryd.prog w = .ok (.tuple #[v, .bool true]) w := by kernel_rfl
theorem ta_0_1 (v : Value) (w : World) : (Instr.typeAssert (.iface 98 v) 77 100 true).run Tryd.prog w = .ok (.tuple #[.agg #[.string ⟨#[]⟩, .string ⟨#[]⟩], .bool false]) w := by kernel_rfl
theorem ta_0_2 (v : Value) (w : World) : (Instr.typeAssert (.iface 98 v) 77 80 true).run Tryd.prog w = .ok (.tuple #[.agg #[.string ⟨#[]⟩, .string ⟨#[]⟩, .string ⟨#[]⟩], .bool false]) w := by kernel_rfl
theorem ta_0_3 (v : Value) (w : World) : (Instr.typeAssert (.iface 98 v) 77 83 true).run Tryd.prog w = .ok (.tuple #[.agg #[.string ⟨#[]⟩, .string ⟨#[]⟩, .string ⟨#[]⟩, .string ⟨#[]⟩, .string ⟨#[]⟩], .bool false]) w := by kernel_rfl
theorem ta_1_0 (v : Value) (w : World) : (Instr.typeAssert (.iface 100 v) 77 98 true).run Tryd.prog w = .ok (.tuple #[.agg #[.string ⟨#[]⟩], .bool false]) w := by kernel_rfl
theorem ta_1_1 (v : Value) (w : World) : (Instr.typeAssert (.iface 100 v) 77 100 true).run Tryd.prog w = .ok (.tuple #[v, .bool true]) w := by kernel_rfl
theorem ta_1_2 (v : Value) (w : World) : (Instr.typeAssert (.iface 100 v) 77 80 true).run Tryd.prog w = .ok (.tuple #[.agg #[.string ⟨#[]⟩, .string ⟨#[]⟩, .string ⟨#[]⟩], .bool false]) w := by kernel_rfl
theorem ta_1_3 (v : Value) (w : World) : (Instr.typeAssert (.iface 100 v) 77 83 true).run Tryd.prog w = .ok (.tuple #[.agg #[.string ⟨#[]⟩, .string ⟨#[]⟩, .string ⟨#[]⟩, .string ⟨#[]⟩, .string ⟨#[]⟩], .bool false]) w := by kernel_rfl
theorem ta_2_0 (v : Value) (w : World) : (Instr.typeAssert (.iface 80 v) 77 98 true).run Tryd.prog w = .ok (.tuple #[.agg #[.string ⟨#[]⟩], .bool false]) w := by kernel_rfl
theorem ta_2_1 (v : Value) (w : World) : (Instr.typeAssert (.iface 80 v) 77 100 true).run Tryd.prog w = .ok (.tuple #[.agg #[.string ⟨#[]⟩, .string ⟨#[]⟩], .bool false]) w := by kernel_rfl
theorem ta_2_2 (v : Value) (w : World) : (Instr.typeAssert (.iface 80 v) 77 80 true).run Tryd.prog w = .ok (.tuple #[v, .bool true]) w := by kernel_rfl
theorem ta_2_3 (v : Value) (w : World) : (Instr.typeAssert (.iface 80 v) 77 83 true).run Tryd.prog w = .ok (.tuple #[.agg #[.string ⟨#[]⟩, .string ⟨#[]⟩, .string ⟨#[]⟩, .string ⟨#[]⟩, .string ⟨#[]⟩], .bool false]) w := by kernel_rfl
theorem ta_3_0 (v : Value) (w : World) : (Instr.typeAssert (.iface 83 v) 77 98 true).run Tryd.prog w = .ok (.tuple #[.agg #[.string ⟨#[]⟩], .bool false]) w := by kernel_rfl
theorem ta_3_1 (v : Value) (w : World) : (Instr.typeAssert (.iface 83 v) 77 100 true).run Tryd.prog w = .ok (.tuple #[.agg #[.string ⟨#[]⟩, .string ⟨#[]⟩], .bool false]) w := by kernel_rfl
theorem ta_3_2 (v : Value) (w : World) : (Instr.typeAssert (.iface 83 v) 77 80 true).run Tryd.prog w = .ok (.tuple #[.agg #[.string ⟨#[]⟩, .string ⟨#[]⟩, .string ⟨#[]⟩], .bool false]) w := by kernel_rfl
theorem ta_3_3 (v : Value) (w : World) : (Instr.typeAssert (.iface 83 v) 77 83 true).run Tryd.prog w = .ok (.tuple #[v, .bool true]) w := by kernel_rfl

theorem vline_0 {le na se va ta : ByteArray} (h : vline ⟨0, le, na, se, va, ta⟩ = true) : na = ⟨#[]⟩ ∧ se = ⟨#[]⟩ ∧ va = ⟨#[]⟩ ∧ ta = ⟨#[]⟩ := by
  have h : (vspaces le && (nul na && (nul se && (nul va && nul ta)))) = true := h
  simp only [Bool.and_eq_true] at h
  exact ⟨nul_eq h.2.1, nul_eq h.2.2.1, nul_eq h.2.2.2.1, nul_eq h.2.2.2.2⟩
theorem vline_1 {le na se va ta : ByteArray} (h : vline ⟨1, le, na, se, va, ta⟩ = true) : na = ⟨#[]⟩ ∧ se = ⟨#[]⟩ ∧ ta = ⟨#[]⟩ := by
  have h : (vspaces le && (nul na && (nul se && (nul ta && vnote va)))) = true := h
  simp only [Bool.and_eq_true] at h
  exact ⟨nul_eq h.2.1, nul_eq h.2.2.1, nul_eq h.2.2.2.1⟩
theorem vline_2 {le na se va ta : ByteArray} (h : vline ⟨2, le, na, se, va, ta⟩ = true) : se = ⟨#[]⟩ ∧ va = ⟨#[]⟩ := by
  have h : (vspaces le && (vname na && (nul se && (nul va && vspaces ta)))) = true := h
  simp only [Bool.and_eq_true] at h
  exact ⟨nul_eq h.2.2.1, nul_eq h.2.2.2.1⟩
theorem vline_k {l : Ln} (h : vline l = true) : l.k = 0 ∨ l.k = 1 ∨ l.k = 2 ∨ l.k = 3 := by
  by_cases k0 : l.k = 0
  · exact .inl k0
  by_cases k1 : l.k = 1
  · exact .inr (.inl k1)
  by_cases k2 : l.k = 2
  · exact .inr (.inr (.inl k2))
  by_cases k3 : l.k = 3
  · exact .inr (.inr (.inr k3))
  · unfold vline at h
    rw [if_neg k0, if_neg k1, if_neg k2, if_neg k3, Bool.and_false] at h
    cases h

end Go.Proofs.YtclopcbpelhiaaaDoor
namespace Go.Proofs.YtclopcbpelhiaaaDoor
open Go.RowKit

/-- line k is of those that begin or fill a section -/
def secLine (ls : List Ln) (k : Nat) : Bool := ls[k]!.k == 2 || ls[k]!.k == 3
/-- the sections among the first k lines -/
def secsTo (ls : List Ln) : Nat → List ByteArray
  | 0 => []
  | k + 1 => if secLine ls k = true then addT (secsTo ls k) (nowAt ls (k + 1)) else secsTo ls k
theorem secsTo_yes {ls : List Ln} {k : Nat} (h : secLine ls k = true) : secsTo ls (k + 1) = addT (secsTo ls k) (nowAt ls (k + 1)) := by
  show (if _ then _ else _) = _
  rw [if_pos h]
theorem secsTo_no {ls : List Ln} {k : Nat} (h : secLine ls k = false) : secsTo ls (k + 1) = secsTo ls k := by
  show (if _ then _ else _) = _
  rw [if_neg (by rw [h]; simp)]
theorem secsTo_le (ls : List Ln) (k : Nat) : (secsTo ls k).length ≤ k := by
  induction k with
  | zero => exact Nat.le_refl _
  | succ k ih =>
    by_cases h : secLine ls k = true
    · rw [secsTo_yes h]
      have := addT_le (secsTo ls k) (nowAt ls (k + 1))
      omega
    · rw [secsTo_no (by simpa using h)]; omega
/-- the sections of a file, none if it is not valid -/
def secsOf' (ls : List Ln) : List ByteArray := if vfile ls = true then secsTo ls ls.length else []
theorem secsOf_le (ls : List Ln) : (secsOf' ls).length ≤ ls.length := by
  unfold secsOf'
  split
  · exact secsTo_le _ _
  · exact Nat.zero_le _
theorem vfile_line {ls : List Ln} (hv : vfile ls = true) : ∀ i (h : i < ls.length), vline ls[i] = true := by
  have h1 : vlines ls = true := by
    unfold vfile at hv
    rw [Bool.and_eq_true] at hv
    exact hv.1
  unfold vlines at h1
  rw [List.all_eq_true] at h1
  exact fun i hi => h1 _ (List.getElem_mem hi)

set_option maxRecDepth 100000 in
set_option maxHeartbeats 4000000 in
theorem implSecs_any (A : Option Addr) (c : Nat) (ls : List Ln) (w : World) (hf : AllFit ls) (hA : LnsAt w A ls) :
    Calls Tryd.prog 17 #[.agg #[.slice A ls.length c]] w (StrsRet (secsOf' ls) w) := by
  have HF := Lib.hid (fun w1 (g : Grows w w1) => implFile_any A c ls w1 hf (hA.keep g))
  have HA := Lib.hid hA
  have hn : ls.length ≤ 1048576 := hf.1
  clear hA hf
  by_cases hv : vfile ls = true
  · rw [hv] at HF
    have HV : Hid (secsOf' ls = secsTo ls ls.length) := by unfold Hid secsOf'; rw [if_pos hv]
    have HVL := Lib.hid (vfile_line hv)
    clear hv
    obtain ⟨n, hnn⟩ : ∃ n, ls.length = n := ⟨_, rfl⟩
    rw [hnn] at hn HF HV
    rw [hnn]
    have HN := Lib.hid hnn
    clear hnn
    go_enter Tryd.func17, Tryd.ntmps17
    go_wp2_with fail
    refine (HF.out _ ((Grows.refl _).alloc _)).mono ?_
    rintro e w1 ⟨rfl, g1⟩
    have hx1 : w1.cell? ⟨w.heap.size, 0, none⟩ = some (.slice A n c) := (g1.cell (p := ⟨w.heap.size, 0, none⟩) (by simp)).trans (by simp)
    have HG1 : Hid (Grows w w1) := ((Grows.refl _).alloc _).trans g1
    clear g1
    go_wp2_with fail
    go_loopw [3, 4, 15] (fun v nw i wr => ∃ (j : Nat) (t : ByteArray) (K : List ByteArray), j ≤ n ∧ i = .int .i64 j ∧ nw = .string t ∧ Hid (t = nowAt ls j) ∧ Hid (K = secsTo ls j) ∧ K.length ≤ j ∧ Hid (OwnS wr w1.heap.size v K) ∧ Hid (Grows w1 wr)) (fun _ _ i _ => n - (intOf i).toNat)
    case atStart => exact ⟨0, ⟨#[]⟩, [], Nat.zero_le _, rfl, rfl, rfl, rfl, Nat.zero_le _, OwnS.nil _ _, Grows.refl _⟩
    case round =>
      obtain ⟨j, t, K, hj, rfl, rfl, HT, HK, hKj, HO, HG⟩ := hrel
      clear hx1
      by_cases hlt : j < n
      · obtain ⟨b, o, rfl, hb, hc⟩ := HA.out (by rw [HN.out]; omega)
        have hk2 : j < ls.length := by rw [HN.out]; exact hlt
        have hsu := get_bang hk2
        have hnw := nowAt_succ hk2
        have hvl := HVL.out j hk2
        obtain ⟨l, hl⟩ : ∃ l, ls[j] = l := ⟨_, rfl⟩
        have hat := (hc j hk2).keep hb (HG1.out.trans HG.out)
        rw [hl] at hat hsu hnw hvl
        obtain ⟨c0, c1, c2, c3, c4, c5⟩ := hat
        have HST : Hid (secsTo ls (j + 1) = if (l.k == 2 || l.k == 3) = true then addT K (nowAt ls (j + 1)) else K) := by
          unfold Hid
          rw [← hsu, HK.out]; rfl
        have HSU := Lib.hid hnw
        clear hl hc hsu hnw
        have hkk := vline_k hvl
        obtain ⟨lk, le, na, se, va, ta⟩ := l
        rcases hkk with rfl | rfl | rfl | rfl
        · obtain ⟨rfl, rfl, rfl, rfl⟩ := vline_0 hvl
          have HFO := Lib.hid (fun w => formOf_0 le ⟨#[]⟩ ⟨#[]⟩ ⟨#[]⟩ ⟨#[]⟩ w)
          unfold Ln.agg Ln.box at HFO
          have t2 := ta_0_2 (.agg #[.string le])
          have t3 := ta_0_3 (.agg #[.string le])
          have HNW : Hid (nowAt ls (j + 1) = t) := (HSU.out.trans (if_neg (by simp))).trans HT.out.symm
          have HS2 : Hid (secsTo ls (j + 1) = K) := HST.out
          clear hvl
          go_wp2_with (go_at_call 44; refine (HFO.out _).mono ?_; rintro e w' ⟨rfl, rfl⟩)
          go_roundw
          case rel => exact ⟨j + 1, t, K, by omega, by go_num, rfl, HNW.out.symm, HS2.out.symm, by omega, by repeat (first | exact HO.out | exact HO.out.keep (by repeat (first | exact Grows.refl _ | refine Grows.alloc ?_ _))), by repeat (first | exact HG.out | refine Grows.alloc ?_ _)⟩
          case measure => simp [intOf]; omega
        · obtain ⟨rfl, rfl, rfl⟩ := vline_1 hvl
          have HFO := Lib.hid (fun w => formOf_1 le ⟨#[]⟩ ⟨#[]⟩ va ⟨#[]⟩ w)
          unfold Ln.agg Ln.box at HFO
          have t2 := ta_1_2 (.agg #[.string le, .string va])
          have t3 := ta_1_3 (.agg #[.string le, .string va])
          have HNW : Hid (nowAt ls (j + 1) = t) := (HSU.out.trans (if_neg (by simp))).trans HT.out.symm
          have HS2 : Hid (secsTo ls (j + 1) = K) := HST.out
          clear hvl
          go_wp2_with (go_at_call 44; refine (HFO.out _).mono ?_; rintro e w' ⟨rfl, rfl⟩)
          go_roundw
          case rel => exact ⟨j + 1, t, K, by omega, by go_num, rfl, HNW.out.symm, HS2.out.symm, by omega, by repeat (first | exact HO.out | exact HO.out.keep (by repeat (first | exact Grows.refl _ | refine Grows.alloc ?_ _))), by repeat (first | exact HG.out | refine Grows.alloc ?_ _)⟩
          case measure => simp [intOf]; omega
        · obtain ⟨rfl, rfl⟩ := vline_2 hvl
          have HFO := Lib.hid (fun w => formOf_2 le na ⟨#[]⟩ ⟨#[]⟩ ta w)
          unfold Ln.agg Ln.box at HFO
          have t2 := ta_2_2 (.agg #[.string le, .string na, .string ta])
          have HNW : Hid (nowAt ls (j + 1) = na) := HSU.out.trans (if_pos rfl)
          have HS2 : Hid (secsTo ls (j + 1) = addT K na) := by unfold Hid; rw [HST.out, HNW.out]; rfl
          have HD := Lib.hid (fun v w2 (hg : Grows wr w2) (h : OwnS wr w1.heap.size v K) => addOnce_any v w1.heap.size K na w2 (by omega) (Nat.le_trans HG.out.size hg.size) (h.keep hg))
          have hle := addT_le K na
          clear hvl
          go_wp2_with (first | (go_at_call 44; refine (HFO.out _).mono ?_; rintro e w' ⟨rfl, rfl⟩) | (go_at_call 45; refine (HD.out _ _ (by repeat (first | exact Grows.refl _ | refine Grows.alloc ?_ _)) HO.out).mono ?_; rintro e w3 ⟨v', rfl, ho2, hb3⟩))
          have HG3 : Hid (Grows w1 w3) := Below.trans (show Grows w1 _ from by repeat (first | exact HG.out | refine Grows.alloc ?_ _)) hb3
          go_roundw
          case rel => exact ⟨j + 1, na, addT K na, by omega, by go_num, rfl, HNW.out.symm, HS2.out.symm, by omega, ho2, HG3.out⟩
          case measure => simp [intOf]; omega
        · have HFO := Lib.hid (fun w => formOf_3 le na se va ta w)
          unfold Ln.agg Ln.box at HFO
          have t2 := ta_3_2 (.agg #[.string le, .string na, .string se, .string va, .string ta])
          have t3 := ta_3_3 (.agg #[.string le, .string na, .string se, .string va, .string ta])
          have HNW : Hid (nowAt ls (j + 1) = t) := (HSU.out.trans (if_neg (by simp))).trans HT.out.symm
          have HS2 : Hid (secsTo ls (j + 1) = addT K t) := by unfold Hid; rw [HST.out, HNW.out]; rfl
          have HD := Lib.hid (fun v w2 (hg : Grows wr w2) (h : OwnS wr w1.heap.size v K) => addOnce_any v w1.heap.size K t w2 (by omega) (Nat.le_trans HG.out.size hg.size) (h.keep hg))
          have hle := addT_le K t
          clear hvl
          go_wp2_with (first | (go_at_call 44; refine (HFO.out _).mono ?_; rintro e w' ⟨rfl, rfl⟩) | (go_at_call 45; refine (HD.out _ _ (by repeat (first | exact Grows.refl _ | refine Grows.alloc ?_ _)) HO.out).mono ?_; rintro e w3 ⟨v', rfl, ho2, hb3⟩))
          have HG3 : Hid (Grows w1 w3) := Below.trans (show Grows w1 _ from by repeat (first | exact HG.out | refine Grows.alloc ?_ _)) hb3
          go_roundw
          case rel => exact ⟨j + 1, t, addT K t, by omega, by go_num, rfl, HNW.out.symm, HS2.out.symm, by omega, ho2, HG3.out⟩
          case measure => simp [intOf]; omega
      · obtain rfl : j = n := by omega
        go_wp2
        go_ret
        rw [HV.out, ← HK.out]
        exact ⟨_, rfl, HO.out.less HG1.out.size, HG1.out.trans HG.out⟩
  · have hv' : vfile ls = false := by simpa using hv
    rw [hv'] at HF
    have HV : Hid (secsOf' ls = []) := by unfold Hid secsOf'; rw [if_neg hv]
    clear hv hv'
    go_enter Tryd.func17, Tryd.ntmps17
    go_wp2_with fail
    refine (HF.out _ ((Grows.refl _).alloc _)).mono ?_
    rintro e w1 ⟨rfl, g1⟩
    go_wp2
    go_ret
    rw [HV.out]
    exact ⟨_, rfl, OwnS.nil _ _, ((Grows.refl _).alloc _).trans g1⟩
end Go.Proofs.YtclopcbpelhiaaaDoor
namespace Go.Proofs.YtclopcbpelhiaaaDoor
open Go.RowKit

theorem gb_of2 {w a : World} (h : Grows w a) (row : Option Nat) : w.grownBy a row := ⟨h.os, h.tape, h.output, h.size, fun i hi _ => h.block i hi⟩
theorem OwnL.nil (w : World) (base : Nat) : OwnL w base (.slice none 0 0) [] := World.ownsRow_nil _ _ _ _
theorem OwnL.empty (w : World) (base : Nat) (hb : base ≤ w.heap.size) : OwnL (w.alloc (.cells #[] 60)) base (.slice (some ⟨w.heap.size, 0, none⟩) 0 0) [] :=
  World.ownsRow_lit w #[] 0 hb (Nat.zero_le _) rfl
theorem OwnL.less {w : World} {base base' : Nat} {v : Value} {xs : List Ln} (h : OwnL w base v xs) (hb : base' ≤ base) : OwnL w base' v xs := by
  refine ⟨h.1, ?_⟩
  rcases h.2 with h2 | ⟨g, cap, cur, hv, hg, hr⟩
  · exact .inl h2
  · exact .inr ⟨g, cap, cur, hv, by omega, hr⟩
theorem OwnL.far {a b : World} {base : Nat} {v : Value} {xs : List Ln} {row : Option Nat} (h : OwnL a base v xs) (hg : a.grownBy b row) (hne : ∀ k, v.ownBlock = some k → row ≠ some k) : OwnL b base v xs := by
  refine World.ownsRow.kept h hg ?_
  rcases hb : v.ownBlock with _ | k
  · exact .inl rfl
  · exact .inr (fun e => hne k hb e.symm)
theorem OwnL.form {w : World} {base : Nat} {v : Value} {ls : List Ln} (h : OwnL w base v ls) : ∃ A c, v = .slice A ls.length c ∧ LnsAt w A ls := by
  obtain ⟨A, c, rfl, _⟩ := OwnR.form h
  exact ⟨A, c, rfl, OwnL.at h⟩
theorem OwnL.form3 {w : World} {base : Nat} {v : Value} {ls : List Ln} (h : OwnL w base v ls) : ∃ A n c, v = .slice A n c := by
  obtain ⟨A, c, rfl, _⟩ := OwnR.form h
  exact ⟨A, _, c, rfl⟩
theorem OwnL.form4 {w : World} {base : Nat} {v : Value} {ls : List Ln} (h : OwnL w base v ls) : ∃ A c, v = .slice A ls.length c ∧ LnsAt w A ls ∧ ls.length ≤ c ∧ c ≤ maxLen ∧ (ls.length < c → ∃ b, A = some ⟨b, 0, none⟩) := by
  rcases h.2 with ⟨hv, hn⟩ | ⟨g, cap, cur, hv, _, _, h1, h2, _⟩
  · subst hv
    exact ⟨none, 0, by rw [hn], fun h0 => absurd h0 (by omega), by omega, Nat.zero_le _, fun h0 => absurd h0 (by omega)⟩
  · subst hv
    exact ⟨_, cap, rfl, OwnL.at h, h1, h2, fun _ => ⟨g, rfl⟩⟩
theorem OwnL.lt {w : World} {base : Nat} {v : Value} {ls : List Ln} (h : OwnL w base v ls) : ∀ k, v.ownBlock = some k → base ≤ k ∧ k < w.heap.size := World.ownsRow.lt h

/-- the rows of two values are not the same block -/
def Apart (v u : Value) : Prop := ∀ k, v.ownBlock = some k → u.ownBlock ≠ some k
/-- the row of the new value is the old one's, or it is new -/
def Near (v v' : Value) (w : World) : Prop := ∀ k, v'.ownBlock = some k → v.ownBlock = some k ∨ k = w.heap.size
theorem near_of {v : Value} {g n c : Nat} {w : World} (h : v.ownBlock = some g ∨ g = w.heap.size) : Near v (.slice (some ⟨g, 0, none⟩) n c) w := fun k hk => by
  injection hk with hk
  subst hk
  exact h
theorem Apart.less {v u : Value} {b : Nat} (hv : ∀ k, v.ownBlock = some k → k < b) (hu : ∀ k, u.ownBlock = some k → b ≤ k) : Apart v u := fun k hk e => by
  have := hv k hk
  have := hu k e
  omega
theorem Apart.more {v u : Value} {b : Nat} (hv : ∀ k, v.ownBlock = some k → b ≤ k) (hu : ∀ k, u.ownBlock = some k → k < b) : Apart v u := fun k hk e => by
  have := hv k hk
  have := hu k e
  omega
theorem Apart.near {v v' u : Value} {w : World} (h : Apart v u) (hn : Near v v' w) (hu : ∀ k, u.ownBlock = some k → k < w.heap.size) : Apart v' u := fun k hk e => by
  rcases hn k hk with h1 | h1
  · exact h k h1 e
  · have := hu k e
    omega
/-- a call's end: it returns a file in a row of the call's own -/
def ResL (ls : List Ln) (w : World) (e : Ending) (w' : World) : Prop := ∃ v, e = .returned (.agg #[v]) ∧ OwnL w' w.heap.size v ls ∧ Grows w w'
/-- a call's end: it returns a file in a row of the call's own, and a Bool -/
def ResLB (ls : List Ln) (b : Bool) (w : World) (e : Ending) (w' : World) : Prop := ∃ v, e = .returned (.tuple #[.agg #[v], .bool b]) ∧ OwnL w' w.heap.size v ls ∧ Grows w w'

theorem lcell_one (l : Ln) : ∀ u ∈ lcell l, u.oneCell' = true := by
  intro u hu
  simp [lcell] at hu
  rcases hu with rfl | rfl | rfl | rfl | rfl | rfl <;> rfl
theorem lcells_one (ls : List Ln) : ∀ u ∈ lcells ls, u.oneCell' = true := by
  induction ls with
  | nil => intro u hu; simp [lcells] at hu
  | cons l ls ih =>
    intro u hu
    rw [lcells, List.mem_append] at hu
    rcases hu with h | h
    · exact lcell_one l u h
    · exact ih u h
theorem LnAt.cells {w : World} {b o : Nat} {l : Ln} (h : LnAt w b o l) : ∀ j u, (lcell l)[j]? = some u → w.cell? ((⟨b, o, none⟩ : Addr).add j) = some u := by
  obtain ⟨h0, h1, h2, h3, h4, h5⟩ := h
  intro j u hj
  match j, hj with
  | 0, hj => simp [lcell] at hj; subst hj; simpa [Addr.add] using h0
  | 1, hj => simp [lcell] at hj; subst hj; simpa [Addr.add] using h1
  | 2, hj => simp [lcell] at hj; subst hj; simpa [Addr.add] using h2
  | 3, hj => simp [lcell] at hj; subst hj; simpa [Addr.add] using h3
  | 4, hj => simp [lcell] at hj; subst hj; simpa [Addr.add] using h4
  | 5, hj => simp [lcell] at hj; subst hj; simpa [Addr.add] using h5
  | j + 6, hj => simp [lcell] at hj
theorem LnsAt.cells {w : World} {b o : Nat} {ls : List Ln} (h : ∀ i (h : i < ls.length), LnAt w b (o + i * 6) ls[i]) : ∀ j u, (lcells ls)[j]? = some u → w.cell? ((⟨b, o, none⟩ : Addr).add j) = some u := by
  intro j u hj
  have hlt : j < ls.length * 6 := by
    rw [← lcells_length]
    rcases Nat.lt_or_ge j (lcells ls).length with h | h
    · exact h
    · rw [List.getElem?_eq_none h] at hj; cases hj
  have hi : j / 6 < ls.length := by omega
  have hd : j % 6 < 6 := Nat.mod_lt _ (by omega)
  have hjj : j / 6 * 6 + j % 6 = j := by omega
  have hg := lcells_get ls (j / 6) hi (j % 6) hd
  rw [hjj, hj] at hg
  have := (h (j / 6) hi).cells (j % 6) u hg.symm
  have e : (⟨b, o + j / 6 * 6, none⟩ : Addr).add (j % 6) = (⟨b, o, none⟩ : Addr).add j := by
    have ha : ∀ (x y z : Nat), (⟨x, y, none⟩ : Addr).add z = ⟨x, y + z, none⟩ := fun x y z => by unfold Addr.add; split <;> simp_all
    rw [ha, ha, show o + j / 6 * 6 + j % 6 = o + j from by omega]
  rw [← e]
  exact this

theorem lcells_append (a b : List Ln) : lcells (a ++ b) = lcells a ++ lcells b := by
  induction a with
  | nil => rfl
  | cons y a ih => simp [lcells, ih, List.append_assoc]
/-- one more line, or several: append to a row of the call's own -/
theorem appLs {w : World} {ops : Array Oper} {rest : List Oper} {o : Oper} {a : Act} {Q : Exit → Act → World → Prop} (hgd : o.guard = none) (s x : Operand)
    (ho : o.op = .call { callee := .builtin .append, args := #[s, x], argTypes := #[23, 23] })
    (base : Nat) (v : Value) (K : List Ln) (hs : a.eval s = v) (hown : OwnL w base v K) (ad : Addr) (m c : Nat) (ns : List Ln) (hx : a.eval x = .slice (some ad) m c) (hm : ns.length = m) (hm0 : 0 < m)
    (hnews : ∀ j u, (lcells ns)[j]? = some u → w.cell? (ad.add j) = some u) (hK : K.length ≤ 4194304) (hm2 : m ≤ 1048576) (hbase : base ≤ w.heap.size)
    (h : ∀ v' w', Hid (OwnL w' base v' (K ++ ns)) → Hid (w.grownBy w' v.ownBlock) → Hid (Near v v' w) → wpList Tryd.prog ops Q rest (a.put o.dst v') w') : wpList Tryd.prog ops Q (o :: rest) a w := by
  obtain ⟨i0, hi, hz0, hz1, hz2⟩ := info_parts infoLine
  refine wpList_append_lies _ hgd s x 23 ho base 60 i0 Ln.zero.agg 6 88 Tryd.underlying23 hi hz0 hz1 hz2 rfl (by decide) v K.length (lcells K) hs hown ad m c (lcells ns) hx (by rw [lcells_length, hm]) hnews (lcells_one ns) hm0 (by unfold maxLen; omega) (by omega) hbase _ rfl ?_
  intro g cap w' h1 h2 h3 _
  refine h _ w' ?_ h2 (near_of h3)
  unfold Hid OwnL OwnR
  rw [List.length_append, lcells_append, hm]
  exact h1
/-- the same, as one step of a region that draws its order -/
theorem stepLs {w : World} {ops : Array Oper} {o : Oper} {a : Act} {KK : Act → World → Prop} {Q : Exit → Act → World → Prop} {E : Prop} (hgd : o.guard = none) (s x : Operand)
    (ho : o.op = .call { callee := .builtin .append, args := #[s, x], argTypes := #[23, 23] })
    (base : Nat) (v : Value) (K : List Ln) (hs : a.eval s = v) (hown : OwnL w base v K) (ad : Addr) (m c : Nat) (ns : List Ln) (hx : a.eval x = .slice (some ad) m c) (hm : ns.length = m) (hm0 : 0 < m)
    (hnews : ∀ j u, (lcells ns)[j]? = some u → w.cell? (ad.add j) = some u) (hK : K.length ≤ 4194304) (hm2 : m ≤ 1048576) (hbase : base ≤ w.heap.size)
    (h : ∀ v' w', Hid (OwnL w' base v' (K ++ ns)) → Hid (w.grownBy w' v.ownBlock) → Hid (Near v v' w) → KK (a.put o.dst v') w') : if Region.wanted o (yielded ops a.tmps) = true then Oper.wp Tryd.prog o a w KK Q else E := by
  obtain ⟨i0, hi, hz0, hz1, hz2⟩ := info_parts infoLine
  refine step_append_lies _ hgd s x 23 ho base 60 i0 Ln.zero.agg 6 88 Tryd.underlying23 hi hz0 hz1 hz2 rfl (by decide) v K.length (lcells K) hs hown ad m c (lcells ns) hx (by rw [lcells_length, hm]) hnews (lcells_one ns) hm0 (by unfold maxLen; omega) (by omega) hbase _ rfl ?_
  intro g cap w' h1 h2 h3 _
  refine h _ w' ?_ h2 (near_of h3)
  unfold Hid OwnL OwnR
  rw [List.length_append, lcells_append, hm]
  exact h1

/-- block b is a box of one cell -/
def Box (w : World) (b : Nat) (v : Value) (T : TypeId) : Prop := w.heap[b]? = some (.cells #[v] T (0, 0))
theorem Box.lt {w : World} {b : Nat} {v : Value} {T : TypeId} (h : Box w b v T) : b < w.heap.size := by
  rcases Nat.lt_or_ge b w.heap.size with hlt | hge
  · exact hlt
  · unfold Box at h; rw [Array.getElem?_eq_none hge] at h; cases h
theorem Box.cell {w : World} {b : Nat} {v : Value} {T : TypeId} (h : Box w b v T) : w.cell? ⟨b, 0, none⟩ = some v := by
  rw [cell_of_row w b 0 _ _ _ h]; rfl
theorem Box.free {w : World} {b : Nat} {v : Value} {T : TypeId} (h : Box w b v T) : w.frozen? ⟨b, 0, none⟩ = false := frozen_of_row w b 0 _ _ h
theorem Box.keep {w w' : World} {b : Nat} {v : Value} {T : TypeId} (h : Box w b v T) (g : Grows w w') : Box w' b v T := (g.block b h.lt).trans h
theorem Box.far {w w' : World} {b : Nat} {v : Value} {T : TypeId} {row : Option Nat} (h : Box w b v T) (g : w.grownBy w' row) (hne : row ≠ some b) : Box w' b v T := (g.block b h.lt (by first | exact hne | exact fun e => hne e.symm)).trans h
theorem Box.set_ {w : World} {b : Nat} {v : Value} {T : TypeId} (h : Box w b v T) (u : Value) : Box (w.setCell ⟨b, 0, none⟩ u) b u T := by
  unfold Box
  unfold Box at h
  simp [World.setCell, Array.getElem?_modify, h]
theorem Box.new (w : World) (v : Value) (T : TypeId) : Box (w.alloc (.cells #[v] T)) w.heap.size v T := heap_alloc_new w _
theorem OwnL.setFar {w : World} {base : Nat} {v : Value} {K : List Ln} (h : OwnL w base v K) {p i : Nat} (hp : v.ownBlock ≠ some p) (u : Value) : OwnL (w.setCell ⟨p, i, none⟩ u) base v K :=
  OwnL.far h (row := some p) (gb_set (World.grownBy.refl _ _) i u) (fun k hk e => by
    injection e with e
    subst e
    exact hp hk)
theorem OwnL.setOther {w : World} {base : Nat} {v : Value} {K : List Ln} (h : OwnL w base v K) {p i : Nat} (hp : p < base) (u : Value) : OwnL (w.setCell ⟨p, i, none⟩ u) base v K :=
  OwnL.far h (row := some p) (gb_set (World.grownBy.refl _ _) i u) (fun k hk e => by
    have := (h.lt k hk).1
    injection e with e
    omega)
theorem OwnS.setFar {w : World} {base : Nat} {v : Value} {K : List ByteArray} (h : OwnS w base v K) {p i : Nat} (hp : v.ownBlock ≠ some p) (u : Value) : OwnS (w.setCell ⟨p, i, none⟩ u) base v K :=
  OwnS.far h (row := some p) (gb_set (World.grownBy.refl _ _) i u) (fun k hk e => by
    injection e with e
    subst e
    exact hp hk)
theorem OwnR.far {a b : World} {base n : Nat} {v : Value} {xs : List Value} {row : Option Nat} (h : OwnR a base v n xs) (hg : a.grownBy b row) (hne : ∀ k, v.ownBlock = some k → row ≠ some k) : OwnR b base v n xs := by
  refine World.ownsRow.kept h hg ?_
  rcases hb : v.ownBlock with _ | k
  · exact .inl rfl
  · exact .inr (fun e => hne k hb e.symm)

theorem one_news (w : World) (l : Ln) (t : TypeId) : ∀ j u, (lcells [l])[j]? = some u → (w.alloc (.cells #[.int .i64 l.k, .string l.le, .string l.na, .string l.se, .string l.va, .string l.ta] t)).cell? ((⟨w.heap.size, 0, none⟩ : Addr).add j) = some u := fun j u hj =>
  World.news_of_block (heap_alloc_new w _) j u (by simpa [lcells, lcell] using hj)
theorem OwnL.free {w : World} {base g n c : Nat} {K : List Ln} (h : OwnL w base (.slice (some ⟨g, 0, none⟩) n c) K) (j : Nat) : w.frozen? ⟨g, j, none⟩ = false := by
  rcases h.2 with ⟨h1, _⟩ | ⟨g', cap, cur, h1, _, h2, _⟩
  · cases h1
  · injection h1 with h1 _ _
    injection h1 with h1
    injection h1 with h1
    subst h1
    exact frozen_of_row w g j _ _ h2
theorem OwnL.atg {w : World} {base g n c : Nat} {K : List Ln} (h : OwnL w base (.slice (some ⟨g, 0, none⟩) n c) K) (hn : K.length = n) : ∀ i (hi : i < K.length), LnAt w g (i * 6) K[i] := fun i hi => by
  subst hn
  obtain ⟨b, o, e, _, hc⟩ := OwnL.at h (by omega)
  injection e with e
  injection e with e1 e2
  subst e1
  subst e2
  have := hc i hi
  rwa [Nat.zero_add] at this
end Go.Proofs.YtclopcbpelhiaaaDoor
namespace Go.Proofs.YtclopcbpelhiaaaDoor
open Go.RowKit

/-- the separator of a new pair -/
def newSep : ByteArray := ⟨#[32, 61, 32]⟩
/-- a new pair, a new head -/
def pairL (k v : ByteArray) : Ln := ⟨3, ⟨#[]⟩, k, newSep, v, ⟨#[]⟩⟩
def headL (s : ByteArray) : Ln := ⟨2, ⟨#[]⟩, s, ⟨#[]⟩, ⟨#[]⟩, ⟨#[]⟩⟩
/-- the lines of keys -/
def tkeys (ls : List Ln) (s : ByteArray) (ks : List ByteArray) : List Ln := ks.map fun k => pairL k (getV ls s k)
/-- the line of a head, none for the section without a name -/
def thead (s : ByteArray) : List Ln := if s.toList.isEmpty = true then [] else [headL s]
def tsec (ls : List Ln) (s : ByteArray) : List Ln := thead s ++ tkeys ls s (keysOf' ls s)
def tsecs (ls : List Ln) (ss : List ByteArray) : List Ln := ss.flatMap (tsec ls)
/-- the lines of the tidy file -/
def tidyOf (ls : List Ln) : List Ln := tsecs ls (secsOf' ls)

theorem tkeys_succ (ls : List Ln) (s : ByteArray) {ks : List ByteArray} {j : Nat} (h : j < ks.length) : tkeys ls s (ks.take (j + 1)) = tkeys ls s (ks.take j) ++ [pairL ks[j] (getV ls s ks[j])] := by
  unfold tkeys
  rw [List.take_succ_eq_append_getElem h, List.map_append]
  rfl
theorem tsecs_succ (ls : List Ln) {ss : List ByteArray} {j : Nat} (h : j < ss.length) : tsecs ls (ss.take (j + 1)) = tsecs ls (ss.take j) ++ tsec ls ss[j] := by
  unfold tsecs
  rw [List.take_succ_eq_append_getElem h, List.flatMap_append]
  simp
theorem tkeys_length (ls : List Ln) (s : ByteArray) (ks : List ByteArray) : (tkeys ls s ks).length = ks.length := by simp [tkeys]
theorem thead_le (s : ByteArray) : (thead s).length ≤ 1 := by
  unfold thead
  split <;> simp
theorem vfile_20 {ls : List Ln} (h : vfile ls = true) : ls.length ≤ 20 := by
  unfold vfile at h
  rw [Bool.and_eq_true, decide_eq_true_iff] at h
  exact h.2
theorem keys_20 (ls : List Ln) (s : ByteArray) : (keysOf' ls s).length ≤ 20 := by
  unfold keysOf'
  split
  · rename_i h
    exact Nat.le_trans (keysTo_le _ _ _) (vfile_20 h)
  · exact Nat.zero_le _
theorem secs_20 (ls : List Ln) : (secsOf' ls).length ≤ 20 := by
  unfold secsOf'
  split
  · rename_i h
    exact Nat.le_trans (secsTo_le _ _) (vfile_20 h)
  · exact Nat.zero_le _
theorem tsec_le (ls : List Ln) (s : ByteArray) : (tsec ls s).length ≤ 21 := by
  unfold tsec
  rw [List.length_append, tkeys_length]
  have := thead_le s
  have := keys_20 ls s
  omega
theorem tsecs_le (ls : List Ln) (ss : List ByteArray) : (tsecs ls ss).length ≤ ss.length * 21 := by
  induction ss with
  | nil => simp [tsecs]
  | cons s ss ih =>
    have := tsec_le ls s
    have e : tsecs ls (s :: ss) = tsec ls s ++ tsecs ls ss := by simp [tsecs]
    rw [e, List.length_append, List.length_cons]
    omega
theorem tidy_le (ls : List Ln) : (tidyOf ls).length ≤ 420 := by
  have := tsecs_le ls (secsOf' ls)
  have := secs_20 ls
  unfold tidyOf
  omega
theorem tidy_no {ls : List Ln} (h : vfile ls = false) : tidyOf ls = [] := by
  unfold tidyOf secsOf'
  rw [if_neg (by rw [h]; simp)]
  rfl

theorem addT_mem {xs : List ByteArray} {s x : ByteArray} (h : x ∈ addT xs s) : x ∈ xs ∨ x = s := by
  unfold addT at h
  split at h
  · exact .inl h
  · rw [List.mem_append, List.mem_singleton] at h; exact h
theorem keysTo_last (ls : List Ln) (s : ByteArray) : ∀ (k : Nat) (x : ByteArray), x ∈ keysTo ls s k → 0 ≤ lastP ls s x k := by
  intro k
  induction k with
  | zero => intro x h; simp [keysTo] at h
  | succ k ih =>
    intro x h
    by_cases hp : isPair ls s x k = true
    · rw [lastP_yes hp]; omega
    · have hp' : isPair ls s x k = false := by simpa using hp
      rw [lastP_no hp']
      by_cases hk : (ls[k]!.k == 3 && inSec ls s k) = true
      · rw [keysTo_yes hk] at h
        rcases addT_mem h with h | rfl
        · exact ih x h
        · exfalso
          rw [Bool.and_eq_true] at hk
          unfold isPair isKey at hp'
          rw [hk.1, hk.2] at hp'
          simp at hp'
      · rw [keysTo_no (by simpa using hk)] at h
        exact ih x h
/-- a key has a line -/
theorem keys_where {ls : List Ln} {s : ByteArray} {i : Nat} (h : i < (keysOf' ls s).length) : ∃ k : Nat, lastP ls s (keysOf' ls s)[i] ls.length = k ∧ ∃ hk : k < ls.length, ls[k].va = getV ls s (keysOf' ls s)[i] ∧ getB ls s (keysOf' ls s)[i] = true := by
  have hm : (keysOf' ls s)[i] ∈ keysOf' ls s := List.getElem_mem h
  obtain ⟨x, hx⟩ : ∃ x, (keysOf' ls s)[i] = x := ⟨_, rfl⟩
  rw [hx] at hm ⊢
  clear hx h
  by_cases hv : vfile ls = true
  · unfold keysOf' at hm
    rw [if_pos hv] at hm
    have h0 := keysTo_last ls s _ x hm
    have h1 := (lastP_lt ls s x ls.length).1
    refine ⟨(lastP ls s x ls.length).toNat, by omega, by omega, ?_⟩
    have h2 : whereOf ls s x = ((lastP ls s x ls.length).toNat : Int) := by rw [whereOf_yes s x hv]; omega
    have h3 := get_yes h2 (by omega)
    exact ⟨h3.1.symm, h3.2⟩
  · unfold keysOf' at hm
    rw [if_neg hv] at hm
    simp at hm
end Go.Proofs.YtclopcbpelhiaaaDoor
