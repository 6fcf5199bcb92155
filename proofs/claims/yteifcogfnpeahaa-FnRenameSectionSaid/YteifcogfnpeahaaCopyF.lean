/-
  Copies of lines, lines with other names, and the test of a new file: copyLines, nameLines, validLines of the program, copyLines, checkedFile of the specification. Conditions: at most 1048576 lines, parts no longer than a text may be.
-/
import Derived.Test.YteifcogfnpeahaaCut
namespace Go.Proofs.Yteifcogfnpeahaa
open Go.RowKit

/-- the line with another name -/
def Ln.named (l : Ln) (to : ByteArray) : Ln := ⟨l.k, l.le, to, l.se, l.va, l.ta⟩
/-- the lines, those of S with another name -/
def renS (ls : List Ln) (S : Nat → Bool) (to : ByteArray) : List Ln := (List.range ls.length).map fun i => if S i = true then (ls[i]!).named to else ls[i]!
theorem renS_length (ls : List Ln) (S : Nat → Bool) (to : ByteArray) : (renS ls S to).length = ls.length := by simp [renS]
theorem renS_get (ls : List Ln) (S : Nat → Bool) (to : ByteArray) (i : Nat) (h : i < ls.length) : (renS ls S to)[i]'(by rw [renS_length]; exact h) = if S i = true then ls[i].named to else ls[i] := by
  simp only [renS, List.getElem_map, List.getElem_range, get_bang h]
theorem renS_congr {ls : List Ln} {S T : Nat → Bool} (to : ByteArray) (h : ∀ i, i < ls.length → S i = T i) : renS ls S to = renS ls T to := by
  unfold renS
  apply List.map_congr_left
  intro i hi
  rw [h i (List.mem_range.1 hi)]
theorem renS_none {ls : List Ln} {S : Nat → Bool} (to : ByteArray) (h : ∀ i, i < ls.length → S i = false) : renS ls S to = ls := by
  apply List.ext_getElem (renS_length _ _ _)
  intro i h1 h2
  rw [renS_get ls S to i h2, if_neg (by rw [h i h2]; simp)]
/-- one more line has the name -/
theorem renS_set {ls : List Ln} {S T : Nat → Bool} {to : ByteArray} {k : Nat} (hk : k < ls.length) (h : ∀ i, T i = (S i || decide (i = k))) : renS ls T to = (renS ls S to).set k (ls[k].named to) := by
  apply List.ext_getElem (by rw [List.length_set, renS_length, renS_length])
  intro i h1 h2
  have hi : i < ls.length := by rw [renS_length] at h1; exact h1
  rw [renS_get ls T to i hi, List.getElem_set, h i]
  by_cases e : i = k
  · subst e; simp
  · have hse : (S i || decide (i = k)) = S i := by simp [e]
    have hki : ¬ k = i := fun h9 => e h9.symm
    rw [hse, renS_get ls S to i hi]
    simp only [hki, if_false]
theorem lcells_set (K : List Ln) : ∀ (k : Nat) (h : k < K.length) (to : ByteArray), (lcells K).set (k * 6 + 2) (.string to) = lcells (K.set k (K[k].named to)) := by
  induction K with
  | nil => intro k h; exact absurd h (by simp)
  | cons l K ih =>
    intro k h to
    cases k with
    | zero => simp [lcells, lcell, Ln.named]
    | succ k =>
      have hl : (lcell l).length = 6 := rfl
      rw [lcells, List.set_append_right _ _ (by rw [hl]; omega), hl, show (k + 1) * 6 + 2 - 6 = k * 6 + 2 from by omega, ih k (by simpa using h) to]
      simp [lcells]
theorem named_twice (l : Ln) (a b : ByteArray) : (l.named a).named b = l.named b := rfl

set_option maxRecDepth 100000 in
set_option maxHeartbeats 1000000 in
theorem copyLines_any (A : Option Addr) (c : Nat) (ls : List Ln) (w : World) (hn : ls.length ≤ 1048576) (hA : LnsAt w A ls) :
    Calls Try.prog 103 #[.slice A ls.length c] w fun e w' => e = .returned (.slice (some ⟨w.heap.size, 0, none⟩) ls.length ls.length) ∧ RowL w' w.heap.size ls ∧ Grows w w' := by
  have HA := Lib.hid (fun w1 (g : Grows w w1) => hA.keep g)
  obtain ⟨n, hnn⟩ : ∃ n, ls.length = n := ⟨_, rfl⟩
  obtain ⟨i0, hi, hz0, hz1, hz2⟩ := info_parts infoLine
  have hmk := fun W => run_make_rowN (P := Try.prog) 23 43 i0 _ Try.underlying23 hi hz0 .i64 .i64 n n (Nat.le_refl _) (by rw [hz2]; omega) (by omega) W
  rw [hz1] at hmk
  have HR := Lib.hid (RowL.zeros w n)
  obtain ⟨M, hM⟩ : ∃ M, madeCells Ln.zero.agg.cells (n * 6) = M := ⟨_, rfl⟩
  rw [hM] at hmk HR
  rw [hnn] at hn ⊢
  have HN := Lib.hid hnn
  clear hA hM hnn hi hz0 hz1 hz2
  go_enter Try.func103, Try.ntmps103
  go_wp2_with (with_reducible refine copyL rfl _ _ rfl w.heap.size 0 (List.replicate n Ln.zero) ls HR.out _ _ _ _ _ _ rfl rfl (by rw [HN.out]; simp) (fun _ => rfl) (HA.out _ ((Grows.refl _).alloc _)) (by rw [HN.out]; simp) ?_)
  intro w2 HR2 HG2
  go_wp2
  go_ret
  have e : lay (List.replicate n Ln.zero) 0 ls = ls := by
    unfold lay
    rw [List.take_zero, List.nil_append, Nat.zero_add, List.drop_eq_nil_of_le (by rw [HN.out]; simp), List.append_nil]
  rw [e] at HR2
  exact ⟨rfl, HR2.out, ((Grows.refl w).alloc _).mark HG2.out (fun k hk => by injection hk with hk; omega)⟩

/-- the lines if they are valid -/
def chkL (K : List Ln) : List Ln := if vfile K = true then K else []
theorem chkL_le (K : List Ln) : (chkL K).length ≤ K.length := by
  unfold chkL
  split <;> simp
/-- a call's end: it returns the file of these lines if it is valid, and whether it is -/
def ChkRet (K : List Ln) (base : Nat) (w : World) (e : Ending) (w' : World) : Prop := ∃ u, e = .returned (.tuple #[.agg #[u], .bool (vfile K)]) ∧ OwnL w' base u (chkL K) ∧ Grows w w'

set_option maxRecDepth 100000 in
set_option maxHeartbeats 1000000 in
theorem validLines_any (v : Value) (base : Nat) (K : List Ln) (w : World) (hf : AllFit K) (h : OwnL w base v K) :
    Calls Try.prog 73 #[v] w (ChkRet K base w) := by
  obtain ⟨A, c, hv, hA⟩ := h.form
  subst hv
  have HF := Lib.hid (fun w1 (g : Grows w w1) => implFile_any A c K w1 hf (hA.keep g))
  have HO := Lib.hid h
  clear hA h hf
  by_cases hv : vfile K = true
  · rw [hv] at HF
    have HK : Hid (chkL K = K ∧ vfile K = true) := ⟨by unfold chkL; rw [if_pos hv], hv⟩
    clear hv
    obtain ⟨n, hnn⟩ : ∃ n, K.length = n := ⟨_, rfl⟩
    rw [hnn] at HF HO ⊢
    clear hnn
    go_enter Try.func73, Try.ntmps73
    go_wp2_with fail
    refine (HF.out _ (((Grows.refl _).alloc _).alloc _)).mono ?_
    rintro e w1 ⟨rfl, g1⟩
    have G1 : Grows ((w.alloc (fbox none 0 0)).alloc (fbox A n c)) w1 := g1
    have h1 : w1.cell? ⟨w.heap.size, 0, none⟩ = some (.slice none 0 0) := (G1.cell (p := ⟨w.heap.size, 0, none⟩) (by simp; omega)).trans (by simp [fbox])
    have h2 : w1.frozen? ⟨w.heap.size, 0, none⟩ = false := (G1.frozen (p := ⟨w.heap.size, 0, none⟩) (by simp; omega)).trans (by simp [fbox])
    have h3 : w1.cell? ⟨w.heap.size + 1, 0, none⟩ = some (.slice A n c) := (G1.cell (p := ⟨w.heap.size + 1, 0, none⟩) (by simp)).trans (by simp [fbox])
    have HG1 : Hid (Grows w w1) := (((Grows.refl _).alloc _).alloc _).trans g1
    have HO1 := Lib.hid (HO.out.keep HG1.out)
    have HLT := Lib.hid HO.out.lt
    clear g1 G1
    go_wp2
    refine bodyPost_ret (v := .tuple #[.agg #[.slice A n c], .bool true]) (by simp [results, Try.results73, go_sem, h1]) rfl ?_
    unfold ChkRet
    rw [HK.out.1, HK.out.2]
    exact ⟨_, rfl, HO1.out.setFar (fun e => by have := (HLT.out _ e).2; omega) _, HG1.out.setCell (by simp) _⟩
  · have hv' : vfile K = false := by simpa using hv
    rw [hv'] at HF
    have HK : Hid (chkL K = [] ∧ vfile K = false) := ⟨by unfold chkL; rw [if_neg hv], hv'⟩
    clear hv hv'
    go_enter Try.func73, Try.ntmps73
    go_wp2_with fail
    refine (HF.out _ (((Grows.refl _).alloc _).alloc _)).mono ?_
    rintro e w1 ⟨rfl, g1⟩
    have G1 : Grows ((w.alloc (fbox none 0 0)).alloc (fbox A K.length c)) w1 := g1
    have h1 : w1.cell? ⟨w.heap.size, 0, none⟩ = some (.slice none 0 0) := (G1.cell (p := ⟨w.heap.size, 0, none⟩) (by simp; omega)).trans (by simp [fbox])
    have h2 : w1.frozen? ⟨w.heap.size, 0, none⟩ = false := (G1.frozen (p := ⟨w.heap.size, 0, none⟩) (by simp; omega)).trans (by simp [fbox])
    have HG1 : Hid (Grows w w1) := (((Grows.refl _).alloc _).alloc _).trans g1
    clear g1 G1
    go_wp2
    refine bodyPost_ret (v := .tuple #[.agg #[.slice none 0 0], .bool false]) (by simp [results, Try.results73, go_sem, h1]) rfl ?_
    unfold ChkRet
    rw [HK.out.1, HK.out.2]
    exact ⟨_, rfl, OwnL.nil _ _, HG1.out.setCell (by simp) _⟩

set_option maxRecDepth 100000 in
set_option maxHeartbeats 1000000 in
theorem checkedFile_any (v : Value) (base : Nat) (K : List Ln) (w : World) (hf : AllFit K) (h : OwnL w base v K) :
    Calls Try.prog 76 #[v] w (ChkRet K base w) := by
  obtain ⟨A, c, hv, hA⟩ := h.form
  subst hv
  have HF := Lib.hid (fun w1 (g : Grows w w1) => specFile_any A c K w1 hf (hA.keep g))
  have HO := Lib.hid h
  clear hA h hf
  by_cases hv : vfile K = true
  · rw [hv] at HF
    have HK : Hid (chkL K = K ∧ vfile K = true) := ⟨by unfold chkL; rw [if_pos hv], hv⟩
    clear hv
    obtain ⟨n, hnn⟩ : ∃ n, K.length = n := ⟨_, rfl⟩
    rw [hnn] at HF HO ⊢
    clear hnn
    go_enter Try.func76, Try.ntmps76
    go_wp2_with fail
    refine (HF.out _ (((Grows.refl _).alloc _).alloc _)).mono ?_
    rintro e w1 ⟨rfl, g1⟩
    have G1 : Grows ((w.alloc (fbox none 0 0)).alloc (fbox A n c)) w1 := g1
    have h1 : w1.cell? ⟨w.heap.size, 0, none⟩ = some (.slice none 0 0) := (G1.cell (p := ⟨w.heap.size, 0, none⟩) (by simp; omega)).trans (by simp [fbox])
    have h2 : w1.frozen? ⟨w.heap.size, 0, none⟩ = false := (G1.frozen (p := ⟨w.heap.size, 0, none⟩) (by simp; omega)).trans (by simp [fbox])
    have h3 : w1.cell? ⟨w.heap.size + 1, 0, none⟩ = some (.slice A n c) := (G1.cell (p := ⟨w.heap.size + 1, 0, none⟩) (by simp)).trans (by simp [fbox])
    have HG1 : Hid (Grows w w1) := (((Grows.refl _).alloc _).alloc _).trans g1
    have HO1 := Lib.hid (HO.out.keep HG1.out)
    have HLT := Lib.hid HO.out.lt
    clear g1 G1
    go_wp2
    refine bodyPost_ret (v := .tuple #[.agg #[.slice A n c], .bool true]) (by simp [results, Try.results76, go_sem, h1]) rfl ?_
    unfold ChkRet
    rw [HK.out.1, HK.out.2]
    exact ⟨_, rfl, HO1.out.setFar (fun e => by have := (HLT.out _ e).2; omega) _, HG1.out.setCell (by simp) _⟩
  · have hv' : vfile K = false := by simpa using hv
    rw [hv'] at HF
    have HK : Hid (chkL K = [] ∧ vfile K = false) := ⟨by unfold chkL; rw [if_neg hv], hv'⟩
    clear hv hv'
    go_enter Try.func76, Try.ntmps76
    go_wp2_with fail
    refine (HF.out _ (((Grows.refl _).alloc _).alloc _)).mono ?_
    rintro e w1 ⟨rfl, g1⟩
    have G1 : Grows ((w.alloc (fbox none 0 0)).alloc (fbox A K.length c)) w1 := g1
    have h1 : w1.cell? ⟨w.heap.size, 0, none⟩ = some (.slice none 0 0) := (G1.cell (p := ⟨w.heap.size, 0, none⟩) (by simp; omega)).trans (by simp [fbox])
    have h2 : w1.frozen? ⟨w.heap.size, 0, none⟩ = false := (G1.frozen (p := ⟨w.heap.size, 0, none⟩) (by simp; omega)).trans (by simp [fbox])
    have HG1 : Hid (Grows w w1) := (((Grows.refl _).alloc _).alloc _).trans g1
    clear g1 G1
    go_wp2
    refine bodyPost_ret (v := .tuple #[.agg #[.slice none 0 0], .bool false]) (by simp [results, Try.results76, go_sem, h1]) rfl ?_
    unfold ChkRet
    rw [HK.out.1, HK.out.2]
    exact ⟨_, rfl, OwnL.nil _ _, HG1.out.setCell (by simp) _⟩

theorem RowL.cellAt {w : World} {g : Nat} {K : List Ln} (h : RowL w g K) (j : Nat) : w.cell? ⟨g, j, none⟩ = (lcells K)[j]? := by
  rw [cell_of_row w g j _ _ _ h]; simp
theorem RowL.free {w : World} {g : Nat} {K : List Ln} (h : RowL w g K) (j : Nat) : w.frozen? ⟨g, j, none⟩ = false := frozen_of_row w g j _ _ h
theorem RowL.name {w : World} {g : Nat} {K : List Ln} (h : RowL w g K) {k : Nat} (hk : k < K.length) (to : ByteArray) : RowL (w.setCell ⟨g, k * 6 + 2, none⟩ (.string to)) g (K.set k (K[k].named to)) := by
  unfold RowL at h ⊢
  rw [← lcells_set K k hk to]
  simp [World.setCell, Array.getElem?_modify, h]
theorem OwnL.name {w : World} {base g n c : Nat} {K : List Ln} (h : OwnL w base (.slice (some ⟨g, 0, none⟩) n c) K) (hn : K.length = n) {k : Nat} (hk : k < K.length) (to : ByteArray) : OwnL (w.setCell ⟨g, k * 6 + 2, none⟩ (.string to)) base (.slice (some ⟨g, 0, none⟩) n c) (K.set k (K[k].named to)) := by
  unfold OwnL
  rw [← lcells_set K k hk to, List.length_set]
  subst hn
  exact OwnR.set_ h _ _

set_option maxRecDepth 100000 in
set_option maxHeartbeats 4000000 in
theorem nameLines_any (A I : Option Addr) (c ci : Nat) (ls : List Ln) (L : List Nat) (to : ByteArray) (w : World) (hn : ls.length ≤ 1048576) (hA : LnsAt w A ls) (hI : ValsAt w I (ints L)) (hL : ∀ i (h : i < L.length), L[i] < ls.length) (hl : L.length ≤ 1048576) :
    Calls Try.prog 74 #[.slice A ls.length c, .slice I L.length ci, .string to] w (RetL (renS ls L.contains to) w) := by
  have HC := Lib.hid (copyLines_any A c ls w hn hA)
  have HI := Lib.hid hI
  have HL := Lib.hid hL
  clear hA hI hL
  obtain ⟨n, hnn⟩ : ∃ n, ls.length = n := ⟨_, rfl⟩
  obtain ⟨p, hpp⟩ : ∃ p, L.length = p := ⟨_, rfl⟩
  rw [hnn] at HC hn ⊢
  rw [hpp] at hl ⊢
  have HN := Lib.hid hnn
  have HP := Lib.hid hpp
  clear hnn hpp
  go_enter Try.func74, Try.ntmps74
  go_wp2_with fail
  refine (HC.out).mono ?_
  rintro e w1 ⟨rfl, hr, g1⟩
  have HR1 := Lib.hid hr
  have HG1 := Lib.hid g1
  clear hr g1
  go_wp2_with fail
  go_loopw [14] (fun i wr => ∃ (j : Nat), j ≤ p ∧ i = .int .i64 j ∧ Hid (RowL wr w.heap.size (renS ls (L.take j).contains to)) ∧ Hid (Grows w wr)) (fun i _ => p - (intOf i).toNat)
  case atStart => exact ⟨0, Nat.zero_le _, rfl, by unfold Hid; rw [renS_none (S := (List.take 0 L).contains) to (fun _ _ => by simp)]; exact HR1.out, HG1.out⟩
  case round =>
    obtain ⟨j, hj, rfl, HR, HG⟩ := hrel
    by_cases hlt : j < p
    · have hjL : j < L.length := by rw [HP.out]; exact hlt
      have hx := HL.out j hjL
      obtain ⟨b1, o1, rfl, hb1, hc1⟩ := HI.out (by rw [ints_length]; omega)
      have d0 := hc1 j (by rw [ints_length]; exact hjL)
      have hix : (ints L)[j]'(by rw [ints_length]; exact hjL) = Value.int .i64 (L[j] : Int) := by simp [ints]
      rw [hix] at d0
      have HTS : Hid (∀ i, (L.take (j + 1)).contains i = ((L.take j).contains i || decide (i = L[j]))) := fun i => by
        rw [List.take_succ_eq_append_getElem hjL, Bool.eq_iff_iff]
        simp only [Bool.or_eq_true, List.contains_eq_mem, List.mem_append, List.mem_singleton, decide_eq_true_eq]
      obtain ⟨x, hxx⟩ : ∃ x, L[j] = x := ⟨_, rfl⟩
      rw [hxx] at hx HTS d0
      have d1 : wr.cell? ⟨b1, o1 + j, none⟩ = some (.int .i64 x) := (HG.out.cell (p := ⟨b1, o1 + j, none⟩) hb1).trans d0
      have hxl : x * 6 + 2 < (lcells (renS ls (L.take j).contains to)).length := by rw [lcells_length, renS_length]; omega
      have d2 := HR.out.cellAt (x * 6 + 2)
      rw [List.getElem?_eq_getElem hxl] at d2
      obtain ⟨u2, hu2⟩ : ∃ u, (lcells (renS ls (L.take j).contains to))[x * 6 + 2] = u := ⟨_, rfl⟩
      rw [hu2] at d2
      have d3 := HR.out.free (x * 6 + 2)
      have hxk : x < (renS ls (L.take j).contains to).length := by rw [renS_length]; exact hx
      have HR2 : Hid (RowL (wr.setCell ⟨w.heap.size, x * 6 + 2, none⟩ (.string to)) w.heap.size (renS ls (L.take (j + 1)).contains to)) := by
        have h9 := HR.out.name hxk to
        rw [renS_set hx HTS.out]
        have e9 : (renS ls (L.take j).contains to)[x].named to = ls[x].named to := by
          rw [renS_get ls _ to x hx]
          split <;> rfl
        rw [e9] at h9
        exact h9
      rw [HN.out] at hx
      clear hc1 hix d0 hxx hu2 hxl hxk hb1 hjL
      go_wp2
      go_roundw
      case rel => exact ⟨j + 1, by omega, by go_num, HR2.out, HG.out.setCell (Nat.le_refl _) _⟩
      case measure => simp [intOf]; omega
    · obtain rfl : j = p := by omega
      have HE : Hid (renS ls (L.take j).contains to = renS ls L.contains to) := by unfold Hid; rw [← HP.out, List.take_length]
      go_wp2
      go_ret
      have h9 := HR.out
      rw [HE.out] at h9
      have h8 := h9.own (base := w.heap.size) (Nat.le_refl _) (by rw [renS_length, HN.out]; omega)
      rw [renS_length, HN.out] at h8
      exact ⟨_, rfl, h8, HG.out⟩

set_option maxRecDepth 100000 in
set_option maxHeartbeats 2000000 in
theorem specCopy_any (ad : Addr) (c : Nat) (ls : List Ln) (w : World) (hn : ls.length ≤ 1048576) (hA : LnsAt w (some ad) ls) :
    Calls Try.prog 75 #[.slice (some ad) ls.length c] w (RetL ls w) := by
  obtain ⟨i0, hi, hz0, hz1, hz2⟩ := info_parts infoLine
  have HI : Hid (Try.prog.info? 43 = some i0) := hi
  have HZ0 : Hid (i0.zero = some Ln.zero.agg) := hz0
  have HZ1 : Hid (i0.size = 6) := hz1
  have HZ2 : Hid (i0.bytes = 88) := hz2
  clear hi hz0 hz1 hz2
  have HOE := Lib.hid (OwnL.empty w w.heap.size (Nat.le_refl _))
  have HN : Hid (∀ j u, (lcells ls)[j]? = some u → (w.alloc (.cells #[] 43)).cell? (ad.add j) = some u) := fun j u hj => by
    have hpos : 0 < ls.length := by
      rcases Nat.eq_zero_or_pos ls.length with h | h
      · rw [List.eq_nil_of_length_eq_zero h] at hj; simp [lcells] at hj
      · exact h
    have hA2 := hA.keep ((Grows.refl w).alloc (.cells #[] 43))
    obtain ⟨b, o, e, hb, hc⟩ := hA2 hpos
    injection e with e
    subst e
    exact LnsAt.cells hc j u hj
  have HL := Lib.hid (lcells_length ls)
  obtain ⟨n, hnn⟩ : ∃ n, ls.length = n := ⟨_, rfl⟩
  rw [hnn] at hn HL ⊢
  have HNN := Lib.hid hnn
  clear hA hnn
  go_enter Try.func75, Try.ntmps75
  go_wp2_with (at_builtin; refine wpList_append_own _ rfl _ _ 23 rfl w.heap.size 43 i0 Ln.zero.agg 6 88 Try.underlying23 HI.out HZ0.out HZ1.out HZ2.out rfl (by decide) _ 0 [] rfl HOE.out ad n c (lcells ls) rfl HL.out HN.out (lcells_one ls) (by unfold maxLen; omega) (by omega) (by simp) ?_)
  intro v' w2 h1 h2 _
  have HO2 : Hid (OwnL w2 w.heap.size v' ls) := by
    unfold Hid OwnL OwnR
    rw [HNN.out]
    exact h1
  have HG2 : Hid (Grows w w2) := ((Grows.refl w).alloc _).mark h2 (fun k hk => by have h' : some w.heap.size = some k := hk; injection h' with h'; omega)
  clear h1 h2
  go_wp2
  go_ret
  exact ⟨_, rfl, HO2.out, HG2.out⟩
end Go.Proofs.Yteifcogfnpeahaa
