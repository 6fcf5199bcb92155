/-
  Lines cut out of a file: cutLines of the program, at the indices that meet a test. Condition: at most 1048576 lines.
-/
import Derived.Test.YthgfmbhopppkmaaCopyL
namespace Go.Proofs.Ythgfmbhopppkmaa
open Go.RowKit

/-- the lines among the first k that do not meet the test -/
def keepL (ls : List Ln) (P : Nat → Bool) (k : Nat) : List Ln := ((List.range k).filter fun i => !P i).map fun i => ls[i]!
theorem keepL_yes {ls : List Ln} {P : Nat → Bool} {k : Nat} (h : P k = true) : keepL ls P (k + 1) = keepL ls P k := by
  unfold keepL; rw [List.range_succ, List.filter_append]; simp [h]
theorem keepL_no {ls : List Ln} {P : Nat → Bool} {k : Nat} (h : P k = false) : keepL ls P (k + 1) = keepL ls P k ++ [ls[k]!] := by
  unfold keepL; rw [List.range_succ, List.filter_append]; simp [h]
theorem keepL_le (ls : List Ln) (P : Nat → Bool) (k : Nat) : (keepL ls P k).length ≤ k := by
  unfold keepL
  rw [List.length_map]
  exact Nat.le_trans (List.length_filter_le _ _) (by simp)
/-- the indices from k on that meet the test -/
def restI (P : Nat → Bool) (n k : Nat) : List Nat := (List.range' k (n - k)).filter P
theorem restI_yes {P : Nat → Bool} {n k : Nat} (hk : k < n) (h : P k = true) : restI P n k = k :: restI P n (k + 1) := by
  unfold restI
  rw [show n - k = (n - (k + 1)) + 1 from by omega, List.range'_succ, List.filter_cons, if_pos h]
theorem restI_no {P : Nat → Bool} {n k : Nat} (hk : k < n) (h : P k = false) : restI P n k = restI P n (k + 1) := by
  unfold restI
  rw [show n - k = (n - (k + 1)) + 1 from by omega, List.range'_succ, List.filter_cons, if_neg (by rw [h]; simp)]
theorem restI_ge {P : Nat → Bool} {n k i : Nat} (h : i ∈ restI P n k) : k ≤ i := by
  unfold restI at h
  have := (List.mem_filter.1 h).1
  rw [List.mem_range'_1] at this
  exact this.1
theorem restI_head {P : Nat → Bool} {n k : Nat} (h : P k = false) (hk : k < n) (h0 : 0 < (restI P n k).length) : (restI P n k)[0] ≠ k := by
  intro e
  have hm : (restI P n k)[0] ∈ restI P n (k + 1) := by rw [← restI_no hk h]; exact List.getElem_mem _
  have := restI_ge hm
  omega
theorem restI_zero (P : Nat → Bool) (n : Nat) : restI P n 0 = (List.range n).filter P := by
  unfold restI; rw [Nat.sub_zero, List.range_eq_range']
theorem restI_le (P : Nat → Bool) (n k : Nat) : (restI P n k).length ≤ n - k := by
  unfold restI
  exact Nat.le_trans (List.length_filter_le _ _) (by simp)

/-- a call's end: it returns lines in a row of the call's own -/
def RetL (ls : List Ln) (w : World) (e : Ending) (w' : World) : Prop := ∃ v, e = .returned v ∧ OwnL w' w.heap.size v ls ∧ Grows w w'
theorem OwnL.made (w : World) (c : Nat) (base : Nat) (hb : base ≤ w.heap.size) (hc : c ≤ 1048576) : OwnL (w.alloc (.cells (madeCells Ln.zero.agg.cells (c * 6)) 53)) base (.slice (some ⟨w.heap.size, 0, none⟩) 0 c) [] :=
  ⟨rfl, .inr ⟨w.heap.size, c, _, rfl, hb, heap_alloc_new w _, Nat.zero_le _, by unfold maxLen; omega, size_madeCells _ _, rfl⟩⟩

theorem one_newsA (w : World) (l : Ln) (t : TypeId) {p : Nat} (hp : w.heap.size = p) : ∀ j u, (lcells [l])[j]? = some u → (w.alloc (.cells #[.int .i64 l.k, .string l.le, .string l.na, .string l.se, .string l.va, .string l.ta] t)).cell? ((⟨p, 0, none⟩ : Addr).add j) = some u := fun j u hj => by
  subst hp
  exact World.news_of_block (heap_alloc_new w _) j u (by simpa [lcells, lcell] using hj)
/-- the cells lie in another block than the row that turns -/
theorem ValsAt.farV {w w' : World} {A : Option Addr} {xs : List Value} {row : Option Nat} (h : ValsAt w A xs) (g : w.grownBy w' row) (hne : ∀ b, row = some b → ∀ o, A ≠ some ⟨b, o, none⟩) : ValsAt w' A xs := fun h0 => by
  obtain ⟨b, o, e, hb, hc⟩ := h h0
  refine ⟨b, o, e, Nat.lt_of_lt_of_le hb g.size, fun i hi => ?_⟩
  rw [g.cell_far ⟨b, o + i, none⟩ hb (fun e2 => hne b e2.symm o e)]
  exact hc i hi

set_option maxRecDepth 100000 in
set_option maxHeartbeats 4000000 in
theorem cutLines_any (A I : Option Addr) (c ci : Nat) (ls : List Ln) (P : Nat → Bool) (w : World) (hn : ls.length ≤ 1048576) (hA : LnsAt w A ls) (hI : ValsAt w I (ints ((List.range ls.length).filter P))) (hci : ((List.range ls.length).filter P).length ≤ ci) :
    Calls Try.prog 69 #[.slice A ls.length c, .slice I ((List.range ls.length).filter P).length ci] w (RetL (keepL ls P ls.length) w) := by
  have HA := Lib.hid hA
  rw [← restI_zero] at hI hci ⊢
  have HI := Lib.hid hI
  have hle := restI_le P ls.length 0
  have HCI := Lib.hid hci
  clear hA hI hci
  obtain ⟨n, hnn⟩ : ∃ n, ls.length = n := ⟨_, rfl⟩
  rw [hnn] at hn HI HCI hle ⊢
  have HN := Lib.hid hnn
  clear hnn
  obtain ⟨m, hmm⟩ : ∃ m, (restI P n 0).length = m := ⟨_, rfl⟩
  rw [hmm] at hle HCI ⊢
  have HM := Lib.hid hmm
  clear hmm
  obtain ⟨d, hd⟩ : ∃ d, n = m + d := ⟨n - m, by omega⟩
  have hdn : d ≤ 1048576 := by omega
  obtain ⟨i0, hi, hz0, hz1, hz2⟩ := info_parts infoLine
  have hmk : ∀ W, (Instr.makeSlice 26 (.int .i64 0) (.int .i64 ((n : Int) - (m : Int)))).run Try.prog W = .ok (.slice (some ⟨W.heap.size, 0, none⟩) 0 d) (W.alloc (.cells (madeCells Ln.zero.agg.cells (d * 6)) 53)) := fun W => by
    have h := run_make_rowN (P := Try.prog) 26 53 i0 _ Try.underlying26 hi hz0 .i64 .i64 0 d (Nat.zero_le _) (by rw [hz2]; omega) (by omega) W
    rw [hz1, show ((d : Nat) : Int) = (n : Int) - (m : Int) from by omega] at h
    exact h
  have hsub0 : (0 : Int) ≤ (n : Int) - (m : Int) := by omega
  have hsub1 : (n : Int) - (m : Int) ≤ 1048576 := by omega
  clear hi hz0 hz1 hz2
  obtain ⟨M, hM⟩ : ∃ M, madeCells Ln.zero.agg.cells (d * 6) = M := ⟨_, rfl⟩
  rw [hM] at hmk
  have HO0 : Hid (OwnL (w.alloc (.cells M 53)) w.heap.size (.slice (some ⟨w.heap.size, 0, none⟩) 0 d) []) := by rw [← hM]; exact OwnL.made w d _ (Nat.le_refl _) hdn
  have HD := Lib.hid hd
  clear hM hd
  go_enter Try.func69, Try.ntmps69
  go_wp2_with fail
  go_loopw [1, 5, 16] (fun q v i wr => ∃ (k : Nat) (I' : Option Addr) (c' : Nat) (K : List Ln), k ≤ n ∧ i = .int .i64 k ∧ q = .slice I' (restI P n k).length c' ∧ Hid (ValsAt w I' (ints (restI P n k))) ∧ Hid ((restI P n k).length ≤ c') ∧ Hid (K = keepL ls P k) ∧ K.length ≤ k ∧ Hid (OwnL wr w.heap.size v K) ∧ Hid (Grows w wr)) (fun _ _ i _ => n - (intOf i).toNat)
  case atStart => exact ⟨0, I, ci, [], Nat.zero_le _, rfl, by rw [HM.out], HI.out, by rw [HM.out]; exact HCI.out, rfl, Nat.zero_le _, HO0.out, (Grows.refl _).alloc _⟩
  case round =>
    obtain ⟨k, I', c', K, hk, rfl, rfl, HV, HC, HK, hKk, HO, HG⟩ := hrel
    obtain ⟨p, hp⟩ : ∃ p, (restI P n k).length = p := ⟨_, rfl⟩
    rw [hp] at HC ⊢
    by_cases hlt : k < n
    · obtain ⟨b, o, rfl, hb, hc⟩ := HA.out (by rw [HN.out]; omega)
      have hk2 : k < ls.length := by rw [HN.out]; exact hlt
      have hsu := get_bang hk2
      obtain ⟨l, hl⟩ : ∃ l, ls[k] = l := ⟨_, rfl⟩
      have hat := (hc k hk2).keep hb HG.out
      rw [hl] at hat hsu
      obtain ⟨c0, c1, c2, c3, c4, c5⟩ := hat
      clear hc hl
      by_cases hP : P k = true
      · have HS := Lib.hid (restI_yes hlt hP)
        have HK2 : Hid (keepL ls P (k + 1) = K) := by unfold Hid; rw [keepL_yes hP, HK.out]
        have hp1 : 0 < p := by rw [← hp, HS.out]; simp
        have hpl : (restI P n (k + 1)).length = p - 1 := by rw [← hp, HS.out]; simp
        have HPL := Lib.hid hpl
        obtain ⟨b2, o2, rfl, hb2, hc2⟩ := HV.out (by rw [ints_length, hp]; exact hp1)
        have d0 := hc2 0 (by rw [ints_length, hp]; exact hp1)
        have hix : (ints (restI P n k))[0]'(by rw [ints_length, hp]; exact hp1) = Value.int .i64 (k : Int) := by simp [HS.out, ints]
        rw [hix, Nat.add_zero] at d0
        have d1 := (HG.out.cell (p := ⟨b2, o2, none⟩) hb2).trans d0
        have hb2r := Nat.lt_of_lt_of_le hb2 HG.out.size
        have hcp := HC.out
        have HVS : Hid (∀ j (h : j < (restI P n (k + 1)).length), w.cell? ⟨b2, o2 + 1 + j, none⟩ = some (.int .i64 ((restI P n (k + 1))[j] : Int))) := fun j h => by
          have h9 := hc2 (j + 1) (by rw [ints_length, HS.out]; simpa using h)
          have e9 : (ints (restI P n k))[j + 1]'(by rw [ints_length, HS.out]; simpa using h) = Value.int .i64 ((restI P n (k + 1))[j] : Int) := by simp [HS.out, ints]
          rw [e9, show o2 + (j + 1) = o2 + 1 + j from by omega] at h9
          exact h9
        have HB2 := Lib.hid hb2
        clear hc2 hix hP hpl hp hsu d0
        by_cases hc1 : c' = 1
        · subst hc1
          have hp2 : p = 1 := by omega
          subst hp2
          go_wp2
          go_roundw
          case rel => exact ⟨k + 1, some ⟨b2, o2, none⟩, 0, K, by omega, by go_num, by rw [HPL.out], fun h => absurd h (by rw [ints_length, HPL.out]; simp), by rw [HPL.out]; exact Nat.le_refl _, HK2.out.symm, by omega, by repeat (first | exact HO.out | exact HO.out.keep (by repeat (first | exact Grows.refl _ | refine Grows.alloc ?_ _))), by repeat (first | exact HG.out | refine Grows.alloc ?_ _)⟩
          case measure => simp [intOf]; omega
        · go_wp2
          go_roundw
          case rel => exact ⟨k + 1, some ⟨b2, o2 + 1, none⟩, c' - 1, K, by omega, by go_num, by rw [HPL.out], fun _ => ⟨b2, o2 + 1, rfl, HB2.out, fun i hi => (HVS.out i (by rw [ints_length] at hi; exact hi)).trans (by simp [ints])⟩, by have h9 := HPL.out; unfold Hid; omega, HK2.out.symm, by omega, by repeat (first | exact HO.out | exact HO.out.keep (by repeat (first | exact Grows.refl _ | refine Grows.alloc ?_ _))), by repeat (first | exact HG.out | refine Grows.alloc ?_ _)⟩
          case measure => simp [intOf]; omega
      · have hP' : P k = false := by simpa using hP
        have HS := Lib.hid (restI_no hlt hP')
        have HK2 : Hid (keepL ls P (k + 1) = K ++ [l]) := by unfold Hid; rw [keepL_no hP', HK.out, hsu]
        have HPL : Hid ((restI P n (k + 1)).length = p) := by unfold Hid; rw [← HS.out]; exact hp
        have HV3 : Hid (ValsAt w I' (ints (restI P n (k + 1)))) := by rw [← HS.out]; exact HV.out
        have hh := restI_head hP' hlt
        rcases Nat.eq_zero_or_pos p with hp0 | hp0
        · subst hp0
          clear hP hP' hh hp hsu
          go_wp2_with (at_builtin; refine appLs rfl _ _ rfl w.heap.size _ K rfl ((HO.out.keep ((Grows.refl _).alloc _)).keep ((Grows.refl _).alloc _)) ⟨wr.heap.size + 1, 0, none⟩ 1 1 [l] rfl rfl (by omega) (one_newsA _ _ _ (by simp)) (by omega) (by omega) (Nat.le_trans HG.out.size (by simp; omega)) ?_)
          intro v' w2 HO2 HGB HNE
          have HG2 : Hid (Grows w w2) := ((HG.out.alloc _).alloc _).mark HGB.out (fun k hk => (HO.out.lt k hk).1)
          clear HGB HNE
          go_wp2
          go_roundw
          case rel => exact ⟨k + 1, I', c', K ++ [l], by omega, by go_num, by rw [HPL.out], HV3.out, by rw [HPL.out]; exact HC.out, HK2.out.symm, by simp; omega, HO2.out, HG2.out⟩
          case measure => simp [intOf]; omega
        · obtain ⟨b2, o2, rfl, hb2, hc2⟩ := HV.out (by rw [ints_length, hp]; exact hp0)
          have d0 := hc2 0 (by rw [ints_length, hp]; exact hp0)
          have hix : (ints (restI P n k))[0]'(by rw [ints_length, hp]; exact hp0) = Value.int .i64 ((restI P n k)[0]'(by rw [hp]; exact hp0) : Int) := by simp [ints]
          rw [hix, Nat.add_zero] at d0
          have d1 := (HG.out.cell (p := ⟨b2, o2, none⟩) hb2).trans d0
          have hb2r := Nat.lt_of_lt_of_le hb2 HG.out.size
          have hne := hh (by rw [hp]; exact hp0)
          obtain ⟨x, hx⟩ : ∃ x, (restI P n k)[0]'(by rw [hp]; exact hp0) = x := ⟨_, rfl⟩
          rw [hx] at d1 hne
          have hne2 : ((x : Int) == (k : Int)) = false := by rw [beq_eq_false_iff_ne]; omega
          clear hP hP' hh hp hsu hc2 hix hx d0
          go_wp2_with (at_builtin; refine appLs rfl _ _ rfl w.heap.size _ K rfl ((HO.out.keep ((Grows.refl _).alloc _)).keep ((Grows.refl _).alloc _)) ⟨wr.heap.size + 1, 0, none⟩ 1 1 [l] rfl rfl (by omega) (one_newsA _ _ _ (by simp)) (by omega) (by omega) (Nat.le_trans HG.out.size (by simp; omega)) ?_)
          intro v' w2 HO2 HGB HNE
          have HG2 : Hid (Grows w w2) := ((HG.out.alloc _).alloc _).mark HGB.out (fun k hk => (HO.out.lt k hk).1)
          clear HGB HNE
          go_wp2
          go_roundw
          case rel => exact ⟨k + 1, some ⟨b2, o2, none⟩, c', K ++ [l], by omega, by go_num, by rw [HPL.out], HV3.out, by rw [HPL.out]; exact HC.out, HK2.out.symm, by simp; omega, HO2.out, HG2.out⟩
          case measure => simp [intOf]; omega
    · obtain rfl : k = n := by omega
      go_wp2
      go_ret
      have h9 := HO.out
      rw [HK.out] at h9
      exact ⟨_, rfl, h9, HG.out⟩
end Go.Proofs.Ythgfmbhopppkmaa
