/-
  The place behind the last head or pair of a section: endOf of the program. Conditions: at most 1048576 bytes in all.
  Lines put into a file: putLines of the program. Conditions: at most 1048576 lines.
  A file with one more note: AddNote of the program. Conditions: at most 1048576 bytes in all.
  SetValue: the lines that it makes; valueLines of the program; validLines also of more lines than a file may have. Conditions: at most 1048576 bytes in all.
  SetValue: with arguments that are not valid it makes no valid file. No program.
-/
import Derived.Test.YtclopcbpelhiaaaDoorCopyF
import Derived.Test.YtclopcbpelhiaaaDoorRegM
import Derived.IntWalk
namespace Go.Proofs.YtclopcbpelhiaaaDoor
open Go.RowKit

/-- the place behind the last head or pair of these lines -/
def endF (ls : List Ln) : List Nat → Nat → Nat
  | [], e => e
  | i :: L, e => endF ls L (if secLine ls i = true then i + 1 else e)
theorem endF_append (ls : List Ln) (L M : List Nat) (e : Nat) : endF ls (L ++ M) e = endF ls M (endF ls L e) := by
  induction L generalizing e with
  | nil => rfl
  | cons i L ih => exact ih _
def endOf' (ls : List Ln) (s : ByteArray) : Nat := endF ls (secOf ls s) 0
theorem endTo_place (ls : List Ln) (s : ByteArray) : ∀ k, (endF ls (secTo ls s k) 0 : Int) = if 0 ≤ placeTo ls s k then placeTo ls s k + 1 else 0 := by
  intro k
  induction k with
  | zero =>
    have h := (placeTo_lt ls s 0).1
    rw [if_neg (by omega)]
    rfl
  | succ k ih =>
    by_cases h1 : inSec ls s k = true
    · rw [secTo_yes h1, endF_append]
      by_cases h2 : secLine ls k = true
      · rw [placeTo_yes (by rw [h1, h2]; rfl), if_pos (by omega)]
        show ((if secLine ls k = true then k + 1 else _ : Nat) : Int) = _
        rw [if_pos h2]; omega
      · rw [placeTo_no (by rw [h1]; simpa using h2), ← ih]
        show ((if secLine ls k = true then k + 1 else _ : Nat) : Int) = _
        rw [if_neg h2]
    · rw [secTo_no (by simpa using h1), placeTo_no (by simp [h1]), ih]
/-- where the program and the specification put a new pair of a section -/
theorem end_place {ls : List Ln} (s : ByteArray) (hv : vfile ls = true) : (endOf' ls s : Int) = if 0 ≤ placeTo ls s ls.length then placeTo ls s ls.length + 1 else 0 := by
  unfold endOf' secOf
  rw [if_pos hv]
  exact endTo_place ls s ls.length
theorem end_no {ls : List Ln} (s : ByteArray) (hv : vfile ls = false) : endOf' ls s = 0 := by
  unfold endOf' secOf
  rw [if_neg (by rw [hv]; simp)]
  rfl
theorem endF_le {ls : List Ln} {n : Nat} : ∀ (L : List Nat) (e : Nat), (∀ i ∈ L, i < n) → e ≤ n → endF ls L e ≤ n := by
  intro L
  induction L with
  | nil => intro e _ h; exact h
  | cons i L ih =>
    intro e h1 h2
    refine ih _ (fun j hj => h1 j (by simp [hj])) ?_
    have := h1 i (by simp)
    split <;> omega
theorem endOf_le (ls : List Ln) (s : ByteArray) : endOf' ls s ≤ ls.length := endF_le _ _ (fun _ h => secOf_lt h) (Nat.zero_le _)

set_option maxRecDepth 100000 in
set_option maxHeartbeats 2000000 in
theorem endOf_any (A : Option Addr) (c : Nat) (ls : List Ln) (s : ByteArray) (w : World) (hf : AllFit ls) (hA : LnsAt w A ls) :
    Calls Tryd.prog 56 #[.agg #[.slice A ls.length c], .string s] w fun e w' => e = .returned (.int .i64 (endOf' ls s : Int)) ∧ Grows w w' := by
  have HF := Lib.hid (fun w1 (g : Grows w w1) => linesIn_all A c ls s w1 hf (hA.keep g))
  have HA := Lib.hid hA
  have hn : ls.length ≤ 1048576 := hf.1
  have HE : Hid (endF ls (secOf ls s) 0 = endOf' ls s) := rfl
  have HLT : Hid (∀ i (h : i < (secOf ls s).length), (secOf ls s)[i] < ls.length) := fun i h => secOf_lt (List.getElem_mem h)
  have HVL : Hid (∀ i (_ : i < (secOf ls s).length) j (hj : j < ls.length), vline ls[j] = true) := fun i h j hj => by
    refine vfile_line ?_ j hj
    rcases hv : vfile ls with _ | _
    · unfold secOf at h
      rw [if_neg (by rw [hv]; simp)] at h
      exact absurd h (by simp)
    · rfl
  have hL := secOf_le ls s
  clear hA hf
  obtain ⟨L, hLL⟩ : ∃ L, secOf ls s = L := ⟨_, rfl⟩
  rw [hLL] at HF HE HLT HVL hL
  clear hLL
  obtain ⟨E, hEE⟩ : ∃ E, endOf' ls s = E := ⟨_, rfl⟩
  rw [hEE] at HE ⊢
  clear hEE
  obtain ⟨n, hnn⟩ : ∃ n, ls.length = n := ⟨_, rfl⟩
  rw [hnn] at hn HF HLT hL
  rw [hnn]
  have HN := Lib.hid hnn
  clear hnn
  go_enter Tryd.func56, Tryd.ntmps56
  go_wp2_with fail
  refine (HF.out _ ((Grows.refl _).alloc _)).mono ?_
  rintro e w1 ⟨A1, c1, rfl, hv1, g1, _⟩
  have HG0 : Hid (Grows (w.alloc (fbox A n c)) w1) := g1
  have HV1 := Lib.hid hv1
  have HG1 : Hid (Grows w w1) := ((Grows.refl _).alloc _).trans g1
  clear g1 hv1
  rw [ints_length]
  obtain ⟨p, hp⟩ : ∃ p, L.length = p := ⟨_, rfl⟩
  rw [hp]
  rw [hp] at hL
  have HP := Lib.hid hp
  clear hp
  go_wp2_with fail
  go_loopw [5, 12] (fun v i wr => ∃ (j E : Nat), j ≤ p ∧ i = .int .i64 j ∧ v = .int .i64 E ∧ Hid (E = endF ls (L.take j) 0) ∧ Hid (Grows w1 wr)) (fun _ i _ => p - (intOf i).toNat)
  case atStart => exact ⟨0, 0, Nat.zero_le _, rfl, rfl, rfl, Grows.refl _⟩
  case round =>
    obtain ⟨j, E1, hj, rfl, rfl, HR, HG⟩ := hrel
    have hb0 : wr.cell? ⟨w.heap.size, 0, none⟩ = some (.slice A n c) := ((HG0.out.trans HG.out).cell (p := ⟨w.heap.size, 0, none⟩) (by simp)).trans (by simp [fbox])
    by_cases hlt : j < p
    · have hjL : j < L.length := by rw [HP.out]; exact hlt
      have hx := HLT.out j hjL
      have hTS : L.take (j + 1) = L.take j ++ [L[j]] := List.take_succ_eq_append_getElem hjL
      obtain ⟨b1, o1, rfl, hb1, hc1⟩ := HV1.out (by rw [ints_length]; omega)
      have d0 := hc1 j (by rw [ints_length]; exact hjL)
      have hix : (ints L)[j]'(by rw [ints_length]; exact hjL) = Value.int .i64 (L[j] : Int) := by simp [ints]
      rw [hix] at d0
      obtain ⟨x, hxx⟩ : ∃ x, L[j] = x := ⟨_, rfl⟩
      rw [hxx] at hx hTS d0
      have d1 : wr.cell? ⟨b1, o1 + j, none⟩ = some (.int .i64 x) := (HG.out.cell (p := ⟨b1, o1 + j, none⟩) hb1).trans d0
      obtain ⟨b, o, rfl, hb, hc⟩ := HA.out (by rw [HN.out]; omega)
      have hk2 : x < ls.length := by rw [HN.out]; exact hx
      have hsu := get_bang hk2
      have hvl := HVL.out j hjL x hk2
      obtain ⟨l, hl⟩ : ∃ l, ls[x] = l := ⟨_, rfl⟩
      have hat := (hc x hk2).keep hb (HG1.out.trans HG.out)
      rw [hl] at hat hsu hvl
      obtain ⟨c0, c1', c2, c3, c4, c5⟩ := hat
      have HST : Hid (endF ls (L.take (j + 1)) 0 = if (l.k == 2 || l.k == 3) = true then x + 1 else E1) := by
        unfold Hid
        rw [hTS, endF_append, HR.out, ← hsu]; rfl
      clear hl hc hc1 hix d0 hxx hTS hsu
      have hkk := vline_k hvl
      clear hvl
      obtain ⟨lk, le, na, se, va, ta⟩ := l
      rcases hkk with rfl | rfl | rfl | rfl
      · have HFO := Lib.hid (fun w => formOf_0 le na se va ta w)
        unfold Ln.agg Ln.box at HFO
        have t2 := ta_0_2 (.agg #[.string le])
        have t3 := ta_0_3 (.agg #[.string le])
        have HS2 : Hid (endF ls (L.take (j + 1)) 0 = E1) := HST.out
        go_wp2_with (go_at_call 44; refine (HFO.out _).mono ?_; rintro e w' ⟨rfl, rfl⟩)
        go_roundw
        case rel => exact ⟨j + 1, E1, by omega, by go_num, rfl, HS2.out.symm, by repeat (first | exact HG.out | refine Grows.alloc ?_ _)⟩
        case measure => simp [intOf]; omega
      · have HFO := Lib.hid (fun w => formOf_1 le na se va ta w)
        unfold Ln.agg Ln.box at HFO
        have t2 := ta_1_2 (.agg #[.string le, .string va])
        have t3 := ta_1_3 (.agg #[.string le, .string va])
        have HS2 : Hid (endF ls (L.take (j + 1)) 0 = E1) := HST.out
        go_wp2_with (go_at_call 44; refine (HFO.out _).mono ?_; rintro e w' ⟨rfl, rfl⟩)
        go_roundw
        case rel => exact ⟨j + 1, E1, by omega, by go_num, rfl, HS2.out.symm, by repeat (first | exact HG.out | refine Grows.alloc ?_ _)⟩
        case measure => simp [intOf]; omega
      · have HFO := Lib.hid (fun w => formOf_2 le na se va ta w)
        unfold Ln.agg Ln.box at HFO
        have t2 := ta_2_2 (.agg #[.string le, .string na, .string ta])
        have t3 := ta_2_3 (.agg #[.string le, .string na, .string ta])
        have HS2 : Hid (endF ls (L.take (j + 1)) 0 = x + 1) := HST.out
        go_wp2_with (go_at_call 44; refine (HFO.out _).mono ?_; rintro e w' ⟨rfl, rfl⟩)
        go_roundw
        case rel => exact ⟨j + 1, x + 1, by omega, by go_num, by go_num, HS2.out.symm, by repeat (first | exact HG.out | refine Grows.alloc ?_ _)⟩
        case measure => simp [intOf]; omega
      · have HFO := Lib.hid (fun w => formOf_3 le na se va ta w)
        unfold Ln.agg Ln.box at HFO
        have t2 := ta_3_2 (.agg #[.string le, .string na, .string se, .string va, .string ta])
        have t3 := ta_3_3 (.agg #[.string le, .string na, .string se, .string va, .string ta])
        have HS2 : Hid (endF ls (L.take (j + 1)) 0 = x + 1) := HST.out
        go_wp2_with (go_at_call 44; refine (HFO.out _).mono ?_; rintro e w' ⟨rfl, rfl⟩)
        go_roundw
        case rel => exact ⟨j + 1, x + 1, by omega, by go_num, by go_num, HS2.out.symm, by repeat (first | exact HG.out | refine Grows.alloc ?_ _)⟩
        case measure => simp [intOf]; omega
    · obtain rfl : j = p := by omega
      have HRR : Hid (E1 = E) := by
        unfold Hid
        rw [← HE.out, HR.out, ← HP.out, List.take_length]
      go_wp2
      go_ret
      exact ⟨ret_int (by rw [HRR.out]), HG1.out.trans HG.out⟩

end Go.Proofs.YtclopcbpelhiaaaDoor
namespace Go.Proofs.YtclopcbpelhiaaaDoor
open Go.RowKit

/-- the lines with more ahead of place k -/
def putL (ls : List Ln) (k : Nat) (ms : List Ln) : List Ln := ls.take k ++ (ms ++ ls.drop k)
theorem putL_length (ls : List Ln) (k : Nat) (ms : List Ln) (hk : k ≤ ls.length) : (putL ls k ms).length = ls.length + ms.length := by
  simp [putL]; omega
theorem LnsAt.take {w : World} {A : Option Addr} {ls : List Ln} (h : LnsAt w A ls) (k : Nat) : LnsAt w A (ls.take k) := fun h0 => by
  have h1 : 0 < ls.length := by rw [List.length_take] at h0; omega
  obtain ⟨b, o, e, hb, hc⟩ := h h1
  refine ⟨b, o, e, hb, fun i hi => ?_⟩
  have hi2 : i < ls.length := by rw [List.length_take] at hi; omega
  rw [List.getElem_take]
  exact hc i hi2
theorem LnsAt.drop {w : World} {b o : Nat} {ls : List Ln} (h : LnsAt w (some ⟨b, o, none⟩) ls) (k : Nat) : LnsAt w (some ⟨b, o + k * 6, none⟩) (ls.drop k) := fun h0 => by
  rw [List.length_drop] at h0
  obtain ⟨b', o', e, hb, hc⟩ := h (by omega)
  injection e with e
  injection e with e1 e2
  subst e1
  subst e2
  refine ⟨b, o + k * 6, rfl, hb, fun i hi => ?_⟩
  rw [List.length_drop] at hi
  have := hc (k + i) (by omega)
  rw [List.getElem_drop]
  rwa [show o + (k + i) * 6 = o + k * 6 + i * 6 from by omega] at this
theorem lay3 (ls ms : List Ln) (k : Nat) (hk : k ≤ ls.length) :
    lay (lay (lay (List.replicate (ls.length + ms.length) Ln.zero) 0 (ls.take k)) k ms) (k + ms.length) (ls.drop k) = putL ls k ms := by
  have h1 : lay (List.replicate (ls.length + ms.length) Ln.zero) 0 (ls.take k) = ls.take k ++ List.replicate (ls.length + ms.length - k) Ln.zero := by
    unfold lay
    rw [List.take_zero, List.nil_append, Nat.zero_add, List.length_take, Nat.min_eq_left hk, List.drop_replicate]
  have hl : (ls.take k).length = k := by rw [List.length_take, Nat.min_eq_left hk]
  have h2 : lay (ls.take k ++ List.replicate (ls.length + ms.length - k) Ln.zero) k ms = ls.take k ++ (ms ++ List.replicate (ls.length - k) Ln.zero) := by
    unfold lay
    rw [List.take_left' hl, List.drop_append, List.drop_eq_nil_of_le (by rw [hl]; omega), List.nil_append, hl, List.drop_replicate]
    congr 3
    omega
  rw [h1, h2]
  unfold lay putL
  have e1 : (ls.take k ++ (ms ++ List.replicate (ls.length - k) Ln.zero)).take (k + ms.length) = ls.take k ++ ms := by
    rw [← List.append_assoc, List.take_left' (by rw [List.length_append, hl])]
  have e2 : (ls.take k ++ (ms ++ List.replicate (ls.length - k) Ln.zero)).drop (k + ms.length + (ls.drop k).length) = [] := by
    apply List.drop_eq_nil_of_le
    simp
    omega
  rw [e1, e2, List.append_nil, List.append_assoc]

theorem RowL.drew {w : World} {g : Nat} {ls : List Ln} (h : RowL w g ls) : RowL w.drew g ls := h

set_option maxRecDepth 100000 in
set_option maxHeartbeats 400000 in
theorem putLinesC_any (A M : Option Addr) (c mc k : Nat) (ls ms : List Ln) (w : World) (hn : ls.length ≤ 1048576) (hm : ms.length ≤ 1048576) (hm0 : 0 < ms.length) (hk : k ≤ ls.length) (hcap : ls.length ≤ c) (hA0 : ls.length < c → ∃ b, A = some ⟨b, 0, none⟩) (hA : LnsAt w A ls) (hM : LnsAt w M ms) :
    Calls Tryd.prog 54 #[.slice A ls.length c, .int .i64 k, .slice M ms.length mc] w (RetL (putL ls k ms) w) := by
  have HA := Lib.hid hA
  have HM := Lib.hid hM
  have HL3 := Lib.hid (lay3 ls ms k hk)
  have HPL := Lib.hid (putL_length ls k ms hk)
  obtain ⟨n, hnn⟩ : ∃ n, ls.length = n := ⟨_, rfl⟩
  obtain ⟨m, hmm⟩ : ∃ m, ms.length = m := ⟨_, rfl⟩
  obtain ⟨i0, hi, hz0, hz1, hz2⟩ := info_parts infoLine
  have hmk : ∀ W, (Instr.makeSlice 23 (.int .i64 ((n : Int) + (m : Int))) (.int .i64 ((n : Int) + (m : Int)))).run Tryd.prog W = .ok (.slice (some ⟨W.heap.size, 0, none⟩) (n + m) (n + m)) (W.alloc (.cells (madeCells Ln.zero.agg.cells ((n + m) * 6)) 60)) := fun W => by
    have h := run_make_rowN (P := Tryd.prog) 23 60 i0 _ Tryd.underlying23 hi hz0 .i64 .i64 (n + m) (n + m) (Nat.le_refl _) (by rw [hz2]; omega) (by omega) W
    rw [hz1, show ((n + m : Nat) : Int) = (n : Int) + (m : Int) from by omega] at h
    exact h
  have HR := Lib.hid (RowL.zeros w (n + m))
  obtain ⟨Z, hZ⟩ : ∃ Z, madeCells Ln.zero.agg.cells ((n + m) * 6) = Z := ⟨_, rfl⟩
  rw [hZ] at hmk HR
  rw [hnn, hmm] at HPL HL3
  rw [hnn] at hn hk hcap hA0 ⊢
  have hkc : k ≤ c := Nat.le_trans hk hcap
  rw [hmm] at hm hm0 ⊢
  have HN := Lib.hid hnn
  have HMM := Lib.hid hmm
  have HTK : Hid ((ls.take k).length = k) := by unfold Hid; rw [List.length_take, HN.out, Nat.min_eq_left hk]
  have HDK : Hid ((ls.drop k).length = n - k) := by unfold Hid; rw [List.length_drop, HN.out]
  clear hZ hnn hmm hi hz0 hz1 hz2 hA hM
  go_enter Tryd.func54, Tryd.ntmps54
  go_wp2_with (with_reducible refine copyL rfl _ _ rfl w.heap.size 0 (List.replicate (n + m) Ln.zero) (ls.take k) HR.out _ _ _ _ _ _ rfl rfl (by rw [HTK.out]; exact (Nat.min_eq_left (Nat.le_trans hk (Nat.le_add_right _ _))).symm) (fun _ => rfl) ((HA.out.keep ((Grows.refl _).alloc _)).take k) (by rw [HTK.out, List.length_replicate]; omega) ?_)
  intro w2 HR2 HG2
  have HGW2 : Hid (Grows w w2) := ((Grows.refl w).alloc _).mark HG2.out (fun k hk => by injection hk with hk; omega)
  obtain ⟨X1, hX1⟩ : ∃ X, lay (List.replicate (n + m) Ln.zero) 0 (ls.take k) = X := ⟨_, rfl⟩
  have HX1 : Hid (X1.length = n + m) := by unfold Hid; rw [← hX1, lay_length (by rw [HTK.out, List.length_replicate]; omega), List.length_replicate]
  rw [hX1] at HR2 HL3
  have hk1 : ¬ k = n + m := by omega
  have hk2 : ¬ n + m = k := by omega
  clear hX1 HG2
  go_wp2_with (with_reducible refine copyL rfl _ _ rfl w.heap.size k X1 ms HR2.out _ _ _ _ _ _ rfl rfl (by rw [HMM.out]; exact (Nat.min_eq_left (by omega)).symm) (fun _ => rfl) (HM.out.keep HGW2.out) (by rw [HMM.out, HX1.out]; omega) ?_)
  intro w3 HR3 HG3
  have HGW3 : Hid (Grows w w3) := HGW2.out.mark HG3.out (fun k hk => by injection hk with hk; omega)
  obtain ⟨X2, hX2⟩ : ∃ X, lay X1 k ms = X := ⟨_, rfl⟩
  have HX2 : Hid (X2.length = n + m) := by unfold Hid; rw [← hX2, lay_length (by rw [HMM.out, HX1.out]; omega), HX1.out]
  rw [hX2] at HR3 HL3
  clear hX2 HG3
  have hs0 : (0 : Int) ≤ (k : Int) + (m : Int) := by omega
  have hs1 : (k : Int) + (m : Int) ≤ (n : Int) + (m : Int) := by omega
  have hs2 : ((k : Int) + (m : Int)).toNat = k + m := by omega
  have hs3 : IntKind.i64.wrap ((k : Int) + (m : Int)) = (k : Int) + (m : Int) := IntWalk.i64_in _ (by omega)
  by_cases hkn : k = n
  · subst hkn
    by_cases hcn : k = c
    · subst hcn
      go_wp2_with fail
      refine wp_region_M 9 (CellsAre []) (by kernel_rfl) (by kernel_rfl) trivial (fun hB hS => ?_)
      refine wpAnyM_take (i := 0) (v := ?va0) hB rfl (by kernel_rfl) (fun _ _ _ h => h) (by rfl) ?ya0 hS ?na0
      case ya0 => (intro w9 hSw; go_simp; try with_reducible rfl)
      refine wpAnyM_take (i := 1) (v := ?va1) hB rfl (by kernel_rfl) (fun _ _ _ h => h) (by rfl) ?ya1 hS ?na1
      case ya1 => (intro w9 hSw; go_simp; try with_reducible rfl)
      refine wpAnyM_take (i := 2) (v := ?va2) hB rfl (by kernel_rfl) (fun _ _ _ h => h) (by rfl) ?ya2 hS ?na2
      case ya2 => (intro w9 hSw; go_simp; try with_reducible rfl)
      refine wpAnyM_take (i := 3) (v := ?va3) hB rfl (by kernel_rfl) (fun _ _ _ h => h) (by rfl) ?ya3 hS ?na3
      case ya3 => (intro w9 hSw; go_simp; try with_reducible rfl)
      refine wpAnyM_take (i := 4) (v := ?va4) hB rfl (by kernel_rfl) (fun _ _ _ h => h) (by rfl) ?ya4 hS ?na4
      case ya4 => (intro w9 hSw; go_simp; try with_reducible rfl)
      refine wpAnyM_take (i := 5) (v := ?va5) hB rfl (by kernel_rfl) (fun _ _ _ h => h) (by rfl) ?ya5 hS ?na5
      case ya5 => (intro w9 hSw; go_simp; try with_reducible rfl)
      refine wpAnyM_take (i := 6) (v := ?va6) hB rfl (by kernel_rfl) (fun _ _ _ h => h) (by rfl) ?ya6 hS ?na6
      case ya6 => (intro w9 hSw; go_simp; try with_reducible rfl)
      refine wpAnyM_take (i := 7) (v := ?va7) hB rfl (by kernel_rfl) (fun _ _ _ h => h) (by rfl) ?ya7 hS ?na7
      case ya7 => (intro w9 hSw; go_simp; try with_reducible rfl)
      refine wpAnyM_take (i := 8) (v := ?va8) hB rfl (by kernel_rfl) (fun _ _ _ h => h) (by rfl) ?ya8 hS ?na8
      case ya8 => (intro w9 hSw; go_simp; try with_reducible rfl)
      refine wpAnyM_tail (by kernel_rfl) ?_
      clear hS hB hs0 hs1 hs2 hs3
      have HD0 : Hid (ls.drop k = []) := List.eq_nil_of_length_eq_zero (by rw [HDK.out]; omega)
      rw [HD0.out, lay_nil] at HL3
      refine copyL rfl (.tmp 29) (.tmp 32) rfl w.heap.size 0 X2 [] HR3.out.drew (some ⟨w.heap.size, 0, none⟩) A 0 0 0 0 (by simp [Act.eval, Act.put]) (by simp [Act.eval, Act.put]) (by simp) (fun h => absurd h (Nat.lt_irrefl _)) (LnsAt.nil _ _) (by simp) ?_
      intro w4 HR4 HG4
      rw [lay_nil] at HR4
      have HGW4 : Hid (Grows w w4) := HGW3.out.drew.mark HG4.out (fun k hk => by injection hk with hk; omega)
      have HF := HR4.out.own (base := w.heap.size) (Nat.le_refl _) (by rw [HX2.out]; omega)
      rw [HX2.out, HL3.out] at HF
      have HF2 := Lib.hid HF
      clear HF
      go_wp2
      go_ret
      exact ⟨_, rfl, HF2.out, HGW4.out⟩
    · obtain ⟨b, rfl⟩ := hA0 (by omega)
      have hcn2 : ¬ c = k := fun e => hcn e.symm
      go_wp2_with fail
      refine wp_region_M 9 (CellsAre []) (by kernel_rfl) (by kernel_rfl) trivial (fun hB hS => ?_)
      refine wpAnyM_take (i := 0) (v := ?vac0) hB rfl (by kernel_rfl) (fun _ _ _ h => h) (by rfl) ?yac0 hS ?nac0
      case yac0 => (intro w9 hSw; go_simp; try with_reducible rfl)
      refine wpAnyM_take (i := 1) (v := ?vac1) hB rfl (by kernel_rfl) (fun _ _ _ h => h) (by rfl) ?yac1 hS ?nac1
      case yac1 => (intro w9 hSw; go_simp; try with_reducible rfl)
      refine wpAnyM_take (i := 2) (v := ?vac2) hB rfl (by kernel_rfl) (fun _ _ _ h => h) (by rfl) ?yac2 hS ?nac2
      case yac2 => (intro w9 hSw; go_simp; try with_reducible rfl)
      refine wpAnyM_take (i := 3) (v := ?vac3) hB rfl (by kernel_rfl) (fun _ _ _ h => h) (by rfl) ?yac3 hS ?nac3
      case yac3 => (intro w9 hSw; go_simp; try with_reducible rfl)
      refine wpAnyM_take (i := 4) (v := ?vac4) hB rfl (by kernel_rfl) (fun _ _ _ h => h) (by rfl) ?yac4 hS ?nac4
      case yac4 => (intro w9 hSw; go_simp; try with_reducible rfl)
      refine wpAnyM_take (i := 5) (v := ?vac5) hB rfl (by kernel_rfl) (fun _ _ _ h => h) (by rfl) ?yac5 hS ?nac5
      case yac5 => (intro w9 hSw; go_simp; try with_reducible rfl)
      refine wpAnyM_take (i := 6) (v := ?vac6) hB rfl (by kernel_rfl) (fun _ _ _ h => h) (by rfl) ?yac6 hS ?nac6
      case yac6 => (intro w9 hSw; go_simp; try with_reducible rfl)
      refine wpAnyM_take (i := 7) (v := ?vac7) hB rfl (by kernel_rfl) (fun _ _ _ h => h) (by rfl) ?yac7 hS ?nac7
      case yac7 => (intro w9 hSw; go_simp; try with_reducible rfl)
      refine wpAnyM_take (i := 8) (v := ?vac8) hB rfl (by kernel_rfl) (fun _ _ _ h => h) (by rfl) ?yac8 hS ?nac8
      case yac8 => (intro w9 hSw; go_simp; try with_reducible rfl)
      refine wpAnyM_tail (by kernel_rfl) ?_
      clear hS hB hs0 hs1 hs2 hs3
      have HD0 : Hid (ls.drop k = []) := List.eq_nil_of_length_eq_zero (by rw [HDK.out]; omega)
      rw [HD0.out, lay_nil] at HL3
      refine copyL rfl (.tmp 29) (.tmp 32) rfl w.heap.size 0 X2 [] HR3.out.drew (some ⟨w.heap.size, 0, none⟩) (some ⟨b, k * 6, none⟩) 0 0 0 (c - k) (by simp [Act.eval, Act.put]) (by simp [Act.eval, Act.put]) (by simp) (fun h => absurd h (Nat.lt_irrefl _)) (LnsAt.nil _ _) (by simp) ?_
      intro w4 HR4 HG4
      rw [lay_nil] at HR4
      have HGW4 : Hid (Grows w w4) := HGW3.out.drew.mark HG4.out (fun k hk => by injection hk with hk; omega)
      have HF := HR4.out.own (base := w.heap.size) (Nat.le_refl _) (by rw [HX2.out]; omega)
      rw [HX2.out, HL3.out] at HF
      have HF2 := Lib.hid HF
      clear HF
      go_wp2
      go_ret
      exact ⟨_, rfl, HF2.out, HGW4.out⟩
  · have hkl : k < n := by omega
    obtain ⟨b, o, rfl, hb, _⟩ := HA.out (by rw [HN.out]; omega)
    have HSRC := Lib.hid (fun w1 (g : Grows w w1) => (HA.out.keep g).drop k)
    have hkn2 : ¬ n = k := by omega
    have hkc1 : ¬ c = k := by omega
    have hkc2 : ¬ k = c := by omega
    have hkm : ¬ k + m = n + m := by omega
    have hkm2 : ¬ n + m = k + m := by omega
    go_wp2_with fail
    refine wp_region_M 9 (CellsAre []) (by kernel_rfl) (by kernel_rfl) trivial (fun hB hS => ?_)
    refine wpAnyM_take (i := 0) (v := ?vb0) hB rfl (by kernel_rfl) (fun _ _ _ h => h) (by rfl) ?yb0 hS ?nb0
    case yb0 => (intro w9 hSw; go_simp; try with_reducible rfl)
    refine wpAnyM_take (i := 1) (v := ?vb1) hB rfl (by kernel_rfl) (fun _ _ _ h => h) (by rfl) ?yb1 hS ?nb1
    case yb1 => (intro w9 hSw; go_simp; try with_reducible rfl)
    refine wpAnyM_take (i := 2) (v := ?vb2) hB rfl (by kernel_rfl) (fun _ _ _ h => h) (by rfl) ?yb2 hS ?nb2
    case yb2 => (intro w9 hSw; go_simp; try with_reducible rfl)
    refine wpAnyM_take (i := 3) (v := ?vb3) hB rfl (by kernel_rfl) (fun _ _ _ h => h) (by rfl) ?yb3 hS ?nb3
    case yb3 => (intro w9 hSw; go_simp; try with_reducible rfl)
    refine wpAnyM_take (i := 4) (v := ?vb4) hB rfl (by kernel_rfl) (fun _ _ _ h => h) (by rfl) ?yb4 hS ?nb4
    case yb4 => (intro w9 hSw; go_simp; try with_reducible rfl)
    refine wpAnyM_take (i := 5) (v := ?vb5) hB rfl (by kernel_rfl) (fun _ _ _ h => h) (by rfl) ?yb5 hS ?nb5
    case yb5 => (intro w9 hSw; go_simp; try with_reducible rfl)
    refine wpAnyM_take (i := 6) (v := ?vb6) hB rfl (by kernel_rfl) (fun _ _ _ h => h) (by rfl) ?yb6 hS ?nb6
    case yb6 => (intro w9 hSw; go_simp; try with_reducible rfl)
    refine wpAnyM_take (i := 7) (v := ?vb7) hB rfl (by kernel_rfl) (fun _ _ _ h => h) (by rfl) ?yb7 hS ?nb7
    case yb7 => (intro w9 hSw; go_simp; try with_reducible rfl)
    refine wpAnyM_take (i := 8) (v := ?vb8) hB rfl (by kernel_rfl) (fun _ _ _ h => h) (by rfl) ?yb8 hS ?nb8
    case yb8 => (intro w9 hSw; go_simp; try with_reducible rfl)
    refine wpAnyM_tail (by kernel_rfl) ?_
    clear hS hB hs0 hs1 hs2 hs3
    refine copyL rfl (.tmp 29) (.tmp 32) rfl w.heap.size (k + m) X2 (ls.drop k) HR3.out.drew (some ⟨w.heap.size, (k + m) * 6, none⟩) (some ⟨b, o + k * 6, none⟩) (n + m - (k + m)) (n + m - (k + m)) (n - k) (c - k) (by simp [Act.eval, Act.put]) (by simp [Act.eval, Act.put]) (by rw [HDK.out, show n + m - (k + m) = n - k from by omega]; exact (Nat.min_self _).symm) (fun _ => rfl) (HSRC.out _ HGW3.out.drew) (by rw [HDK.out, HX2.out]; omega) ?_
    intro w4 HR4 HG4
    rw [HL3.out] at HR4
    have HGW4 : Hid (Grows w w4) := HGW3.out.drew.mark HG4.out (fun k hk => by injection hk with hk; omega)
    have HF := HR4.out.own (base := w.heap.size) (Nat.le_refl _) (by rw [HPL.out]; omega)
    rw [HPL.out] at HF
    have HF2 := Lib.hid HF
    clear HF
    go_wp2
    go_ret
    exact ⟨_, rfl, HF2.out, HGW4.out⟩

theorem putLines_any (A M : Option Addr) (mc k : Nat) (ls ms : List Ln) (w : World) (hn : ls.length ≤ 1048576) (hm : ms.length ≤ 1048576) (hm0 : 0 < ms.length) (hk : k ≤ ls.length) (hA : LnsAt w A ls) (hM : LnsAt w M ms) :
    Calls Tryd.prog 54 #[.slice A ls.length ls.length, .int .i64 k, .slice M ms.length mc] w (RetL (putL ls k ms) w) :=
  putLinesC_any A M ls.length mc k ls ms w hn hm hm0 hk (Nat.le_refl _) (fun h => absurd h (Nat.lt_irrefl _)) hA hM
end Go.Proofs.YtclopcbpelhiaaaDoor
namespace Go.Proofs.YtclopcbpelhiaaaDoor
open Go.RowKit

/-- the line of a new note -/
def noteL (v : ByteArray) : Ln := ⟨1, ⟨#[]⟩, ⟨#[]⟩, ⟨#[]⟩, v, ⟨#[]⟩⟩
def addNL (ls : List Ln) (s key note : ByteArray) : List Ln := if whereOf ls s key < 0 then [] else chkL (putL ls (whereOf ls s key).toNat [noteL note])
def addNB (ls : List Ln) (s key note : ByteArray) : Bool := if whereOf ls s key < 0 then false else vfile (putL ls (whereOf ls s key).toNat [noteL note])
theorem chkL_20 (K : List Ln) : (chkL K).length ≤ 20 := by
  unfold chkL
  split
  · rename_i h
    unfold vfile at h
    rw [Bool.and_eq_true, decide_eq_true_iff] at h
    exact h.2
  · simp
theorem addNL_le (ls : List Ln) (s key note : ByteArray) : (addNL ls s key note).length ≤ 1048576 := by
  unfold addNL
  split
  · simp
  · exact Nat.le_trans (chkL_20 _) (by omega)
theorem putL_fits {ls ms : List Ln} {k : Nat} (hf : AllFit ls) (hl : ls.length + ms.length ≤ 1048576) (hm : ∀ i (h : i < ms.length), ms[i].fits) : AllFit (putL ls k ms) := by
  have hall : ∀ l ∈ putL ls k ms, l.fits := fun l hl => by
    unfold putL at hl
    rw [List.mem_append, List.mem_append] at hl
    rcases hl with h | h | h
    · obtain ⟨i, hi, rfl⟩ := List.getElem_of_mem (List.mem_of_mem_take h); exact hf.2 i hi
    · obtain ⟨i, hi, rfl⟩ := List.getElem_of_mem h; exact hm i hi
    · obtain ⟨i, hi, rfl⟩ := List.getElem_of_mem (List.mem_of_mem_drop h); exact hf.2 i hi
  refine ⟨?_, fun i h => hall _ (List.getElem_mem h)⟩
  unfold putL
  simp
  omega
theorem line1_g (v : ByteArray) (w : World) : Calls Tryd.prog 127 #[.agg #[.string ⟨#[]⟩, .string v]] w fun e w' => e = .returned (.agg #[.int .i64 1, .string ⟨#[]⟩, .string ⟨#[]⟩, .string ⟨#[]⟩, .string v, .string ⟨#[]⟩]) ∧ Grows w w' :=
  (line_1 ⟨#[]⟩ v w).mono fun e w' ⟨h1, h2⟩ => ⟨h1, by rw [h2]; exact ((Grows.refl _).alloc _).alloc _⟩
theorem one_at (w : World) (l : Ln) (t : TypeId) : LnsAt (w.alloc (.cells #[.int .i64 l.k, .string l.le, .string l.na, .string l.se, .string l.va, .string l.ta] t)) (some ⟨w.heap.size, 0, none⟩) [l] := fun _ => by
  refine ⟨w.heap.size, 0, rfl, by simp, fun i hi => ?_⟩
  have h0 : i = 0 := by simp at hi; omega
  subst h0
  have hx := fun d => cell_of_row (w.alloc (.cells #[.int .i64 l.k, .string l.le, .string l.na, .string l.se, .string l.va, .string l.ta] t)) w.heap.size d _ _ _ (heap_alloc_new w _)
  refine ⟨?_, ?_, ?_, ?_, ?_, ?_⟩
  all_goals
    simp only [Nat.zero_mul, Nat.zero_add, Nat.add_zero]
    rw [hx]
    rfl

end Go.Proofs.YtclopcbpelhiaaaDoor
namespace Go.Proofs.YtclopcbpelhiaaaDoor
open Go.RowKit

/-- the line with another value -/
def Ln.valued (l : Ln) (v : ByteArray) : Ln := ⟨l.k, l.le, l.na, l.se, v, l.ta⟩
def Ln.tailed (l : Ln) (v : ByteArray) : Ln := ⟨l.k, l.le, l.na, l.se, l.va, v⟩
/-- these lines with a value at one place, without a tail if the value is none -/
def valL (ls : List Ln) (k : Nat) (v : ByteArray) : List Ln := if v.toList.isEmpty = true then (ls.set k ((ls[k]!).valued v)).set k (((ls[k]!).valued v).tailed ⟨#[]⟩) else ls.set k ((ls[k]!).valued v)
theorem valL_length (ls : List Ln) (k : Nat) (v : ByteArray) : (valL ls k v).length = ls.length := by unfold valL; split <;> simp
theorem lcells_setv (K : List Ln) : ∀ (k : Nat) (h : k < K.length) (v : ByteArray), (lcells K).set (k * 6 + 4) (.string v) = lcells (K.set k (K[k].valued v)) := by
  induction K with
  | nil => intro k h; exact absurd h (by simp)
  | cons l K ih =>
    intro k h v
    cases k with
    | zero => simp [lcells, lcell, Ln.valued]
    | succ k =>
      have hl : (lcell l).length = 6 := rfl
      rw [lcells, List.set_append_right _ _ (by rw [hl]; omega), hl, show (k + 1) * 6 + 4 - 6 = k * 6 + 4 from by omega, ih k (by simpa using h) v]
      simp [lcells]
theorem lcells_sett (K : List Ln) : ∀ (k : Nat) (h : k < K.length) (v : ByteArray), (lcells K).set (k * 6 + 5) (.string v) = lcells (K.set k (K[k].tailed v)) := by
  induction K with
  | nil => intro k h; exact absurd h (by simp)
  | cons l K ih =>
    intro k h v
    cases k with
    | zero => simp [lcells, lcell, Ln.tailed]
    | succ k =>
      have hl : (lcell l).length = 6 := rfl
      rw [lcells, List.set_append_right _ _ (by rw [hl]; omega), hl, show (k + 1) * 6 + 5 - 6 = k * 6 + 5 from by omega, ih k (by simpa using h) v]
      simp [lcells]

theorem RowL.valued {w : World} {g : Nat} {K : List Ln} (h : RowL w g K) {k : Nat} (hk : k < K.length) (v : ByteArray) : RowL (w.setCell ⟨g, k * 6 + 4, none⟩ (.string v)) g (K.set k (K[k].valued v)) := by
  unfold RowL at h ⊢
  rw [← lcells_setv K k hk v]
  simp [World.setCell, Array.getElem?_modify, h]
theorem RowL.tailed {w : World} {g : Nat} {K : List Ln} (h : RowL w g K) {k : Nat} (hk : k < K.length) (v : ByteArray) : RowL (w.setCell ⟨g, k * 6 + 5, none⟩ (.string v)) g (K.set k (K[k].tailed v)) := by
  unfold RowL at h ⊢
  rw [← lcells_sett K k hk v]
  simp [World.setCell, Array.getElem?_modify, h]

set_option maxRecDepth 100000 in
set_option maxHeartbeats 2000000 in
theorem valueLines_any (A : Option Addr) (c : Nat) (ls : List Ln) (k : Nat) (v : ByteArray) (w : World) (hn : ls.length ≤ 1048576) (hk : k < ls.length) (hA : LnsAt w A ls) :
    Calls Tryd.prog 52 #[.slice A ls.length c, .int .i64 k, .string v] w (RetL (valL ls k v) w) := by
  have HC := Lib.hid (copyLines_any A c ls w hn hA)
  have HV0 : Hid (valL ls k v = if v.toList.isEmpty = true then (ls.set k (ls[k].valued v)).set k ((ls[k].valued v).tailed ⟨#[]⟩) else ls.set k (ls[k].valued v)) := by
    unfold Hid valL
    rw [get_bang hk]
  have HVL := Lib.hid (valL_length ls k v)
  clear hA
  obtain ⟨n, hnn⟩ : ∃ n, ls.length = n := ⟨_, rfl⟩
  rw [hnn] at HC HVL hn
  have HK := Lib.hid hk
  rw [hnn] at hk ⊢
  have HN := Lib.hid hnn
  clear hnn
  obtain ⟨V, hVV⟩ : ∃ V, valL ls k v = V := ⟨_, rfl⟩
  rw [hVV] at HV0 HVL ⊢
  clear hVV
  have hrun : ∀ w1 : World, RowL w1 w.heap.size ls → (∃ u4 u5, w1.cell? ⟨w.heap.size, k * 6 + 4, none⟩ = some u4 ∧ (w1.setCell ⟨w.heap.size, k * 6 + 4, none⟩ (.string v)).cell? ⟨w.heap.size, k * 6 + 5, none⟩ = some u5) ∧ w1.frozen? ⟨w.heap.size, k * 6 + 4, none⟩ = false ∧ (w1.setCell ⟨w.heap.size, k * 6 + 4, none⟩ (.string v)).frozen? ⟨w.heap.size, k * 6 + 5, none⟩ = false := fun w1 h => by
    have h2 := h.valued (k := k) HK.out v
    refine ⟨⟨_, _, (h.cellAt (k * 6 + 4)).trans (List.getElem?_eq_getElem (by rw [lcells_length, HN.out]; omega)), (h2.cellAt (k * 6 + 5)).trans (List.getElem?_eq_getElem (by rw [lcells_length, List.length_set, HN.out]; omega))⟩, h.free _, h2.free _⟩
  have HRUN := Lib.hid hrun
  clear hrun
  by_cases he : v.toList.isEmpty = true
  · have HV : Hid (V = (ls.set k (ls[k]'HK.out |>.valued v)).set k (((ls[k]'HK.out).valued v).tailed ⟨#[]⟩)) := by unfold Hid; rw [HV0.out, if_pos he]
    have he1 : v.toList = [] := by simpa using he
    clear he
    go_enter Tryd.func52, Tryd.ntmps52
    go_wp2_with fail
    refine (HC.out).mono ?_
    rintro e w1 ⟨rfl, hr, g1⟩
    have HR1 := Lib.hid hr
    have HG1 := Lib.hid g1
    obtain ⟨⟨u4, u5, d4, d5⟩, d6, d7⟩ := HRUN.out w1 hr
    have HR2 : Hid (RowL ((w1.setCell ⟨w.heap.size, k * 6 + 4, none⟩ (.string v)).setCell ⟨w.heap.size, k * 6 + 5, none⟩ (.string ⟨#[]⟩)) w.heap.size V) := by
      have h := (hr.valued HK.out v).tailed (k := k) (by rw [List.length_set]; exact HK.out) ⟨#[]⟩
      rw [List.getElem_set_self] at h
      rw [HV.out]
      exact h
    clear hr g1
    go_wp2
    go_ret
    have h8 := HR2.out.own (base := w.heap.size) (Nat.le_refl _) (by rw [HVL.out]; omega)
    rw [HVL.out] at h8
    exact ⟨_, rfl, h8, (HG1.out.setCell (Nat.le_refl _) _).setCell (Nat.le_refl _) _⟩
  · have HV : Hid (V = ls.set k ((ls[k]'HK.out).valued v)) := by unfold Hid; rw [HV0.out, if_neg he]
    have he1 : v.toList.isEmpty = false := by simpa using he
    have he2 : ¬ v.toList = [] := by intro h; rw [h] at he; simp at he
    clear he
    go_enter Tryd.func52, Tryd.ntmps52
    go_wp2_with fail
    refine (HC.out).mono ?_
    rintro e w1 ⟨rfl, hr, g1⟩
    have HR1 := Lib.hid hr
    have HG1 := Lib.hid g1
    obtain ⟨⟨u4, u5, d4, d5⟩, d6, d7⟩ := HRUN.out w1 hr
    have HR2 : Hid (RowL (w1.setCell ⟨w.heap.size, k * 6 + 4, none⟩ (.string v)) w.heap.size V) := by
      have h := hr.valued HK.out v
      rw [HV.out]
      exact h
    clear hr g1
    go_wp2
    go_ret
    have h8 := HR2.out.own (base := w.heap.size) (Nat.le_refl _) (by rw [HVL.out]; omega)
    rw [HVL.out] at h8
    exact ⟨_, rfl, h8, HG1.out.setCell (Nat.le_refl _) _⟩

/-! ### more lines than a file may have -/
theorem vfile_big {ls : List Ln} (h : 20 < ls.length) : vfile ls = false := by
  unfold vfile
  rw [decide_eq_false (by omega), Bool.and_false]
set_option maxHeartbeats 1000000 in
theorem implFile_big (A : Option Addr) (c : Nat) (ls : List Ln) (w : World) (h20 : 20 < ls.length) (hn : ls.length ≤ maxLen) :
    Calls Tryd.prog 43 #[.agg #[.slice A ls.length c]] w fun e w' => e = .returned (.bool (vfile ls)) ∧ Grows w w' := by
  have HV : Hid (vfile ls = false) := vfile_big h20
  obtain ⟨n, hnn⟩ : ∃ n, ls.length = n := ⟨_, rfl⟩
  rw [hnn] at hn h20
  rw [hnn]
  clear hnn
  unfold maxLen at hn
  go_enter Tryd.func43, Tryd.ntmps43
  go_wp2
  go_ret
  exact ⟨ret_bool HV.out.symm, (Grows.refl _).alloc _⟩
set_option maxHeartbeats 1000000 in
theorem validLines_all (v : Value) (base : Nat) (K : List Ln) (w : World) (hf : K.length ≤ 20 → AllFit K) (h : OwnL w base v K) (hn : K.length ≤ maxLen) :
    Calls Tryd.prog 51 #[v] w (ChkRet K base w) := by
  by_cases h20 : K.length ≤ 20
  · exact validLines_any v base K w (hf h20) h
  · obtain ⟨A, c, hv, hA⟩ := h.form
    subst hv
    have HF := Lib.hid (fun w1 => implFile_big A c K w1 (by omega) hn)
    have hv' : vfile K = false := vfile_big (by omega)
    rw [hv'] at HF
    have HK : Hid (chkL K = [] ∧ vfile K = false) := ⟨by unfold chkL; rw [if_neg (by rw [hv']; simp)], hv'⟩
    clear hv' hA h hf
    go_enter Tryd.func51, Tryd.ntmps51
    go_wp2_with fail
    refine (HF.out _).mono ?_
    rintro e w1 ⟨rfl, g1⟩
    have G1 : Grows ((w.alloc (fbox none 0 0)).alloc (fbox A K.length c)) w1 := g1
    have h1 : w1.cell? ⟨w.heap.size, 0, none⟩ = some (.slice none 0 0) := (G1.cell (p := ⟨w.heap.size, 0, none⟩) (by simp; omega)).trans (by simp [fbox])
    have h2 : w1.frozen? ⟨w.heap.size, 0, none⟩ = false := (G1.frozen (p := ⟨w.heap.size, 0, none⟩) (by simp; omega)).trans (by simp [fbox])
    have HG1 : Hid (Grows w w1) := (((Grows.refl _).alloc _).alloc _).trans g1
    clear g1 G1
    go_wp2
    refine bodyPost_ret (v := .tuple #[.agg #[.slice none 0 0], .bool false]) (by simp [results, Tryd.results51, go_sem, h1]) rfl ?_
    unfold ChkRet
    rw [HK.out.1, HK.out.2]
    exact ⟨_, rfl, OwnL.nil _ _, HG1.out.setCell (by simp) _⟩

/-! ### the lines of SetValue -/
def setR (ls : List Ln) (s key v : ByteArray) : List Ln :=
  if 0 ≤ whereOf ls s key then valL ls (whereOf ls s key).toNat v
  else if s.toList.isEmpty = false ∧ headsOf' ls s = [] then putL ls ls.length [headL s, pairL key v]
  else putL ls (endOf' ls s) [pairL key v]
def setL (ls : List Ln) (s key v : ByteArray) : List Ln := chkL (setR ls s key v)
def setB (ls : List Ln) (s key v : ByteArray) : Bool := vfile (setR ls s key v)
theorem setL_le (ls : List Ln) (s key v : ByteArray) : (setL ls s key v).length ≤ 1048576 := Nat.le_trans (chkL_20 _) (by omega)
end Go.Proofs.YtclopcbpelhiaaaDoor
namespace Go.Proofs.YtclopcbpelhiaaaDoor
open Go.RowKit

theorem put_valid {ls ms : List Ln} {k : Nat} (h : vfile (putL ls k ms) = true) : vfile ls = true ∧ ∀ m ∈ ms, vline m = true := by
  rw [vfile_mem] at h
  obtain ⟨h1, h2⟩ := h
  unfold putL at h1 h2
  refine ⟨vfile_mem.2 ⟨fun l hl => ?_, ?_⟩, fun m hm => h1 m (by simp [hm])⟩
  · refine h1 l ?_
    have hl2 : l ∈ ls.take k ++ ls.drop k := by rw [List.take_append_drop]; exact hl
    rcases List.mem_append.1 hl2 with h3 | h3
    · simp [h3]
    · simp [h3]
  · rw [List.length_append, List.length_append, List.length_take, List.length_drop] at h2
    omega
theorem lastP_pair {ls : List Ln} {s key : ByteArray} : ∀ {k q : Nat}, lastP ls s key k = (q : Int) → isPair ls s key q = true := by
  intro k
  induction k with
  | zero => intro q h; exact absurd (show (-1 : Int) = q from h) (by omega)
  | succ k ih =>
    intro q h
    by_cases hp : isPair ls s key k = true
    · rw [lastP_yes hp] at h
      have : k = q := by omega
      exact this ▸ hp
    · rw [lastP_no (by simpa using hp)] at h
      exact ih h
theorem vline_pair {k v : ByteArray} (h : vline (pairL k v) = true) : vname k = true ∧ vvalue v = true := by
  have h : (vspaces _ && (vname k && (vsep newSep && (vvalue v && _)))) = true := h
  simp only [Bool.and_eq_true] at h
  exact ⟨h.2.1, h.2.2.2.1⟩
theorem vline_head {s : ByteArray} (h : vline (headL s) = true) : vname s = true := by
  have h : (vspaces _ && (vname s && _)) = true := h
  simp only [Bool.and_eq_true] at h
  exact h.2.1
/-- the arguments that SetValue takes -/
def setOk (ls : List Ln) (s key v : ByteArray) : Bool := vfile ls && ((s.toList.isEmpty || vname s) && (vname key && vvalue v))
theorem set_ok {ls : List Ln} {s key v : ByteArray} (h : vfile (setR ls s key v) = true) : setOk ls s key v = true := by
  unfold setR at h
  unfold setOk
  by_cases h0 : 0 ≤ whereOf ls s key
  · rw [if_pos h0] at h
    obtain ⟨k, hk⟩ : ∃ k : Nat, whereOf ls s key = k := ⟨(whereOf ls s key).toNat, by omega⟩
    have hkl : k < ls.length := by have := where_lt ls s key; omega
    have hv := (pairs_some (ls := ls) (s := s) (key := key) (by omega)).1
    rw [hk, Int.toNat_natCast] at h
    rw [whereOf_yes s key hv] at hk
    have hp := lastP_pair hk
    unfold isPair isKey at hp
    rw [Bool.and_eq_true, Bool.and_eq_true, get_bang hkl] at hp
    have h3 : ls[k].k = 3 := by simpa using hp.1.1
    have hkn : ls[k].na = key := toList_inj (eq_of_beq hp.1.2)
    have h1 := vline_3p h3 (vfile_line hv k hkl)
    rw [hkn] at h1
    have hvv : vvalue v = true := by
      unfold valL at h
      rw [get_bang hkl] at h
      split at h
      · have h9 := vfile_line h k (by simp; exact hkl)
        rw [List.getElem_set_self] at h9
        exact (vline_3p (by exact h3) h9).2
      · have h9 := vfile_line h k (by simp; exact hkl)
        rw [List.getElem_set_self] at h9
        exact (vline_3p (by exact h3) h9).2
    rw [hv, sec_name hv hkl hp.2, h1.1, hvv]
    rfl
  · rw [if_neg h0] at h
    by_cases hc : s.toList.isEmpty = false ∧ headsOf' ls s = []
    · rw [if_pos hc] at h
      obtain ⟨h1, h2⟩ := put_valid h
      have h3 := vline_head (h2 (headL s) (by simp))
      have h4 := vline_pair (h2 (pairL key v) (by simp))
      rw [h1, h3, h4.1, h4.2, Bool.or_true]
      rfl
    · rw [if_neg hc] at h
      obtain ⟨h1, h2⟩ := put_valid h
      have h4 := vline_pair (h2 (pairL key v) (by simp))
      have h5 : (s.toList.isEmpty || vname s) = true := by
        rcases he : s.toList.isEmpty with _ | _
        · have h6 : headsOf' ls s ≠ [] := fun e => hc ⟨he, e⟩
          obtain ⟨j, hj⟩ := List.exists_mem_of_ne_nil _ h6
          rw [headsOf_eq s h1, List.mem_filter, List.mem_range] at hj
          obtain ⟨hj1, hj2⟩ := hj
          unfold headP at hj2
          rw [Bool.and_eq_true] at hj2
          have h7 := head_name h1 hj1 hj2.1
          rw [toList_inj (eq_of_beq hj2.2)] at h7
          rw [h7]; rfl
        · rfl
      rw [h1, h5, h4.1, h4.2]
      rfl
theorem set_no {ls : List Ln} {s key v : ByteArray} (h : setOk ls s key v = false) : setL ls s key v = [] ∧ setB ls s key v = false := by
  have h1 : vfile (setR ls s key v) = false := by
    rcases hb : vfile (setR ls s key v) with _ | _
    · rfl
    · rw [set_ok hb] at h; cases h
  unfold setL setB chkL
  rw [if_neg (by rw [h1]; simp), h1]
  exact ⟨rfl, rfl⟩
/-- with good arguments, as the specification tells the lines -/
theorem set_old {ls : List Ln} {s key v : ByteArray} {k : Nat} (hv : vfile ls = true) (h : lastP ls s key ls.length = (k : Int)) : setR ls s key v = valL ls k v := by
  unfold setR
  rw [whereOf_yes s key hv, h, if_pos (by omega), Int.toNat_natCast]
theorem set_sec {ls : List Ln} {s key v : ByteArray} (hv : vfile ls = true) (h : lastP ls s key ls.length < 0) (hp : placeTo ls s ls.length = -2) : setR ls s key v = putL ls ls.length [headL s, pairL key v] := by
  unfold setR
  rw [whereOf_yes s key hv, if_neg (by omega)]
  have he : s.toList.isEmpty = false := by
    rcases he : s.toList.isEmpty with _ | _
    · rfl
    · have := (placeTo_lt ls s ls.length).2.2 he
      omega
  rw [if_pos ⟨he, (place_heads hv he).1 (by omega)⟩]
theorem set_new {ls : List Ln} {s key v : ByteArray} {k : Nat} (hv : vfile ls = true) (h : lastP ls s key ls.length < 0) (hp : placeTo ls s ls.length + 1 = (k : Int)) : setR ls s key v = putL ls k [pairL key v] := by
  unfold setR
  rw [whereOf_yes s key hv, if_neg (by omega)]
  have hk : endOf' ls s = k := by
    have := end_place s hv
    split at this <;> omega
  rw [if_neg, hk]
  rintro ⟨he, hh⟩
  have h1 := (place_heads hv he).2 hh
  have h2 : placeTo ls s ls.length = -1 := by omega
  have h3 : ∀ j, placeTo ls s j < 0 → placeTo ls s j = -2 := by
    intro j
    induction j with
    | zero => intro _; show (if s.toList.isEmpty = true then (-1 : Int) else -2) = -2; rw [if_neg (by rw [he]; simp)]
    | succ j ih =>
      intro hj
      by_cases h9 : (inSec ls s j && secLine ls j) = true
      · rw [placeTo_yes h9] at hj; omega
      · rw [placeTo_no (by simpa using h9)] at hj ⊢; exact ih hj
  have := h3 _ h1
  omega
end Go.Proofs.YtclopcbpelhiaaaDoor
