/-
  The place behind the last head or pair of a section: endOf of the program. Conditions: at most 1048576 bytes in all.
-/
import Derived.Test.YthgfmbhopppkmaaHeads
import Derived.Test.YthgfmbhopppkmaaCopyF
namespace Go.Proofs.Ythgfmbhopppkmaa
open Go.RowKit

/-- the place behind the last head or pair of these lines -/
def endF (ls : List Ln) : List Nat → Nat → Nat
  | [], e => e
  | i :: L, e => endF ls L (if secLine ls i = true then i + 1 else e)
theorem endF_append (ls : List Ln) (L M : List Nat) (e : Nat) : endF ls (L ++ M) e = endF ls M (endF ls L e) := by
  induction L generalizing e with
  | nil => rfl
  | cons i L ih => exact ih _
def endOf' (ls : List Ln) (s : ByteArray) : Nat := endF ls (secOf ls s) 0
theorem endTo_place (ls : List Ln) (s : ByteArray) : ∀ k, (endF ls (secTo ls s k) 0 : Int) = if 0 ≤ placeTo ls s k then placeTo ls s k + 1 else 0 := by
  intro k
  induction k with
  | zero =>
    have h := (placeTo_lt ls s 0).1
    rw [if_neg (by omega)]
    rfl
  | succ k ih =>
    by_cases h1 : inSec ls s k = true
    · rw [secTo_yes h1, endF_append]
      by_cases h2 : secLine ls k = true
      · rw [placeTo_yes (by rw [h1, h2]; rfl), if_pos (by omega)]
        show ((if secLine ls k = true then k + 1 else _ : Nat) : Int) = _
        rw [if_pos h2]; omega
      · rw [placeTo_no (by rw [h1]; simpa using h2), ← ih]
        show ((if secLine ls k = true then k + 1 else _ : Nat) : Int) = _
        rw [if_neg h2]
    · rw [secTo_no (by simpa using h1), placeTo_no (by simp [h1]), ih]
/-- where the program and the specification put a new pair of a section -/
theorem end_place {ls : List Ln} (s : ByteArray) (hv : vfile ls = true) : (endOf' ls s : Int) = if 0 ≤ placeTo ls s ls.length then placeTo ls s ls.length + 1 else 0 := by
  unfold endOf' secOf
  rw [if_pos hv]
  exact endTo_place ls s ls.length
theorem end_no {ls : List Ln} (s : ByteArray) (hv : vfile ls = false) : endOf' ls s = 0 := by
  unfold endOf' secOf
  rw [if_neg (by rw [hv]; simp)]
  rfl
theorem endF_le {ls : List Ln} {n : Nat} : ∀ (L : List Nat) (e : Nat), (∀ i ∈ L, i < n) → e ≤ n → endF ls L e ≤ n := by
  intro L
  induction L with
  | nil => intro e _ h; exact h
  | cons i L ih =>
    intro e h1 h2
    refine ih _ (fun j hj => h1 j (by simp [hj])) ?_
    have := h1 i (by simp)
    split <;> omega
theorem endOf_le (ls : List Ln) (s : ByteArray) : endOf' ls s ≤ ls.length := endF_le _ _ (fun _ h => secOf_lt h) (Nat.zero_le _)

set_option maxRecDepth 100000 in
set_option maxHeartbeats 2000000 in
theorem endOf_any (A : Option Addr) (c : Nat) (ls : List Ln) (s : ByteArray) (w : World) (hf : AllFit ls) (hA : LnsAt w A ls) :
    Calls Try.prog 66 #[.agg #[.slice A ls.length c], .string s] w fun e w' => e = .returned (.int .i64 (endOf' ls s : Int)) ∧ Grows w w' := by
  have HF := Lib.hid (fun w1 (g : Grows w w1) => linesIn_all A c ls s w1 hf (hA.keep g))
  have HA := Lib.hid hA
  have hn : ls.length ≤ 1048576 := hf.1
  have HE : Hid (endF ls (secOf ls s) 0 = endOf' ls s) := rfl
  have HLT : Hid (∀ i (h : i < (secOf ls s).length), (secOf ls s)[i] < ls.length) := fun i h => secOf_lt (List.getElem_mem h)
  have HVL : Hid (∀ i (_ : i < (secOf ls s).length) j (hj : j < ls.length), vline ls[j] = true) := fun i h j hj => by
    refine vfile_line ?_ j hj
    rcases hv : vfile ls with _ | _
    · unfold secOf at h
      rw [if_neg (by rw [hv]; simp)] at h
      exact absurd h (by simp)
    · rfl
  have hL := secOf_le ls s
  clear hA hf
  obtain ⟨L, hLL⟩ : ∃ L, secOf ls s = L := ⟨_, rfl⟩
  rw [hLL] at HF HE HLT HVL hL
  clear hLL
  obtain ⟨E, hEE⟩ : ∃ E, endOf' ls s = E := ⟨_, rfl⟩
  rw [hEE] at HE ⊢
  clear hEE
  obtain ⟨n, hnn⟩ : ∃ n, ls.length = n := ⟨_, rfl⟩
  rw [hnn] at hn HF HLT hL
  rw [hnn]
  have HN := Lib.hid hnn
  clear hnn
  go_enter Try.func66, Try.ntmps66
  go_wp2_with fail
  refine (HF.out _ ((Grows.refl _).alloc _)).mono ?_
  rintro e w1 ⟨A1, c1, rfl, hv1, g1, _⟩
  have HG0 : Hid (Grows (w.alloc (fbox A n c)) w1) := g1
  have HV1 := Lib.hid hv1
  have HG1 : Hid (Grows w w1) := ((Grows.refl _).alloc _).trans g1
  clear g1 hv1
  rw [ints_length]
  obtain ⟨p, hp⟩ : ∃ p, L.length = p := ⟨_, rfl⟩
  rw [hp]
  rw [hp] at hL
  have HP := Lib.hid hp
  clear hp
  go_wp2_with fail
  go_loopw [5, 12] (fun v i wr => ∃ (j E : Nat), j ≤ p ∧ i = .int .i64 j ∧ v = .int .i64 E ∧ Hid (E = endF ls (L.take j) 0) ∧ Hid (Grows w1 wr)) (fun _ i _ => p - (intOf i).toNat)
  case atStart => exact ⟨0, 0, Nat.zero_le _, rfl, rfl, rfl, Grows.refl _⟩
  case round =>
    obtain ⟨j, E1, hj, rfl, rfl, HR, HG⟩ := hrel
    have hb0 : wr.cell? ⟨w.heap.size, 0, none⟩ = some (.slice A n c) := ((HG0.out.trans HG.out).cell (p := ⟨w.heap.size, 0, none⟩) (by simp)).trans (by simp [fbox])
    by_cases hlt : j < p
    · have hjL : j < L.length := by rw [HP.out]; exact hlt
      have hx := HLT.out j hjL
      have hTS : L.take (j + 1) = L.take j ++ [L[j]] := List.take_succ_eq_append_getElem hjL
      obtain ⟨b1, o1, rfl, hb1, hc1⟩ := HV1.out (by rw [ints_length]; omega)
      have d0 := hc1 j (by rw [ints_length]; exact hjL)
      have hix : (ints L)[j]'(by rw [ints_length]; exact hjL) = Value.int .i64 (L[j] : Int) := by simp [ints]
      rw [hix] at d0
      obtain ⟨x, hxx⟩ : ∃ x, L[j] = x := ⟨_, rfl⟩
      rw [hxx] at hx hTS d0
      have d1 : wr.cell? ⟨b1, o1 + j, none⟩ = some (.int .i64 x) := (HG.out.cell (p := ⟨b1, o1 + j, none⟩) hb1).trans d0
      obtain ⟨b, o, rfl, hb, hc⟩ := HA.out (by rw [HN.out]; omega)
      have hk2 : x < ls.length := by rw [HN.out]; exact hx
      have hsu := get_bang hk2
      have hvl := HVL.out j hjL x hk2
      obtain ⟨l, hl⟩ : ∃ l, ls[x] = l := ⟨_, rfl⟩
      have hat := (hc x hk2).keep hb (HG1.out.trans HG.out)
      rw [hl] at hat hsu hvl
      obtain ⟨c0, c1', c2, c3, c4, c5⟩ := hat
      have HST : Hid (endF ls (L.take (j + 1)) 0 = if (l.k == 2 || l.k == 3) = true then x + 1 else E1) := by
        unfold Hid
        rw [hTS, endF_append, HR.out, ← hsu]; rfl
      clear hl hc hc1 hix d0 hxx hTS hsu
      have hkk := vline_k hvl
      clear hvl
      obtain ⟨lk, le, na, se, va, ta⟩ := l
      rcases hkk with rfl | rfl | rfl | rfl
      · have HFO := Lib.hid (fun w => formOf_0 le na se va ta w)
        unfold Ln.agg Ln.box at HFO
        have t2 := ta_0_2 (.agg #[.string le])
        have t3 := ta_0_3 (.agg #[.string le])
        have HS2 : Hid (endF ls (L.take (j + 1)) 0 = E1) := HST.out
        go_wp2_with (go_at_call 82; refine (HFO.out _).mono ?_; rintro e w' ⟨rfl, rfl⟩)
        go_roundw
        case rel => exact ⟨j + 1, E1, by omega, by go_num, rfl, HS2.out.symm, by repeat (first | exact HG.out | refine Grows.alloc ?_ _)⟩
        case measure => simp [intOf]; omega
      · have HFO := Lib.hid (fun w => formOf_1 le na se va ta w)
        unfold Ln.agg Ln.box at HFO
        have t2 := ta_1_2 (.agg #[.string le, .string va])
        have t3 := ta_1_3 (.agg #[.string le, .string va])
        have HS2 : Hid (endF ls (L.take (j + 1)) 0 = E1) := HST.out
        go_wp2_with (go_at_call 82; refine (HFO.out _).mono ?_; rintro e w' ⟨rfl, rfl⟩)
        go_roundw
        case rel => exact ⟨j + 1, E1, by omega, by go_num, rfl, HS2.out.symm, by repeat (first | exact HG.out | refine Grows.alloc ?_ _)⟩
        case measure => simp [intOf]; omega
      · have HFO := Lib.hid (fun w => formOf_2 le na se va ta w)
        unfold Ln.agg Ln.box at HFO
        have t2 := ta_2_2 (.agg #[.string le, .string na, .string ta])
        have t3 := ta_2_3 (.agg #[.string le, .string na, .string ta])
        have HS2 : Hid (endF ls (L.take (j + 1)) 0 = x + 1) := HST.out
        go_wp2_with (go_at_call 82; refine (HFO.out _).mono ?_; rintro e w' ⟨rfl, rfl⟩)
        go_roundw
        case rel => exact ⟨j + 1, x + 1, by omega, by go_num, by go_num, HS2.out.symm, by repeat (first | exact HG.out | refine Grows.alloc ?_ _)⟩
        case measure => simp [intOf]; omega
      · have HFO := Lib.hid (fun w => formOf_3 le na se va ta w)
        unfold Ln.agg Ln.box at HFO
        have t2 := ta_3_2 (.agg #[.string le, .string na, .string se, .string va, .string ta])
        have t3 := ta_3_3 (.agg #[.string le, .string na, .string se, .string va, .string ta])
        have HS2 : Hid (endF ls (L.take (j + 1)) 0 = x + 1) := HST.out
        go_wp2_with (go_at_call 82; refine (HFO.out _).mono ?_; rintro e w' ⟨rfl, rfl⟩)
        go_roundw
        case rel => exact ⟨j + 1, x + 1, by omega, by go_num, by go_num, HS2.out.symm, by repeat (first | exact HG.out | refine Grows.alloc ?_ _)⟩
        case measure => simp [intOf]; omega
    · obtain rfl : j = p := by omega
      have HRR : Hid (E1 = E) := by
        unfold Hid
        rw [← HE.out, HR.out, ← HP.out, List.take_length]
      go_wp2
      go_ret
      exact ⟨ret_int (by rw [HRR.out]), HG1.out.trans HG.out⟩

end Go.Proofs.Ythgfmbhopppkmaa
