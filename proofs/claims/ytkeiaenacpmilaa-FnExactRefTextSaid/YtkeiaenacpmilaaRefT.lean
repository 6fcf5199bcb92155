/-
  The text of a reference: RefText of both sides, and its law. Conditions: parts no longer than a text may be.
-/
import Derived.Test.YtkeiaenacpmilaaPlc
import Derived.Test.YtkeiaenacpmilaaHelp
import Derived.ProofKit
import Derived.Deep.Slices
import Derived.Deep.Fields
import Derived.ChangeSame
import Derived.ShutString
namespace Go.Proofs.Ytkeiaenacpmilaa
open Go.ChangeShapes Go.WideShapes Go.Deep Go.RowKit

/-- the text of a reference to the key k of the section r, in the section s -/
def rtext (s r k : ByteArray) : ByteArray := if (r.toList == s.toList) = true then ⟨#[36, 123]⟩ ++ k ++ ⟨#[125]⟩ else ⟨#[36, 123]⟩ ++ r ++ ⟨#[58]⟩ ++ k ++ ⟨#[125]⟩
/-- what RefText makes -/
def refB (s r k : ByteArray) : Bool := vsec s && vplace r k
def refT (s r k : ByteArray) : ByteArray := if refB s r k = true then rtext s r k else ⟨#[]⟩

set_option maxHeartbeats 1000000 in
theorem specRtext_any (s r k : ByteArray) (w : World) (hr : r.size ≤ 1048576) (hk : k.size ≤ 1048576) :
    Calls Try.prog 10 #[.string s, .agg #[.string r, .string k]] w fun e w' => e = .returned (.string (rtext s r k)) ∧ Grows w w' := by
  by_cases h : (r.toList == s.toList) = true
  · have HV : Hid (rtext s r k = ⟨#[36, 123]⟩ ++ k ++ ⟨#[125]⟩) := by unfold Hid rtext; rw [if_pos h]
    go_enter Try.func10, Try.ntmps10
    go_wp2
    go_ret
    exact ⟨ret_str HV.out.symm, (Grows.refl _).alloc _⟩
  · have h' : (r.toList == s.toList) = false := by simpa using h
    have HV : Hid (rtext s r k = ⟨#[36, 123]⟩ ++ r ++ ⟨#[58]⟩ ++ k ++ ⟨#[125]⟩) := by unfold Hid rtext; rw [if_neg h]
    clear h
    go_enter Try.func10, Try.ntmps10
    go_wp2
    go_ret
    exact ⟨ret_str HV.out.symm, (Grows.refl _).alloc _⟩

set_option maxHeartbeats 2000000 in
theorem specRef_any (s r k : ByteArray) (w : World) (hs : s.size ≤ 1048576) (hr : r.size ≤ 1048576) (hk : k.size ≤ 1048576) :
    Calls Try.prog 5 #[.string s, .agg #[.string r, .string k]] w fun e w' => e = .returned (.string (refT s r k)) ∧ Grows w w' := by
  have HN := Lib.hid (fun w => specName_any s w hs)
  have HP := Lib.hid (fun w => specPlace_any r k w hr hk)
  have HT := Lib.hid (fun w => specRtext_any s r k w hr hk)
  have HB : Hid (∀ a b, vsec s = a → vplace r k = b → refT s r k = if (a && b) = true then rtext s r k else ⟨#[]⟩) := fun a b h1 h2 => by subst h1 h2; rfl
  obtain ⟨t, ht⟩ : ∃ t, rtext s r k = t := ⟨_, rfl⟩
  rw [ht] at HT HB
  clear ht
  by_cases hl : s.toList = []
  · have hl2 : s.toList.isEmpty = true := by simp [hl]
    have hv1 : Hid (vsec s = true) := vsec_nil hl
    by_cases h2 : vplace r k = true
    · have HV : Hid (refT s r k = t) := by unfold Hid; rw [HB.out true true hv1.out h2]; rfl
      rw [h2] at HP
      clear h2
      go_enter Try.func5, Try.ntmps5
      go_wp2_with fail
      refine (HP.out _).mono ?_
      rintro e w' ⟨rfl, rfl⟩
      go_wp2_with fail
      refine (HT.out _).mono ?_
      rintro e w1 ⟨rfl, g1⟩
      go_wp2
      go_ret
      exact ⟨ret_str HV.out.symm, ((Grows.refl _).alloc _).trans g1⟩
    · have h2' : vplace r k = false := by simpa using h2
      have HV : Hid (refT s r k = ⟨#[]⟩) := by unfold Hid; rw [HB.out true false hv1.out h2']; rfl
      rw [h2'] at HP
      clear h2 h2'
      go_enter Try.func5, Try.ntmps5
      go_wp2_with fail
      refine (HP.out _).mono ?_
      rintro e w' ⟨rfl, rfl⟩
      go_wp2
      go_ret
      exact ⟨ret_str HV.out.symm, (Grows.refl _).alloc _⟩
  · have hl2 : s.toList.isEmpty = false := by simp [hl]
    by_cases hv : vname s = true
    · have hv1 : Hid (vsec s = true) := by unfold Hid; rw [vsec_ne hl, hv]
      rw [hv] at HN
      clear hv
      by_cases h2 : vplace r k = true
      · have HV : Hid (refT s r k = t) := by unfold Hid; rw [HB.out true true hv1.out h2]; rfl
        rw [h2] at HP
        clear h2
        go_enter Try.func5, Try.ntmps5
        go_wp2_with fail
        refine (HN.out _).mono ?_
        rintro e w' ⟨rfl, rfl⟩
        go_wp2_with fail
        refine (HP.out _).mono ?_
        rintro e w' ⟨rfl, rfl⟩
        go_wp2_with fail
        refine (HT.out _).mono ?_
        rintro e w1 ⟨rfl, g1⟩
        go_wp2
        go_ret
        exact ⟨ret_str HV.out.symm, ((Grows.refl _).alloc _).trans g1⟩
      · have h2' : vplace r k = false := by simpa using h2
        have HV : Hid (refT s r k = ⟨#[]⟩) := by unfold Hid; rw [HB.out true false hv1.out h2']; rfl
        rw [h2'] at HP
        clear h2 h2'
        go_enter Try.func5, Try.ntmps5
        go_wp2_with fail
        refine (HN.out _).mono ?_
        rintro e w' ⟨rfl, rfl⟩
        go_wp2_with fail
        refine (HP.out _).mono ?_
        rintro e w' ⟨rfl, rfl⟩
        go_wp2
        go_ret
        exact ⟨ret_str HV.out.symm, (Grows.refl _).alloc _⟩
    · have hv' : vname s = false := by simpa using hv
      have HV : Hid (refT s r k = ⟨#[]⟩) := by unfold Hid; rw [HB.out false _ (by rw [vsec_ne hl, hv']) rfl]; simp
      rw [hv'] at HN
      clear hv hv'
      go_enter Try.func5, Try.ntmps5
      go_wp2_with fail
      refine (HN.out _).mono ?_
      rintro e w' ⟨rfl, rfl⟩
      go_wp2
      go_ret
      exact ⟨ret_str HV.out.symm, (Grows.refl _).alloc _⟩

set_option maxHeartbeats 2000000 in
theorem implRef_any (s r k : ByteArray) (w : World) (hs : s.size ≤ 1048576) (hr : r.size ≤ 1048576) (hk : k.size ≤ 1048576) :
    Calls Try.prog 7 #[.string s, .agg #[.string r, .string k]] w fun e w' => e = .returned (.string (refT s r k)) ∧ Grows w w' := by
  have HS := Lib.hid (fun w => implSec_any s w hs)
  have HP := Lib.hid (fun w => implPlace_any r k w hr hk)
  have HB : Hid (∀ a b, vsec s = a → vplace r k = b → refT s r k = if (a && b) = true then rtext s r k else ⟨#[]⟩) := fun a b h1 h2 => by subst h1 h2; rfl
  by_cases h1 : vsec s = true
  · rw [h1] at HS
    by_cases h2 : vplace r k = true
    · have HV : Hid (refT s r k = rtext s r k) := by unfold Hid; rw [HB.out true true h1 h2]; rfl
      rw [h2] at HP
      clear h1 h2
      by_cases h : (r.toList == s.toList) = true
      · have HZ : Hid (rtext s r k = ⟨#[36, 123]⟩ ++ k ++ ⟨#[125]⟩) := by unfold Hid rtext; rw [if_pos h]
        go_enter Try.func7, Try.ntmps7
        go_wp2_with fail
        refine (HS.out _).mono ?_
        rintro e w1 ⟨rfl, g1⟩
        have HG1 : Hid (Grows (w.alloc (.cells #[.string r, .string k] 26)) w1) := g1
        have c0 : w1.cell? ⟨w.heap.size, 0, none⟩ = some (.string r) := (g1.cell (p := ⟨w.heap.size, 0, none⟩) (by simp)).trans (by simp)
        have c1 : w1.cell? ⟨w.heap.size, 1, none⟩ = some (.string k) := (g1.cell (p := ⟨w.heap.size, 1, none⟩) (by simp)).trans (by simp)
        clear g1
        go_wp2_with fail
        refine (HP.out _).mono ?_
        rintro e w2 ⟨rfl, g2⟩
        have HG2 : Hid (Grows (w.alloc (.cells #[.string r, .string k] 26)) w2) := HG1.out.trans g2
        have d0 : w2.cell? ⟨w.heap.size, 0, none⟩ = some (.string r) := (HG2.out.cell (p := ⟨w.heap.size, 0, none⟩) (by simp)).trans (by simp)
        have d1 : w2.cell? ⟨w.heap.size, 1, none⟩ = some (.string k) := (HG2.out.cell (p := ⟨w.heap.size, 1, none⟩) (by simp)).trans (by simp)
        have HG : Hid (Grows w w2) := ((Grows.refl _).alloc _).trans HG2.out
        clear g2 c0 c1
        go_wp2
        go_ret
        exact ⟨ret_str (HV.out.trans HZ.out).symm, HG.out⟩
      · have h' : (r.toList == s.toList) = false := by simpa using h
        have HZ : Hid (rtext s r k = ⟨#[36, 123]⟩ ++ r ++ ⟨#[58]⟩ ++ k ++ ⟨#[125]⟩) := by unfold Hid rtext; rw [if_neg h]
        clear h
        go_enter Try.func7, Try.ntmps7
        go_wp2_with fail
        refine (HS.out _).mono ?_
        rintro e w1 ⟨rfl, g1⟩
        have HG1 : Hid (Grows (w.alloc (.cells #[.string r, .string k] 26)) w1) := g1
        have c0 : w1.cell? ⟨w.heap.size, 0, none⟩ = some (.string r) := (g1.cell (p := ⟨w.heap.size, 0, none⟩) (by simp)).trans (by simp)
        have c1 : w1.cell? ⟨w.heap.size, 1, none⟩ = some (.string k) := (g1.cell (p := ⟨w.heap.size, 1, none⟩) (by simp)).trans (by simp)
        clear g1
        go_wp2_with fail
        refine (HP.out _).mono ?_
        rintro e w2 ⟨rfl, g2⟩
        have HG2 : Hid (Grows (w.alloc (.cells #[.string r, .string k] 26)) w2) := HG1.out.trans g2
        have d0 : w2.cell? ⟨w.heap.size, 0, none⟩ = some (.string r) := (HG2.out.cell (p := ⟨w.heap.size, 0, none⟩) (by simp)).trans (by simp)
        have d1 : w2.cell? ⟨w.heap.size, 1, none⟩ = some (.string k) := (HG2.out.cell (p := ⟨w.heap.size, 1, none⟩) (by simp)).trans (by simp)
        have HG : Hid (Grows w w2) := ((Grows.refl _).alloc _).trans HG2.out
        clear g2 c0 c1
        go_wp2
        go_ret
        exact ⟨ret_str (HV.out.trans HZ.out).symm, HG.out⟩
    · have h2' : vplace r k = false := by simpa using h2
      have HV : Hid (refT s r k = ⟨#[]⟩) := by unfold Hid; rw [HB.out true false h1 h2']; rfl
      rw [h2'] at HP
      clear h1 h2 h2'
      go_enter Try.func7, Try.ntmps7
      go_wp2_with fail
      refine (HS.out _).mono ?_
      rintro e w1 ⟨rfl, g1⟩
      have HG1 : Hid (Grows (w.alloc (.cells #[.string r, .string k] 26)) w1) := g1
      have c0 : w1.cell? ⟨w.heap.size, 0, none⟩ = some (.string r) := (g1.cell (p := ⟨w.heap.size, 0, none⟩) (by simp)).trans (by simp)
      have c1 : w1.cell? ⟨w.heap.size, 1, none⟩ = some (.string k) := (g1.cell (p := ⟨w.heap.size, 1, none⟩) (by simp)).trans (by simp)
      clear g1
      go_wp2_with fail
      refine (HP.out _).mono ?_
      rintro e w2 ⟨rfl, g2⟩
      go_wp2
      go_ret
      exact ⟨ret_str HV.out.symm, ((Grows.refl _).alloc _).trans (HG1.out.trans g2)⟩
  · have h1' : vsec s = false := by simpa using h1
    have HV : Hid (refT s r k = ⟨#[]⟩) := by unfold Hid; rw [HB.out false _ h1' rfl]; rfl
    rw [h1'] at HS
    clear h1 h1'
    go_enter Try.func7, Try.ntmps7
    go_wp2_with fail
    refine (HS.out _).mono ?_
    rintro e w1 ⟨rfl, g1⟩
    go_wp2
    go_ret
    exact ⟨ret_str HV.out.symm, ((Grows.refl _).alloc _).trans g1⟩

set_option maxHeartbeats 1000000 in
theorem szRef_any (r k : ByteArray) (left : Int) (w : World) (h0 : 0 ≤ left) (h1 : left ≤ 1048576) (hr : r.size ≤ maxLen) (hk : k.size ≤ maxLen) :
    Calls Try.prog 4 #[.agg #[.string r, .string k], .int .i64 left] w fun e w' => e = .returned (.int .i64 (less left (r.size + k.size))) ∧ Grows w w' := by
  have HL : Hid (r.size + k.size = r.size + k.size) := rfl
  unfold maxLen at hr hk
  go_enter Try.func4, Try.ntmps4
  go_wp2
  all_goals
    go_ret
    exact ⟨ret_int (by have := HL.out; first | (rw [less_no (by omega)]) | (rw [less_of (by omega)]; omega)), (Grows.refl _).alloc _⟩

set_option maxHeartbeats 1000000 in
theorem toRef_any (r k : ByteArray) (w : World) :
    Calls Try.prog 6 #[.agg #[.string r, .string k]] w fun e w' => e = .returned (.agg #[.string r, .string k]) ∧ Grows w w' := by
  go_enter Try.func6, Try.ntmps6
  go_wp2
  refine bodyPost_ret (v := .agg #[.string r, .string k]) (by simp [results, Try.results6, go_sem]) rfl ⟨rfl, (((Grows.refl _).alloc _).alloc _).alloc _⟩

set_option maxHeartbeats 4000000 in
theorem lawRef_any (s r k : ByteArray) (w : World) (hs : s.size ≤ maxLen) (hr : r.size ≤ maxLen) (hk : k.size ≤ maxLen) :
    Calls Try.prog 3 #[.string s, .agg #[.string r, .string k]] w fun e w' => e = .returned (.bool true) ∧ Below w.heap.size w w' := by
  have HZ := Lib.hid (fun w1 => szRef_any r k 1048576 w1 (by omega) (by omega) hr hk)
  unfold maxLen at hs hr hk
  by_cases q1 : s.size ≤ 1048576
  · by_cases hw : ((r.size + k.size : Nat) : Int) ≤ 1048576
    · have HT := Lib.hid (fun w1 => toRef_any r k w1)
      have HV := Lib.hid (fun w1 => specRef_any s r k w1 q1 (by omega) (by omega))
      have HI := Lib.hid (fun w1 => implRef_any s r k w1 q1 (by omega) (by omega))
      rw [less_of hw] at HZ
      obtain ⟨m, hm⟩ : ∃ m, (1048576 : Int) - ((r.size + k.size : Nat) : Int) = m := ⟨_, rfl⟩
      rw [hm] at HZ
      have hm0 : 0 ≤ m := by omega
      obtain ⟨t, ht⟩ : ∃ t, refT s r k = t := ⟨_, rfl⟩
      rw [ht] at HV HI
      clear ht hm hw hr hk
      go_enter Try.func3, Try.ntmps3
      go_wp2_with fail
      refine (HZ.out _).mono ?_
      rintro e w1 ⟨rfl, g1⟩
      have HB1 : Hid (Grows (w.alloc (.cells #[.string r, .string k] 23)) w1) := g1
      clear g1
      have c0 : w1.cell? ⟨w.heap.size, 0, none⟩ = some (.string r) := (HB1.out.cell (p := ⟨w.heap.size, 0, none⟩) (by simp)).trans (by simp)
      have c1 : w1.cell? ⟨w.heap.size, 1, none⟩ = some (.string k) := (HB1.out.cell (p := ⟨w.heap.size, 1, none⟩) (by simp)).trans (by simp)
      go_wp2_with fail
      refine (HT.out _).mono ?_
      rintro e w2 ⟨rfl, g2⟩
      have HB2 : Hid (Grows (w.alloc (.cells #[.string r, .string k] 23)) w2) := HB1.out.trans g2
      clear g2 c0 c1
      have c0 : w2.cell? ⟨w.heap.size, 0, none⟩ = some (.string r) := (HB2.out.cell (p := ⟨w.heap.size, 0, none⟩) (by simp)).trans (by simp)
      have c1 : w2.cell? ⟨w.heap.size, 1, none⟩ = some (.string k) := (HB2.out.cell (p := ⟨w.heap.size, 1, none⟩) (by simp)).trans (by simp)
      go_wp2_with fail
      refine (HV.out _).mono ?_
      rintro e w3 ⟨rfl, g3⟩
      have HB3 : Hid (Grows (w.alloc (.cells #[.string r, .string k] 23)) w3) := HB2.out.trans g3
      clear g3 c0 c1
      have c0 : w3.cell? ⟨w.heap.size, 0, none⟩ = some (.string r) := (HB3.out.cell (p := ⟨w.heap.size, 0, none⟩) (by simp)).trans (by simp)
      have c1 : w3.cell? ⟨w.heap.size, 1, none⟩ = some (.string k) := (HB3.out.cell (p := ⟨w.heap.size, 1, none⟩) (by simp)).trans (by simp)
      go_wp2_with fail
      refine (HT.out _).mono ?_
      rintro e w4 ⟨rfl, g4⟩
      have HB4 : Hid (Grows (w.alloc (.cells #[.string r, .string k] 23)) w4) := HB3.out.trans g4
      clear g4 c0 c1
      have c0 : w4.cell? ⟨w.heap.size, 0, none⟩ = some (.string r) := (HB4.out.cell (p := ⟨w.heap.size, 0, none⟩) (by simp)).trans (by simp)
      have c1 : w4.cell? ⟨w.heap.size, 1, none⟩ = some (.string k) := (HB4.out.cell (p := ⟨w.heap.size, 1, none⟩) (by simp)).trans (by simp)
      go_wp2_with fail
      refine (HI.out _).mono ?_
      rintro e w5 ⟨rfl, g5⟩
      have HB5 : Hid (Grows (w.alloc (.cells #[.string r, .string k] 23)) w5) := HB4.out.trans g5
      clear g5 c0 c1
      have c0 : w5.cell? ⟨w.heap.size, 0, none⟩ = some (.string r) := (HB5.out.cell (p := ⟨w.heap.size, 0, none⟩) (by simp)).trans (by simp)
      have c1 : w5.cell? ⟨w.heap.size, 1, none⟩ = some (.string k) := (HB5.out.cell (p := ⟨w.heap.size, 1, none⟩) (by simp)).trans (by simp)
      have HG6 : Hid (Grows w w5) := ((Grows.refl _).alloc _).trans HB5.out
      clear c0 c1
      go_wp2
      go_ret
      exact ⟨rfl, HG6.out.below⟩
    · rw [less_no (by omega)] at HZ
      clear hw hr hk
      go_enter Try.func3, Try.ntmps3
      go_wp2_with fail
      refine (HZ.out _).mono ?_
      rintro e w1 ⟨rfl, g1⟩
      go_wp2
      go_ret
      exact ⟨rfl, (((Grows.refl _).alloc _).trans g1).below⟩
  · clear HZ hr hk
    go_enter Try.func3, Try.ntmps3
    go_wp2
    go_ret
    exact ⟨rfl, ((Grows.refl _).alloc _).below⟩

section
variable {H : Type} {enc : TypeId × Value → H} {w : World} {base : Nat} {spare : Nat → Bool} {held : Bool}
set_option maxRecDepth 100000 in
theorem open_ref {r : Reach} {b0 : Nat} {v : Value} {d : DataW H} {p : List MemPlace} (hv : Value.okWide Try.prog w r b0 23 v) (h : DataW.Trod enc Try.prog w base spare held 23 v d p) :
    ∃ s k : ByteArray, v = .agg #[.string s, .string k] ∧ s.size ≤ maxLen ∧ k.size ≤ maxLen := by
  obtain ⟨cs, rfl, hsz⟩ := okWide_struct Try.underlying23 hv
  have h1 : Try.prog.cellsOf 23 = 2 := by kernel_rfl
  rw [h1] at hsz
  obtain ⟨fuel, hf⟩ := h
  obtain ⟨xs, n, _, _, _, hlen, hg⟩ := DataW.trod_struct Try.underlying23 hf
  obtain ⟨l⟩ := cs
  match l, hsz with
  | [v0, v1], _ =>
    have g0 := hg 0 _ rfl
    have g1 := hg 1 _ rfl
    have hc1 : Try.prog.cellsOf 9 = 1 := by kernel_rfl
    match xs, hlen with
    | [y0, y1], _ =>
      obtain ⟨z0, e0, _, b0⟩ := DataW.trod_string Try.underlying9 (by simpa [Value.cells, hc1] using g0)
      obtain ⟨z1, e1, _, b1⟩ := DataW.trod_string Try.underlying9 (by simpa [Value.cells, hc1] using g1)
      simp only [List.cons.injEq, and_true] at e0 e1
      subst e0 e1
      exact ⟨z0, z1, rfl, b0, b1⟩
end
end Go.Proofs.Ytkeiaenacpmilaa
