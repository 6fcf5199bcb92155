/-
  The laws of texts of places: the exact ones of PlaceText and ParsePlace, and the drawn ones of PlaceText, ParsePlace and ValidName. Condition: no more bytes than a slice may have.
-/
import Derived.Test.YthiefficgmokgaaPtx
import Derived.Test.YthiefficgmokgaaRefT
import Derived.Test.YthiefficgmokgaaRdr
import Derived.Test.YthiefficgmokgaaLawName
namespace Go.Proofs.Ythiefficgmokgaa
open Go.RowKit

theorem eqRefSelf (a b : ByteArray) (w : World) : (binOp .eql 26 (.agg #[.string a, .string b]) (.agg #[.string a, .string b])).run Try.prog w = .ok (.bool true) w := by
  go_simp
set_option maxHeartbeats 1000000 in
theorem eqRefL_any (a b : ByteArray) (w : World) :
    Calls Try.prog 14 #[.agg #[.string a, .string b], .agg #[.string a, .string b]] w fun e w' => e = .returned (.bool true) ∧ Grows w w' := by
  go_enter Try.func14, Try.ntmps14
  go_wp2
  go_ret
  exact ⟨rfl, ((Grows.refl _).alloc _).alloc _⟩
set_option maxHeartbeats 1000000 in
theorem equalRefL_any (a b : ByteArray) (w : World) :
    Calls Try.prog 17 #[.agg #[.string a, .string b], .agg #[.string a, .string b]] w fun e w' => e = .returned (.bool true) ∧ Grows w w' := by
  have heq := fun w => eqRefSelf a b w
  go_enter Try.func17, Try.ntmps17
  go_wp2
  go_ret
  exact ⟨rfl, ((Grows.refl _).alloc _).alloc _⟩

set_option maxHeartbeats 4000000 in
theorem lawPl_any (r k : ByteArray) (w : World) (hr : r.size ≤ maxLen) (hk : k.size ≤ maxLen) :
    Calls Try.prog 3 #[.agg #[.string r, .string k]] w fun e w' => e = .returned (.bool true) ∧ Below w.heap.size w w' := by
  have HZ := Lib.hid (fun w1 => szRef_any r k 1048576 w1 (by omega) (by omega) hr hk)
  unfold maxLen at hr hk
  by_cases hw : ((r.size + k.size : Nat) : Int) ≤ 1048576
  · have HT := Lib.hid (fun w1 => toRef_any r k w1)
    have HV := Lib.hid (fun w1 => specPl_any r k w1 (by omega) (by omega))
    have HI := Lib.hid (fun w1 => implPl_any r k w1 (by omega) (by omega))
    rw [less_of hw] at HZ
    obtain ⟨m, hm⟩ : ∃ m, (1048576 : Int) - ((r.size + k.size : Nat) : Int) = m := ⟨_, rfl⟩
    rw [hm] at HZ
    have hm0 : 0 ≤ m := by omega
    obtain ⟨t, ht⟩ : ∃ t, plTB r k = t := ⟨_, rfl⟩
    rw [ht] at HV HI
    clear ht hm hw hr hk
    go_enter Try.func3, Try.ntmps3
    go_wp2_with fail
    refine (HZ.out _).mono ?_
    rintro e w1 ⟨rfl, g1⟩
    have HB1 : Hid (Grows (w.alloc (.cells #[.string r, .string k] 23)) w1) := g1
    clear g1
    have c0 : w1.cell? ⟨w.heap.size, 0, none⟩ = some (.string r) := (HB1.out.cell (p := ⟨w.heap.size, 0, none⟩) (by simp)).trans (by simp)
    have c1 : w1.cell? ⟨w.heap.size, 1, none⟩ = some (.string k) := (HB1.out.cell (p := ⟨w.heap.size, 1, none⟩) (by simp)).trans (by simp)
    go_wp2_with fail
    refine (HT.out _).mono ?_
    rintro e w2 ⟨rfl, g2⟩
    have HB2 : Hid (Grows (w.alloc (.cells #[.string r, .string k] 23)) w2) := HB1.out.trans g2
    clear g2 c0 c1
    have c0 : w2.cell? ⟨w.heap.size, 0, none⟩ = some (.string r) := (HB2.out.cell (p := ⟨w.heap.size, 0, none⟩) (by simp)).trans (by simp)
    have c1 : w2.cell? ⟨w.heap.size, 1, none⟩ = some (.string k) := (HB2.out.cell (p := ⟨w.heap.size, 1, none⟩) (by simp)).trans (by simp)
    go_wp2_with fail
    refine (HV.out _).mono ?_
    rintro e w3 ⟨rfl, g3⟩
    have HB3 : Hid (Grows (w.alloc (.cells #[.string r, .string k] 23)) w3) := HB2.out.trans g3
    clear g3 c0 c1
    have c0 : w3.cell? ⟨w.heap.size, 0, none⟩ = some (.string r) := (HB3.out.cell (p := ⟨w.heap.size, 0, none⟩) (by simp)).trans (by simp)
    have c1 : w3.cell? ⟨w.heap.size, 1, none⟩ = some (.string k) := (HB3.out.cell (p := ⟨w.heap.size, 1, none⟩) (by simp)).trans (by simp)
    go_wp2_with fail
    refine (HT.out _).mono ?_
    rintro e w4 ⟨rfl, g4⟩
    have HB4 : Hid (Grows (w.alloc (.cells #[.string r, .string k] 23)) w4) := HB3.out.trans g4
    clear g4 c0 c1
    have c0 : w4.cell? ⟨w.heap.size, 0, none⟩ = some (.string r) := (HB4.out.cell (p := ⟨w.heap.size, 0, none⟩) (by simp)).trans (by simp)
    have c1 : w4.cell? ⟨w.heap.size, 1, none⟩ = some (.string k) := (HB4.out.cell (p := ⟨w.heap.size, 1, none⟩) (by simp)).trans (by simp)
    go_wp2_with fail
    refine (HI.out _).mono ?_
    rintro e w5 ⟨rfl, g5⟩
    have HB5 : Hid (Grows (w.alloc (.cells #[.string r, .string k] 23)) w5) := HB4.out.trans g5
    clear g5 c0 c1
    have c0 : w5.cell? ⟨w.heap.size, 0, none⟩ = some (.string r) := (HB5.out.cell (p := ⟨w.heap.size, 0, none⟩) (by simp)).trans (by simp)
    have c1 : w5.cell? ⟨w.heap.size, 1, none⟩ = some (.string k) := (HB5.out.cell (p := ⟨w.heap.size, 1, none⟩) (by simp)).trans (by simp)
    have HG6 : Hid (Grows w w5) := ((Grows.refl _).alloc _).trans HB5.out
    clear c0 c1
    go_wp2
    go_ret
    exact ⟨rfl, HG6.out.below⟩
  · rw [less_no (by omega)] at HZ
    clear hw hr hk
    go_enter Try.func3, Try.ntmps3
    go_wp2_with fail
    refine (HZ.out _).mono ?_
    rintro e w1 ⟨rfl, g1⟩
    go_wp2
    go_ret
    exact ⟨rfl, (((Grows.refl _).alloc _).trans g1).below⟩

/-- a box of a place, and its cells -/
def RefBox (w : World) (b : Nat) (r k : ByteArray) : Prop := w.cell? ⟨b, 0, none⟩ = some (.string r) ∧ w.cell? ⟨b, 1, none⟩ = some (.string k) ∧ b < w.heap.size
theorem RefBox.new (w : World) (r k : ByteArray) : RefBox (w.alloc (.cells #[.string r, .string k] 26)) w.heap.size r k := ⟨by simp, by simp, by simp⟩
theorem RefBox.keep {w w' : World} {b : Nat} {r k : ByteArray} (h : RefBox w b r k) (g : Grows w w') : RefBox w' b r k := ⟨(g.cell (p := ⟨b, 0, none⟩) h.2.2).trans h.1, (g.cell (p := ⟨b, 1, none⟩) h.2.2).trans h.2.1, Nat.lt_of_lt_of_le h.2.2 g.size⟩

set_option maxHeartbeats 4000000 in
theorem lawPar_any (s : ByteArray) (w : World) (hs : s.size ≤ maxLen) :
    Calls Try.prog 4 #[.string s] w fun e w' => e = .returned (.bool true) ∧ Below w.heap.size w w' := by
  unfold maxLen at hs
  by_cases q1 : s.size ≤ 1048576
  · have HV := Lib.hid (fun w1 => specParse_any s w1 q1)
    have HI := Lib.hid (fun w1 => implParse_any s w1 q1)
    obtain ⟨a, ha⟩ : ∃ a, resS s = a := ⟨_, rfl⟩
    obtain ⟨b, hb⟩ : ∃ b, resK s = b := ⟨_, rfl⟩
    obtain ⟨β, hβ⟩ : ∃ β, parB s = β := ⟨_, rfl⟩
    rw [ha, hb, hβ] at HV HI
    clear ha hb hβ
    have HE := Lib.hid (fun w1 => eqRefL_any a b w1)
    go_enter Try.func4, Try.ntmps4
    go_wp2_with fail
    refine (HV.out _).mono ?_
    rintro e w1 ⟨rfl, g1⟩
    have HG1 := Lib.hid g1
    clear g1
    go_upto_region 4 with (fail)
    have B1 := Lib.hid (RefBox.new w1 a b)
    have HG2 : Hid (Grows w (w1.alloc (.cells #[.string a, .string b] 26))) := HG1.out.alloc _
    generalize w1.heap.size = b1 at B1 ⊢
    obtain ⟨w2, hw2⟩ : ∃ w2, w1.alloc (.cells #[.string a, .string b] 26) = w2 := ⟨_, rfl⟩
    rw [hw2] at B1 HG2 ⊢
    clear hw2 HG1
    go_wp2_with fail
    refine (HI.out _).mono ?_
    rintro e w3 ⟨rfl, g3⟩
    have B3 := Lib.hid (B1.out.keep g3)
    have HG3 : Hid (Grows w w3) := HG2.out.trans g3
    clear g3 B1 HG2
    go_upto_region 5 with (fail)
    have B4 := Lib.hid (B3.out.keep ((Grows.refl w3).alloc (.cells #[.string a, .string b] 26)))
    have D4 := Lib.hid (RefBox.new w3 a b)
    have HG4 : Hid (Grows w (w3.alloc (.cells #[.string a, .string b] 26))) := HG3.out.alloc _
    generalize w3.heap.size = b3 at D4 ⊢
    obtain ⟨w4, hw4⟩ : ∃ w4, w3.alloc (.cells #[.string a, .string b] 26) = w4 := ⟨_, rfl⟩
    rw [hw4] at B4 D4 HG4 ⊢
    clear hw4 HG3 B3
    obtain ⟨x0, x1, x2⟩ := B4.out
    obtain ⟨y0, y1, y2⟩ := D4.out
    go_wp2_with fail
    refine (HE.out _).mono ?_
    rintro e w5 ⟨rfl, g5⟩
    have HG5 : Hid (Grows w w5) := HG4.out.trans g5
    clear g5
    go_wp2
    all_goals
      go_ret
      exact ⟨rfl, HG5.out.below⟩
  · go_enter Try.func4, Try.ntmps4
    go_wp2
    go_ret
    exact ⟨rfl, (Grows.refl _).below⟩

/-! ### drawn -/
set_option maxHeartbeats 1000000 in
theorem DrawValidName_any (A : Option Addr) (n c : Nat) (w : World) (hn : n ≤ maxLen) (hc : n ≤ c) (h : BytesAt w A n) :
    Calls Try.prog 18 #[.slice A n c] w fun e w' => ∃ s : ByteArray, e = .returned (.string s) ∧ s.size ≤ 41 ∧ Grows w w' := by
  have HB := Lib.hid h
  clear h
  go_enter Try.func18, Try.ntmps18
  go_wp2_with fail
  refine (newReader_any A n c _ hn hc HB.out).mono ?_
  rintro e w1 ⟨A1, n1, c1, g, rfl, hn1, hg, r1, k1⟩
  have R1 := Lib.hid r1
  have G1 := Lib.hid k1
  clear r1 k1 HB
  go_wp2_with fail
  refine (anyName_any g A1 n1 c1 0 _ (by omega) hn1 R1.out).mono ?_
  rintro e w2 ⟨s, rfl, hs, q2, a2, b2, r2, k2⟩
  have HS := Lib.hid hs
  have G2 : Hid (Grows w w2) := G1.out.mark k2 (fun i hi => by injection hi with hi; omega)
  clear r2 k2 hs
  go_wp2
  go_ret
  exact ⟨s, rfl, HS.out, G2.out⟩

set_option maxHeartbeats 4000000 in
theorem dName_any (A : Option Addr) (n c : Nat) (w : World) (hn : n ≤ maxLen) (hc : n ≤ c) (h : BytesAt w A n) :
    Calls Try.prog 7 #[.slice A n c] w fun e w' => e = .returned (.bool true) ∧ Below w.heap.size w w' := by
  by_cases hbig : 1048576 < n
  · clear h
    unfold maxLen at hn
    go_enter Try.func7, Try.ntmps7
    go_wp2
    go_ret
    exact ⟨rfl, (Grows.refl _).below⟩
  · have HD := Lib.hid (DrawValidName_any A n c w hn hc h)
    clear h
    unfold maxLen at hn
    go_enter Try.func7, Try.ntmps7
    go_wp2_with fail
    refine (HD.out).mono ?_
    rintro e w1 ⟨s, rfl, hs, g1⟩
    have HI := Lib.hid (fun w2 => implName_any s w2 (show s.size ≤ 1048576 by omega))
    have HS := Lib.hid (fun w2 => specName_any s w2 (show s.size ≤ 1048576 by omega))
    have HSV := Lib.hid (fun w2 => specValidName_any s w2 (show s.size ≤ 1048576 by omega))
    have HG1 := Lib.hid g1
    have hp1 : (s ++ ⟨#[46]⟩ ++ s).size ≤ 1048576 := by
      rw [sz_append, sz_append]
      have : (⟨#[46]⟩ : ByteArray).size = 1 := rfl
      omega
    have HP1 := Lib.hid (fun w2 => implParse_any s w2 (show s.size ≤ 1048576 by omega))
    have HP2 := Lib.hid (fun w2 => implParse_any (s ++ ⟨#[46]⟩ ++ s) w2 hp1)
    have hs4 : s.size ≤ 4100 := by omega
    clear g1 HD hp1
    by_cases hv : vname s = true
    · have h8 := (vname_pos hv).2
      have hv1 : vplace ⟨#[]⟩ s = true := by unfold vplace; rw [vsec_nil nil_toList, hv]; rfl
      have hv2 : vplace s s = true := by
        unfold vplace
        rw [hv, Bool.and_true]
        unfold vsec
        rw [hv, Bool.or_true]
      have e1 : plT ⟨#[]⟩ s = s := by unfold plT; rw [if_pos (eqNil_yes nil_toList)]
      have e2 : plT s s = s ++ ⟨#[46]⟩ ++ s := by
        unfold plT
        rw [if_neg (eqNil_no (toList_ne (vname_pos hv).1))]
      obtain ⟨a1, a2, a3⟩ := pl_read hv1
      obtain ⟨b1, b2, b3⟩ := pl_read hv2
      rw [e1] at a1 a2 a3
      rw [e2] at b1 b2 b3
      rw [a1, a2, a3] at HP1
      rw [b1, b2, b3] at HP2
      have q1 := fun w => eqRefSelf ⟨#[]⟩ s w
      have q2 := fun w => eqRefSelf s s w
      rw [hv] at HI HSV
      clear hv hv1 hv2 e1 e2 a1 a2 a3 b1 b2 b3 hs
      go_upto_region 4 with (fail)
      go_wp2_with fail
      refine (HI.out _).mono ?_
      rintro e w2 ⟨rfl, g2⟩
      have HG2 : Hid (Grows w w2) := HG1.out.trans g2
      clear g2
      go_wp2_with fail
      refine (HSV.out _).mono ?_
      rintro e w3 ⟨rfl, rfl⟩
      have HG3 := HG2
      go_wp2_with fail
      refine (HP1.out _).mono ?_
      rintro e w4 ⟨rfl, g4⟩
      have HG4 : Hid (Grows w w4) := HG3.out.trans g4
      clear g4
      go_upto_region 8 with (fail)
      have B1 := Lib.hid (RefBox.new w4 ⟨#[]⟩ s)
      have HG5 : Hid (Grows w (w4.alloc (.cells #[.string ⟨#[]⟩, .string s] 26))) := HG4.out.alloc _
      generalize w4.heap.size = bb1 at B1 ⊢
      obtain ⟨w5, hw5⟩ : ∃ w5, w4.alloc (.cells #[.string ⟨#[]⟩, .string s] 26) = w5 := ⟨_, rfl⟩
      rw [hw5] at B1 HG5 ⊢
      clear hw5 HG4
      have hsz : s.size ≤ 8 := h8
      go_wp2_with fail
      refine (HP2.out _).mono ?_
      rintro e w6 ⟨rfl, g6⟩
      have B6 := Lib.hid (B1.out.keep g6)
      have HG6 : Hid (Grows w w6) := HG5.out.trans g6
      clear g6 B1 HG5
      go_upto_region 9 with (fail)
      have B7 := Lib.hid (B6.out.keep ((Grows.refl w6).alloc (.cells #[.string s, .string s] 26)))
      have D7 := Lib.hid (RefBox.new w6 s s)
      have HG7 : Hid (Grows w (w6.alloc (.cells #[.string s, .string s] 26))) := HG6.out.alloc _
      generalize w6.heap.size = bb2 at D7 ⊢
      obtain ⟨w7, hw7⟩ : ∃ w7, w6.alloc (.cells #[.string s, .string s] 26) = w7 := ⟨_, rfl⟩
      rw [hw7] at B7 D7 HG7 ⊢
      clear hw7 HG6 B6
      obtain ⟨x0, x1, x2⟩ := B7.out
      obtain ⟨y0, y1, y2⟩ := D7.out
      have hs8 : (s.size : Int) ≤ 8 := by omega
      go_wp2
      go_ret
      exact ⟨rfl, HG7.out.below⟩
    · have hv' : vname s = false := by simpa using hv
      rw [hv'] at HI HSV
      clear hv hv' hs
      go_upto_region 4 with (fail)
      go_wp2_with fail
      refine (HI.out _).mono ?_
      rintro e w2 ⟨rfl, g2⟩
      have HG2 : Hid (Grows w w2) := HG1.out.trans g2
      clear g2
      go_wp2_with fail
      refine (HSV.out _).mono ?_
      rintro e w3 ⟨rfl, rfl⟩
      have HG3 := HG2
      go_wp2_with fail
      refine (HSV.out _).mono ?_
      rintro e w4 ⟨rfl, rfl⟩
      have HG4 := HG3
      go_wp2
      go_ret
      exact ⟨rfl, HG4.out.below⟩
end Go.Proofs.Ythiefficgmokgaa
