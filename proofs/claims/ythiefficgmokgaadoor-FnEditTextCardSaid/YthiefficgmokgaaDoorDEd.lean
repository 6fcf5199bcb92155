/-
  The laws of texts of edits: the exact ones of EditText and ParseEdit, and the drawn ones, with the arguments that they generate. Condition: no more bytes than a slice may have.
-/
import Derived.Test.YthiefficgmokgaaDoorEdp
import Derived.Test.YthiefficgmokgaaDoorRefT
namespace Go.Proofs.YthiefficgmokgaaDoor
open Go.ChangeShapes Go.WideShapes Go.Deep Go.RowKit

theorem eqEditSelf (a b : ByteArray) (d : Bool) (v : ByteArray) (w : World) : (binOp .eql 26 (.agg #[.string a, .string b, .bool d, .string v]) (.agg #[.string a, .string b, .bool d, .string v])).run Tryd.prog w = .ok (.bool true) w := by
  go_simp
set_option maxHeartbeats 1000000 in
theorem eqEditL_any (a b : ByteArray) (d : Bool) (v : ByteArray) (w : World) :
    Calls Tryd.prog 13 #[.agg #[.string a, .string b, .bool d, .string v], .agg #[.string a, .string b, .bool d, .string v]] w fun e w' => e = .returned (.bool true) ∧ Grows w w' := by
  cases d
  all_goals
    go_enter Tryd.func13, Tryd.ntmps13
    go_wp2
    go_ret
    exact ⟨rfl, ((Grows.refl _).alloc _).alloc _⟩
set_option maxHeartbeats 1000000 in
theorem equalEditL_any (a b : ByteArray) (d : Bool) (v : ByteArray) (w : World) :
    Calls Tryd.prog 16 #[.agg #[.string a, .string b, .bool d, .string v], .agg #[.string a, .string b, .bool d, .string v]] w fun e w' => e = .returned (.bool true) ∧ Grows w w' := by
  have heq := fun w => eqEditSelf a b d v w
  go_enter Tryd.func16, Tryd.ntmps16
  go_wp2
  go_ret
  exact ⟨rfl, ((Grows.refl _).alloc _).alloc _⟩
set_option maxHeartbeats 1000000 in
theorem szEdit_any (r k : ByteArray) (d : Bool) (v : ByteArray) (left : Int) (w : World) (h0 : 0 ≤ left) (h1 : left ≤ 1048576) (hr : r.size ≤ maxLen) (hk : k.size ≤ maxLen) (hv : v.size ≤ maxLen) :
    Calls Tryd.prog 7 #[.agg #[.string r, .string k, .bool d, .string v], .int .i64 left] w fun e w' => e = .returned (.int .i64 (less left (r.size + k.size + v.size))) ∧ Grows w w' := by
  have HL : Hid (r.size + k.size + v.size = r.size + k.size + v.size) := rfl
  unfold maxLen at hr hk hv
  go_enter Tryd.func7, Tryd.ntmps7
  go_wp2
  all_goals
    go_ret
    exact ⟨ret_int (by have := HL.out; first | (rw [less_no (by omega)]) | (rw [less_of (by omega)]; omega)), (Grows.refl _).alloc _⟩
set_option maxHeartbeats 1000000 in
theorem toEdit_any (r k : ByteArray) (d : Bool) (v : ByteArray) (w : World) :
    Calls Tryd.prog 9 #[.agg #[.string r, .string k, .bool d, .string v]] w fun e w' => e = .returned (.agg #[.string r, .string k, .bool d, .string v]) ∧ Grows w w' := by
  go_enter Tryd.func9, Tryd.ntmps9
  go_wp2
  refine bodyPost_ret (v := .agg #[.string r, .string k, .bool d, .string v]) (by simp [results, Tryd.results9, go_sem]) rfl ⟨rfl, (((Grows.refl _).alloc _).alloc _).alloc _⟩

set_option maxHeartbeats 4000000 in
theorem lawEd_any (r k : ByteArray) (d : Bool) (v : ByteArray) (w : World) (hr : r.size ≤ maxLen) (hk : k.size ≤ maxLen) (hv : v.size ≤ maxLen) :
    Calls Tryd.prog 3 #[.agg #[.string r, .string k, .bool d, .string v]] w fun e w' => e = .returned (.bool true) ∧ Below w.heap.size w w' := by
  have HZ := Lib.hid (fun w1 => szEdit_any r k d v 1048576 w1 (by omega) (by omega) hr hk hv)
  unfold maxLen at hr hk hv
  by_cases hw : ((r.size + k.size + v.size : Nat) : Int) ≤ 1048576
  · have HT := Lib.hid (fun w1 => toEdit_any r k d v w1)
    have HV := Lib.hid (fun w1 => specEd_any r k d v w1 (by omega) (by omega) (by omega))
    have HI := Lib.hid (fun w1 => implEd_any r k d v w1 (by omega) (by omega) (by omega))
    rw [less_of hw] at HZ
    obtain ⟨m, hm⟩ : ∃ m, (1048576 : Int) - ((r.size + k.size + v.size : Nat) : Int) = m := ⟨_, rfl⟩
    rw [hm] at HZ
    have hm0 : 0 ≤ m := by omega
    obtain ⟨t, ht⟩ : ∃ t, edTB r k d v = t := ⟨_, rfl⟩
    rw [ht] at HV HI
    clear ht hm hw hr hk hv
    go_enter Tryd.func3, Tryd.ntmps3
    go_wp2_with fail
    refine (HZ.out _).mono ?_
    rintro e w1 ⟨rfl, g1⟩
    have HB1 : Hid (Grows (w.alloc (.cells #[.string r, .string k, .bool d, .string v] 23)) w1) := g1
    clear g1
    have c0 : w1.cell? ⟨w.heap.size, 0, none⟩ = some (.string r) := (HB1.out.cell (p := ⟨w.heap.size, 0, none⟩) (by simp)).trans (by simp)
    have c1 : w1.cell? ⟨w.heap.size, 1, none⟩ = some (.string k) := (HB1.out.cell (p := ⟨w.heap.size, 1, none⟩) (by simp)).trans (by simp)
    have c2 : w1.cell? ⟨w.heap.size, 2, none⟩ = some (.bool d) := (HB1.out.cell (p := ⟨w.heap.size, 2, none⟩) (by simp)).trans (by simp)
    have c3 : w1.cell? ⟨w.heap.size, 3, none⟩ = some (.string v) := (HB1.out.cell (p := ⟨w.heap.size, 3, none⟩) (by simp)).trans (by simp)
    go_wp2_with fail
    refine (HT.out _).mono ?_
    rintro e w2 ⟨rfl, g2⟩
    have HB2 : Hid (Grows (w.alloc (.cells #[.string r, .string k, .bool d, .string v] 23)) w2) := HB1.out.trans g2
    clear g2 c0 c1 c2 c3
    have c0 : w2.cell? ⟨w.heap.size, 0, none⟩ = some (.string r) := (HB2.out.cell (p := ⟨w.heap.size, 0, none⟩) (by simp)).trans (by simp)
    have c1 : w2.cell? ⟨w.heap.size, 1, none⟩ = some (.string k) := (HB2.out.cell (p := ⟨w.heap.size, 1, none⟩) (by simp)).trans (by simp)
    have c2 : w2.cell? ⟨w.heap.size, 2, none⟩ = some (.bool d) := (HB2.out.cell (p := ⟨w.heap.size, 2, none⟩) (by simp)).trans (by simp)
    have c3 : w2.cell? ⟨w.heap.size, 3, none⟩ = some (.string v) := (HB2.out.cell (p := ⟨w.heap.size, 3, none⟩) (by simp)).trans (by simp)
    go_wp2_with fail
    refine (HV.out _).mono ?_
    rintro e w3 ⟨rfl, g3⟩
    have HB3 : Hid (Grows (w.alloc (.cells #[.string r, .string k, .bool d, .string v] 23)) w3) := HB2.out.trans g3
    clear g3 c0 c1 c2 c3
    have c0 : w3.cell? ⟨w.heap.size, 0, none⟩ = some (.string r) := (HB3.out.cell (p := ⟨w.heap.size, 0, none⟩) (by simp)).trans (by simp)
    have c1 : w3.cell? ⟨w.heap.size, 1, none⟩ = some (.string k) := (HB3.out.cell (p := ⟨w.heap.size, 1, none⟩) (by simp)).trans (by simp)
    have c2 : w3.cell? ⟨w.heap.size, 2, none⟩ = some (.bool d) := (HB3.out.cell (p := ⟨w.heap.size, 2, none⟩) (by simp)).trans (by simp)
    have c3 : w3.cell? ⟨w.heap.size, 3, none⟩ = some (.string v) := (HB3.out.cell (p := ⟨w.heap.size, 3, none⟩) (by simp)).trans (by simp)
    go_wp2_with fail
    refine (HT.out _).mono ?_
    rintro e w4 ⟨rfl, g4⟩
    have HB4 : Hid (Grows (w.alloc (.cells #[.string r, .string k, .bool d, .string v] 23)) w4) := HB3.out.trans g4
    clear g4 c0 c1 c2 c3
    have c0 : w4.cell? ⟨w.heap.size, 0, none⟩ = some (.string r) := (HB4.out.cell (p := ⟨w.heap.size, 0, none⟩) (by simp)).trans (by simp)
    have c1 : w4.cell? ⟨w.heap.size, 1, none⟩ = some (.string k) := (HB4.out.cell (p := ⟨w.heap.size, 1, none⟩) (by simp)).trans (by simp)
    have c2 : w4.cell? ⟨w.heap.size, 2, none⟩ = some (.bool d) := (HB4.out.cell (p := ⟨w.heap.size, 2, none⟩) (by simp)).trans (by simp)
    have c3 : w4.cell? ⟨w.heap.size, 3, none⟩ = some (.string v) := (HB4.out.cell (p := ⟨w.heap.size, 3, none⟩) (by simp)).trans (by simp)
    go_wp2_with fail
    refine (HI.out _).mono ?_
    rintro e w5 ⟨rfl, g5⟩
    have HB5 : Hid (Grows (w.alloc (.cells #[.string r, .string k, .bool d, .string v] 23)) w5) := HB4.out.trans g5
    clear g5 c0 c1 c2 c3
    have c0 : w5.cell? ⟨w.heap.size, 0, none⟩ = some (.string r) := (HB5.out.cell (p := ⟨w.heap.size, 0, none⟩) (by simp)).trans (by simp)
    have c1 : w5.cell? ⟨w.heap.size, 1, none⟩ = some (.string k) := (HB5.out.cell (p := ⟨w.heap.size, 1, none⟩) (by simp)).trans (by simp)
    have c2 : w5.cell? ⟨w.heap.size, 2, none⟩ = some (.bool d) := (HB5.out.cell (p := ⟨w.heap.size, 2, none⟩) (by simp)).trans (by simp)
    have c3 : w5.cell? ⟨w.heap.size, 3, none⟩ = some (.string v) := (HB5.out.cell (p := ⟨w.heap.size, 3, none⟩) (by simp)).trans (by simp)
    have HG6 : Hid (Grows w w5) := ((Grows.refl _).alloc _).trans HB5.out
    clear c0 c1 c2 c3
    go_wp2
    go_ret
    exact ⟨rfl, HG6.out.below⟩
  · rw [less_no (by omega)] at HZ
    clear hw hr hk hv
    go_enter Tryd.func3, Tryd.ntmps3
    go_wp2_with fail
    refine (HZ.out _).mono ?_
    rintro e w1 ⟨rfl, g1⟩
    go_wp2
    go_ret
    exact ⟨rfl, (((Grows.refl _).alloc _).trans g1).below⟩

set_option maxHeartbeats 4000000 in
theorem lawPEd_any (s : ByteArray) (w : World) (hs : s.size ≤ maxLen) :
    Calls Tryd.prog 4 #[.string s] w fun e w' => e = .returned (.bool true) ∧ Below w.heap.size w w' := by
  unfold maxLen at hs
  by_cases q1 : s.size ≤ 1048576
  · have HV := Lib.hid (fun w1 => specPEd_any s w1 q1)
    have HI := Lib.hid (fun w1 => implPEd_any s w1 q1)
    generalize edS s = a at HV HI
    generalize edK s = b at HV HI
    generalize edD s = d at HV HI
    generalize edV s = v at HV HI
    obtain ⟨β, hβ⟩ : ∃ β, pedB s = β := ⟨_, rfl⟩
    rw [hβ] at HV HI
    clear hβ
    have HE := Lib.hid (fun w1 => eqEditL_any a b d v w1)
    have HG1 : Hid (Grows w w) := Grows.refl w
    go_enter Tryd.func4, Tryd.ntmps4
    go_wp2_with fail
    refine (HV.out _).mono ?_
    rintro e w2 ⟨rfl, g2⟩
    have HG2 : Hid (Grows w w2) := HG1.out.trans g2
    clear g2 HG1
    go_upto_region 4 with (fail)
    have B1 := Lib.hid (EdBox.new w2 a b d v)
    have HG3 : Hid (Grows w (w2.alloc (.cells #[.string a, .string b, .bool d, .string v] 26))) := HG2.out.alloc _
    generalize w2.heap.size = bB1 at B1 ⊢
    obtain ⟨w3, hw3⟩ : ∃ w', w2.alloc (.cells #[.string a, .string b, .bool d, .string v] 26) = w' := ⟨_, rfl⟩
    rw [hw3] at B1 HG3 ⊢
    clear hw3 HG2
    have B1x0 := B1.out.c0
    have B1x1 := B1.out.c1
    have B1x2 := B1.out.c2
    have B1x3 := B1.out.c3
    go_wp2_with fail
    refine (HI.out _).mono ?_
    rintro e w4 ⟨rfl, g4⟩
    have HG4 : Hid (Grows w w4) := HG3.out.trans g4
    clear B1x0 B1x1 B1x2 B1x3
    have B1n := Lib.hid (B1.out.keep g4)
    clear B1
    have B1 := B1n
    clear B1n
    clear g4 HG3
    go_upto_region 5 with (fail)
    have D1 := Lib.hid (EdBox.new w4 a b d v)
    have B1n := Lib.hid (B1.out.keep ((Grows.refl w4).alloc (.cells #[.string a, .string b, .bool d, .string v] 26)))
    have HG5 : Hid (Grows w (w4.alloc (.cells #[.string a, .string b, .bool d, .string v] 26))) := HG4.out.alloc _
    generalize w4.heap.size = bD1 at D1 ⊢
    obtain ⟨w5, hw5⟩ : ∃ w', w4.alloc (.cells #[.string a, .string b, .bool d, .string v] 26) = w' := ⟨_, rfl⟩
    rw [hw5] at D1 B1n HG5 ⊢
    clear hw5 HG4
    clear B1
    have B1 := B1n
    clear B1n
    have B1x0 := B1.out.c0
    have B1x1 := B1.out.c1
    have B1x2 := B1.out.c2
    have B1x3 := B1.out.c3
    have D1x0 := D1.out.c0
    have D1x1 := D1.out.c1
    have D1x2 := D1.out.c2
    have D1x3 := D1.out.c3
    go_wp2_with fail
    refine (HE.out _).mono ?_
    rintro e w6 ⟨rfl, g6⟩
    have HG6 : Hid (Grows w w6) := HG5.out.trans g6
    clear B1x0 B1x1 B1x2 B1x3
    have B1n := Lib.hid (B1.out.keep g6)
    clear B1
    have B1 := B1n
    clear B1n
    clear D1x0 D1x1 D1x2 D1x3
    have D1n := Lib.hid (D1.out.keep g6)
    clear D1
    have D1 := D1n
    clear D1n
    clear g6 HG5
    go_wp2
    all_goals
      go_ret
      exact ⟨rfl, HG6.out.below⟩
  · go_enter Tryd.func4, Tryd.ntmps4
    go_wp2
    go_ret
    exact ⟨rfl, (Grows.refl _).below⟩

/-! ### drawn -/
/-- a call's end: an edit of short parts -/
def EdRet (dd g : Nat) (A : Option Addr) (n c p : Nat) (w : World) (e : Ending) (w' : World) : Prop := ∃ (r k : ByteArray) (d : Bool) (v : ByteArray), e = .returned (.agg #[.string r, .string k, .bool d, .string v]) ∧ (r.size ≤ 41 ∧ k.size ≤ 41 ∧ v.size ≤ 41) ∧ RdOn g A n c p dd w w'

set_option maxRecDepth 100000 in
set_option maxHeartbeats 4000000 in
theorem someEdit_any (g : Nat) (A : Option Addr) (n c p : Nat) (w : World) (hp : p ≤ 80000) (hn : n ≤ 2000) (h : Rd w g A n c p) :
    Calls Tryd.prog 26 #[.pointer (some ⟨g, 0, none⟩)] w (EdRet 6 g A n c p w) := by
  have hne : w.heap.size ≠ g := Nat.ne_of_gt h.lt
  have H0 := Lib.hid h
  have B0 := Lib.hid (EdBox.new w ⟨#[]⟩ ⟨#[]⟩ false ⟨#[]⟩)
  have R0 := Lib.hid (h.keep ((Grows.refl w).alloc (.cells #[.string ⟨#[]⟩, .string ⟨#[]⟩, .bool false, .string ⟨#[]⟩] 26)))
  have G0 : Hid (w.grownBy (w.alloc (.cells #[.string ⟨#[]⟩, .string ⟨#[]⟩, .bool false, .string ⟨#[]⟩] 26)) (some g)) := gb_of ((Grows.refl w).alloc _)
  have HNE := Lib.hid hne
  have HGL := Lib.hid h.lt
  clear h hne
  go_enter Tryd.func26, Tryd.ntmps26
  go_upto_region 1 with (fail)
  obtain ⟨w0, hw0⟩ : ∃ w0, w.alloc (.cells #[.string ⟨#[]⟩, .string ⟨#[]⟩, .bool false, .string ⟨#[]⟩] 26) = w0 := ⟨_, rfl⟩
  rw [hw0] at B0 R0 G0 ⊢
  clear hw0
  go_wp2_with fail
  refine (aSection_any g A n c p _ (by omega) hn R0.out).mono ?_
  rintro e w1 ⟨s1, rfl, hs1, q1, a1, b1, r1, k1⟩
  have Hs1 := Lib.hid hs1
  have R1 := Lib.hid r1
  have B1 := Lib.hid (row_keep B0.out k1 HNE.out)
  have G1 := Lib.hid (G0.out.trans k1)
  clear hs1 r1 k1 R0 G0 B0
  go_wp2_with fail
  refine (aKey_any g A n c q1 _ (by omega) hn R1.out).mono ?_
  rintro e w2 ⟨s2, rfl, hs2, q2, a2, b2, r2, k2⟩
  have Hs2 := Lib.hid hs2
  have R2 := Lib.hid r2
  have B2 := Lib.hid (row_keep B1.out k2 HNE.out)
  have G2 := Lib.hid (G1.out.trans k2)
  clear hs2 r2 k2 R1 G1 B1
  go_wp2_with fail
  refine (aValue_any g A n c q2 _ (by omega) hn R2.out).mono ?_
  rintro e w3 ⟨s3, rfl, hs3, q3, a3, b3, r3, k3⟩
  have Hs3 := Lib.hid hs3
  have R3 := Lib.hid r3
  have B3 := Lib.hid (row_keep B2.out k3 HNE.out)
  have G3 := Lib.hid (G2.out.trans k3)
  clear hs3 r3 k3 R2 G2 B2
  go_upto_region 2 with (fail)
  have E4 := Lib.hid (EdBox.new w3 s1 s2 false s3)
  have hgb : w3.heap.size ≠ g := Nat.ne_of_gt R3.out.lt
  have hb3 : w.heap.size < w3.heap.size := EdBox.lt B3.out
  have B4 := Lib.hid (row_grow B3.out ((Grows.refl w3).alloc (.cells #[.string s1, .string s2, .bool false, .string s3] 26)))
  have R4 := Lib.hid (R3.out.keep ((Grows.refl w3).alloc (.cells #[.string s1, .string s2, .bool false, .string s3] 26)))
  have G4 : Hid (w.grownBy (w3.alloc (.cells #[.string s1, .string s2, .bool false, .string s3] 26)) (some g)) := gb_grows G3.out ((Grows.refl w3).alloc _)
  have HNB := Lib.hid hgb
  have hb3' : w.heap.size ≤ w3.heap.size := by omega
  clear hgb B3 R3 G3
  generalize w3.heap.size = b3 at E4 HNB hb3 hb3' ⊢
  obtain ⟨w4, hw4⟩ : ∃ w', w3.alloc (.cells #[.string s1, .string s2, .bool false, .string s3] 26) = w' := ⟨_, rfl⟩
  rw [hw4] at E4 B4 R4 G4 ⊢
  clear hw4
  have HP := Lib.hid (pick_any 12 g A n c q3 w4 (by omega) (by omega) (by omega) hn R4.out)
  unfold PickRet at HP
  go_wp2_with fail
  refine (HP.out).mono ?_
  rintro e w5 ⟨x, rfl, hx0, hx1, hr, hg⟩
  have R5 := Lib.hid hr
  have B5 := Lib.hid (row_keep B4.out hg HNE.out)
  have E5 := Lib.hid (row_keep E4.out hg HNB.out)
  have G5 := Lib.hid (G4.out.trans hg)
  clear hr hg hx1 B4 E4 R4 G4 HP
  by_cases h0 : x = 0 ∨ x = 1 ∨ x = 2
  · rcases h0 with rfl | rfl | rfl
    all_goals
      have e0 := EdBox.c0 E5.out
      have p0 := EdBox.fr E5.out 0
      have e1 := EdBox.c1 E5.out
      have p1 := EdBox.fr E5.out 1
      have e2 := EdBox.c2 E5.out
      have p2 := EdBox.fr E5.out 2
      have e3 := EdBox.c3 E5.out
      have p3 := EdBox.fr E5.out 3
      go_upto_region 7 with (fail)
      clear e0 p0 e1 p1 e2 p2 e3 p3
      have B6 : Hid (EdBox (w5.setCell ⟨b3, 2, none⟩ (.bool true)) w.heap.size ⟨#[]⟩ ⟨#[]⟩ false ⟨#[]⟩) := row_set B5.out _ (by omega)
      have E6 := Lib.hid (EdBox.set2 E5.out true)
      have R6 := Lib.hid (H0.out.setNew R5.out hb3' 2 (.bool true))
      have G6 := Lib.hid (gb_new G5.out hb3' 2 (.bool true))
      obtain ⟨w6, hw6⟩ : ∃ w', (w5.setCell ⟨b3, 2, none⟩ (.bool true)) = w' := ⟨_, rfl⟩
      rw [hw6] at B6 E6 R6 G6 ⊢
      clear hw6 B5 E5 R5 G5
      have e0 := EdBox.c0 E6.out
      have p0 := EdBox.fr E6.out 0
      have e1 := EdBox.c1 E6.out
      have p1 := EdBox.fr E6.out 1
      have e2 := EdBox.c2 E6.out
      have p2 := EdBox.fr E6.out 2
      have e3 := EdBox.c3 E6.out
      have p3 := EdBox.fr E6.out 3
      go_upto_region 12 with (fail)
      clear e0 p0 e1 p1 e2 p2 e3 p3
      have B7 : Hid (EdBox (w6.setCell ⟨b3, 3, none⟩ (.string ⟨#[]⟩)) w.heap.size ⟨#[]⟩ ⟨#[]⟩ false ⟨#[]⟩) := row_set B6.out _ (by omega)
      have E7 := Lib.hid (EdBox.set3 E6.out ⟨#[]⟩)
      have R7 := Lib.hid (H0.out.setNew R6.out hb3' 3 (.string ⟨#[]⟩))
      have G7 := Lib.hid (gb_new G6.out hb3' 3 (.string ⟨#[]⟩))
      obtain ⟨w7, hw7⟩ : ∃ w', (w6.setCell ⟨b3, 3, none⟩ (.string ⟨#[]⟩)) = w' := ⟨_, rfl⟩
      rw [hw7] at B7 E7 R7 G7 ⊢
      clear hw7 B6 E6 R6 G6
      have e0 := EdBox.c0 E7.out
      have e1 := EdBox.c1 E7.out
      have e2 := EdBox.c2 E7.out
      have e3 := EdBox.c3 E7.out
      have r0 := EdBox.c0 B7.out
      have f0 := EdBox.fr B7.out 0
      have r1 := EdBox.c1 B7.out
      have f1 := EdBox.fr B7.out 1
      have r2 := EdBox.c2 B7.out
      have f2 := EdBox.fr B7.out 2
      have r3 := EdBox.c3 B7.out
      have f3 := EdBox.fr B7.out 3
      have RF : Hid (Rd ((((w7.setCell ⟨w.heap.size, 0, none⟩ (.string s1)).setCell ⟨w.heap.size, 1, none⟩ (.string s2)).setCell ⟨w.heap.size, 2, none⟩ (.bool true)).setCell ⟨w.heap.size, 3, none⟩ (.string ⟨#[]⟩)) g A n c (q3 + 1)) := H0.out.setNew (H0.out.setNew (H0.out.setNew (H0.out.setNew (R7.out) (Nat.le_refl _) 0 _) (Nat.le_refl _) 1 _) (Nat.le_refl _) 2 _) (Nat.le_refl _) 3 _
      have GF : Hid (w.grownBy ((((w7.setCell ⟨w.heap.size, 0, none⟩ (.string s1)).setCell ⟨w.heap.size, 1, none⟩ (.string s2)).setCell ⟨w.heap.size, 2, none⟩ (.bool true)).setCell ⟨w.heap.size, 3, none⟩ (.string ⟨#[]⟩)) (some g)) := gb_new (gb_new (gb_new (gb_new (G7.out) (Nat.le_refl _) 0 _) (Nat.le_refl _) 1 _) (Nat.le_refl _) 2 _) (Nat.le_refl _) 3 _
      go_wp2
      refine bodyPost_ret (v := .agg #[.string s1, .string s2, .bool true, .string ⟨#[]⟩]) (by simp [results, Tryd.results26, go_sem, r0, r1, r2, r3]) rfl ⟨s1, s2, true, ⟨#[]⟩, rfl, ⟨Hs1.out, Hs2.out, by decide⟩, (q3 + 1), by omega, by omega, RF.out, GF.out⟩
  · have n0 : (x == 0) = false := beq_eq_false_iff_ne.2 (by omega)
    have n1 : (x == 1) = false := beq_eq_false_iff_ne.2 (by omega)
    have n2 : (x == 2) = false := beq_eq_false_iff_ne.2 (by omega)
    by_cases h3 : x = 3
    · subst h3
      clear h0 hx0 n0 n1 n2
      go_wp2_with fail
      refine (anyName_any g A n c (q3 + 1) _ (by omega) hn R5.out).mono ?_
      rintro e w6 ⟨s4, rfl, hs4, q6, a6, b6, r6, k6⟩
      have Hs4 := Lib.hid hs4
      have R6 := Lib.hid r6
      have B6 := Lib.hid (row_keep B5.out k6 HNE.out)
      have E6 := Lib.hid (row_keep E5.out k6 HNB.out)
      have G6 := Lib.hid (G5.out.trans k6)
      clear hs4 r6 k6 R5 G5 B5 E5
      have e0 := EdBox.c0 E6.out
      have p0 := EdBox.fr E6.out 0
      have e1 := EdBox.c1 E6.out
      have p1 := EdBox.fr E6.out 1
      have e2 := EdBox.c2 E6.out
      have p2 := EdBox.fr E6.out 2
      have e3 := EdBox.c3 E6.out
      have p3 := EdBox.fr E6.out 3
      go_upto_region 12 with (fail)
      clear e0 p0 e1 p1 e2 p2 e3 p3
      have B7 : Hid (EdBox (w6.setCell ⟨b3, 1, none⟩ (.string s4)) w.heap.size ⟨#[]⟩ ⟨#[]⟩ false ⟨#[]⟩) := row_set B6.out _ (by omega)
      have E7 := Lib.hid (EdBox.set1 E6.out s4)
      have R7 := Lib.hid (H0.out.setNew R6.out hb3' 1 (.string s4))
      have G7 := Lib.hid (gb_new G6.out hb3' 1 (.string s4))
      obtain ⟨w7, hw7⟩ : ∃ w', (w6.setCell ⟨b3, 1, none⟩ (.string s4)) = w' := ⟨_, rfl⟩
      rw [hw7] at B7 E7 R7 G7 ⊢
      clear hw7 B6 E6 R6 G6
      have e0 := EdBox.c0 E7.out
      have e1 := EdBox.c1 E7.out
      have e2 := EdBox.c2 E7.out
      have e3 := EdBox.c3 E7.out
      have r0 := EdBox.c0 B7.out
      have f0 := EdBox.fr B7.out 0
      have r1 := EdBox.c1 B7.out
      have f1 := EdBox.fr B7.out 1
      have r2 := EdBox.c2 B7.out
      have f2 := EdBox.fr B7.out 2
      have r3 := EdBox.c3 B7.out
      have f3 := EdBox.fr B7.out 3
      have RF : Hid (Rd ((((w7.setCell ⟨w.heap.size, 0, none⟩ (.string s1)).setCell ⟨w.heap.size, 1, none⟩ (.string s4)).setCell ⟨w.heap.size, 2, none⟩ (.bool false)).setCell ⟨w.heap.size, 3, none⟩ (.string s3)) g A n c q6) := H0.out.setNew (H0.out.setNew (H0.out.setNew (H0.out.setNew (R7.out) (Nat.le_refl _) 0 _) (Nat.le_refl _) 1 _) (Nat.le_refl _) 2 _) (Nat.le_refl _) 3 _
      have GF : Hid (w.grownBy ((((w7.setCell ⟨w.heap.size, 0, none⟩ (.string s1)).setCell ⟨w.heap.size, 1, none⟩ (.string s4)).setCell ⟨w.heap.size, 2, none⟩ (.bool false)).setCell ⟨w.heap.size, 3, none⟩ (.string s3)) (some g)) := gb_new (gb_new (gb_new (gb_new (G7.out) (Nat.le_refl _) 0 _) (Nat.le_refl _) 1 _) (Nat.le_refl _) 2 _) (Nat.le_refl _) 3 _
      go_wp2
      refine bodyPost_ret (v := .agg #[.string s1, .string s4, .bool false, .string s3]) (by simp [results, Tryd.results26, go_sem, r0, r1, r2, r3]) rfl ⟨s1, s4, false, s3, rfl, ⟨Hs1.out, Hs4.out, Hs3.out⟩, q6, by omega, by omega, RF.out, GF.out⟩
    · have n3 : (x == 3) = false := beq_eq_false_iff_ne.2 h3
      by_cases h4 : x = 4
      · subst h4
        clear h0 h3 hx0 n0 n1 n2 n3
        go_wp2_with fail
        refine (anyValue_any g A n c (q3 + 1) _ (by omega) hn R5.out).mono ?_
        rintro e w6 ⟨s4, rfl, hs4, q6, a6, b6, r6, k6⟩
        have Hs4 := Lib.hid hs4
        have R6 := Lib.hid r6
        have B6 := Lib.hid (row_keep B5.out k6 HNE.out)
        have E6 := Lib.hid (row_keep E5.out k6 HNB.out)
        have G6 := Lib.hid (G5.out.trans k6)
        clear hs4 r6 k6 R5 G5 B5 E5
        have e0 := EdBox.c0 E6.out
        have p0 := EdBox.fr E6.out 0
        have e1 := EdBox.c1 E6.out
        have p1 := EdBox.fr E6.out 1
        have e2 := EdBox.c2 E6.out
        have p2 := EdBox.fr E6.out 2
        have e3 := EdBox.c3 E6.out
        have p3 := EdBox.fr E6.out 3
        go_upto_region 12 with (fail)
        clear e0 p0 e1 p1 e2 p2 e3 p3
        have B7 : Hid (EdBox (w6.setCell ⟨b3, 3, none⟩ (.string s4)) w.heap.size ⟨#[]⟩ ⟨#[]⟩ false ⟨#[]⟩) := row_set B6.out _ (by omega)
        have E7 := Lib.hid (EdBox.set3 E6.out s4)
        have R7 := Lib.hid (H0.out.setNew R6.out hb3' 3 (.string s4))
        have G7 := Lib.hid (gb_new G6.out hb3' 3 (.string s4))
        obtain ⟨w7, hw7⟩ : ∃ w', (w6.setCell ⟨b3, 3, none⟩ (.string s4)) = w' := ⟨_, rfl⟩
        rw [hw7] at B7 E7 R7 G7 ⊢
        clear hw7 B6 E6 R6 G6
        have e0 := EdBox.c0 E7.out
        have e1 := EdBox.c1 E7.out
        have e2 := EdBox.c2 E7.out
        have e3 := EdBox.c3 E7.out
        have r0 := EdBox.c0 B7.out
        have f0 := EdBox.fr B7.out 0
        have r1 := EdBox.c1 B7.out
        have f1 := EdBox.fr B7.out 1
        have r2 := EdBox.c2 B7.out
        have f2 := EdBox.fr B7.out 2
        have r3 := EdBox.c3 B7.out
        have f3 := EdBox.fr B7.out 3
        have RF : Hid (Rd ((((w7.setCell ⟨w.heap.size, 0, none⟩ (.string s1)).setCell ⟨w.heap.size, 1, none⟩ (.string s2)).setCell ⟨w.heap.size, 2, none⟩ (.bool false)).setCell ⟨w.heap.size, 3, none⟩ (.string s4)) g A n c q6) := H0.out.setNew (H0.out.setNew (H0.out.setNew (H0.out.setNew (R7.out) (Nat.le_refl _) 0 _) (Nat.le_refl _) 1 _) (Nat.le_refl _) 2 _) (Nat.le_refl _) 3 _
        have GF : Hid (w.grownBy ((((w7.setCell ⟨w.heap.size, 0, none⟩ (.string s1)).setCell ⟨w.heap.size, 1, none⟩ (.string s2)).setCell ⟨w.heap.size, 2, none⟩ (.bool false)).setCell ⟨w.heap.size, 3, none⟩ (.string s4)) (some g)) := gb_new (gb_new (gb_new (gb_new (G7.out) (Nat.le_refl _) 0 _) (Nat.le_refl _) 1 _) (Nat.le_refl _) 2 _) (Nat.le_refl _) 3 _
        go_wp2
        refine bodyPost_ret (v := .agg #[.string s1, .string s2, .bool false, .string s4]) (by simp [results, Tryd.results26, go_sem, r0, r1, r2, r3]) rfl ⟨s1, s2, false, s4, rfl, ⟨Hs1.out, Hs2.out, Hs4.out⟩, q6, by omega, by omega, RF.out, GF.out⟩
      · have n4 : (x == 4) = false := beq_eq_false_iff_ne.2 h4
        clear h0 h3 h4 hx0
        have e0 := EdBox.c0 E5.out
        have e1 := EdBox.c1 E5.out
        have e2 := EdBox.c2 E5.out
        have e3 := EdBox.c3 E5.out
        have r0 := EdBox.c0 B5.out
        have f0 := EdBox.fr B5.out 0
        have r1 := EdBox.c1 B5.out
        have f1 := EdBox.fr B5.out 1
        have r2 := EdBox.c2 B5.out
        have f2 := EdBox.fr B5.out 2
        have r3 := EdBox.c3 B5.out
        have f3 := EdBox.fr B5.out 3
        have RF : Hid (Rd ((((w5.setCell ⟨w.heap.size, 0, none⟩ (.string s1)).setCell ⟨w.heap.size, 1, none⟩ (.string s2)).setCell ⟨w.heap.size, 2, none⟩ (.bool false)).setCell ⟨w.heap.size, 3, none⟩ (.string s3)) g A n c (q3 + 1)) := H0.out.setNew (H0.out.setNew (H0.out.setNew (H0.out.setNew (R5.out) (Nat.le_refl _) 0 _) (Nat.le_refl _) 1 _) (Nat.le_refl _) 2 _) (Nat.le_refl _) 3 _
        have GF : Hid (w.grownBy ((((w5.setCell ⟨w.heap.size, 0, none⟩ (.string s1)).setCell ⟨w.heap.size, 1, none⟩ (.string s2)).setCell ⟨w.heap.size, 2, none⟩ (.bool false)).setCell ⟨w.heap.size, 3, none⟩ (.string s3)) (some g)) := gb_new (gb_new (gb_new (gb_new (G5.out) (Nat.le_refl _) 0 _) (Nat.le_refl _) 1 _) (Nat.le_refl _) 2 _) (Nat.le_refl _) 3 _
        go_wp2
        refine bodyPost_ret (v := .agg #[.string s1, .string s2, .bool false, .string s3]) (by simp [results, Tryd.results26, go_sem, r0, r1, r2, r3]) rfl ⟨s1, s2, false, s3, rfl, ⟨Hs1.out, Hs2.out, Hs3.out⟩, (q3 + 1), by omega, by omega, RF.out, GF.out⟩

section
variable {H : Type} {enc : TypeId × Value → H} {w : World} {base : Nat} {spare : Nat → Bool} {held : Bool}
set_option maxRecDepth 100000 in
theorem open_edit {r : Reach} {b0 : Nat} {v : Value} {d : DataW H} {p : List MemPlace} (hv : Value.okWide Tryd.prog w r b0 23 v) (h : DataW.Trod enc Tryd.prog w base spare held 23 v d p) :
    ∃ (a b : ByteArray) (q : Bool) (c : ByteArray), v = .agg #[.string a, .string b, .bool q, .string c] ∧ a.size ≤ maxLen ∧ b.size ≤ maxLen ∧ c.size ≤ maxLen := by
  obtain ⟨cs, rfl, hsz⟩ := okWide_struct Tryd.underlying23 hv
  have h1 : Tryd.prog.cellsOf 23 = 4 := by kernel_rfl
  rw [h1] at hsz
  obtain ⟨fuel, hf⟩ := h
  obtain ⟨xs, n, _, _, _, hlen, hg⟩ := DataW.trod_struct Tryd.underlying23 hf
  obtain ⟨l⟩ := cs
  match l, hsz with
  | [v0, v1, v2, v3], _ =>
    have g0 := hg 0 _ rfl
    have g1 := hg 1 _ rfl
    have g2 := hg 2 _ rfl
    have g3 := hg 3 _ rfl
    have hc1 : Tryd.prog.cellsOf 9 = 1 := by kernel_rfl
    have hc2 : Tryd.prog.cellsOf 4 = 1 := by kernel_rfl
    match xs, hlen with
    | [y0, y1, y2, y3], _ =>
      obtain ⟨z0, e0, _, b0⟩ := DataW.trod_string Tryd.underlying9 (by simpa [Value.cells, hc1, hc2] using g0)
      obtain ⟨z1, e1, _, b1⟩ := DataW.trod_string Tryd.underlying9 (by simpa [Value.cells, hc1, hc2] using g1)
      obtain ⟨z2, e2, _⟩ := DataW.trod_bool Tryd.underlying4 (by simpa [Value.cells, hc1, hc2] using g2)
      obtain ⟨z3, e3, _, b3⟩ := DataW.trod_string Tryd.underlying9 (by simpa [Value.cells, hc1, hc2] using g3)
      simp only [List.cons.injEq, and_true] at e0 e1 e2 e3
      subst e0 e1 e2 e3
      exact ⟨z0, z1, z2, z3, rfl, b0, b1, b3⟩
end
end Go.Proofs.YthiefficgmokgaaDoor
