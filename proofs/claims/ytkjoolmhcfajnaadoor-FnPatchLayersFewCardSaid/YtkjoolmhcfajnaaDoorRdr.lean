/-
  The reader that the drawn laws make of their bytes: newReader, pick, of and one of the specification. Conditions: the reader's place is at most 100000.
  What the drawn laws' generator makes of lines: aLine. Conditions: the reader's place is at most 80000.
  What the drawn laws' generator makes of files: goodFile, someFile. Conditions: the reader's place is at most 50000.
  What the drawn laws' generator makes of files that may not be valid: someFile. Conditions: the reader's place is at most 50000.
  What the drawn laws' generator makes of files with a key: keyIn. Conditions: the reader's place is at most 40000.
-/
import Derived.Test.YtkjoolmhcfajnaaDoorMark
import Derived.Test.YtkjoolmhcfajnaaDoorGrow
import Derived.Laws.Bits64
import Derived.IntWalk
import Derived.Deep.QuietTactic
import Derived.BigQuiet
import Derived.Deep.DeepCutAuto
import Derived.Test.YtkjoolmhcfajnaaDoorMem
import Derived.Test.YtkjoolmhcfajnaaDoorRegM
import Derived.StillTailTactics
namespace Go.Proofs.YtkjoolmhcfajnaaDoor
open Go.RowKit

theorem wrap_i64' (n : Int) : IntKind.i64.wrap n = if 9223372036854775808 ≤ n % 18446744073709551616 then n % 18446744073709551616 - 18446744073709551616 else n % 18446744073709551616 := by simp [IntKind.wrap, IntKind.bits, IntKind.signed]
theorem bits_xor_i64_nat (a b : Nat) (ha : a < 9223372036854775808) (hb : b < 9223372036854775808) :
    bits .xor .i64 (a : Int) (b : Int) = ((a ^^^ b : Nat) : Int) := by
  have hx : a ^^^ b < 2 ^ 63 := Nat.xor_lt_two_pow (by omega) (by omega)
  have h1 : (BitVec.ofInt 64 (a : Int)).toNat = a := by
    rw [BitVec.ofInt_natCast, BitVec.toNat_ofNat]; exact Nat.mod_eq_of_lt (by omega)
  have h2 : (BitVec.ofInt 64 (b : Int)).toNat = b := by
    rw [BitVec.ofInt_natCast, BitVec.toNat_ofNat]; exact Nat.mod_eq_of_lt (by omega)
  show IntKind.i64.wrap ((BitVec.ofInt 64 (a : Int) ^^^ BitVec.ofInt 64 (b : Int)).toNat : Int) = _
  rw [BitVec.toNat_xor, h1, h2, wrap_i64', if_neg (by omega)]
  omega
theorem xor_pos {a b : Int} (ha : 0 ≤ a) (hb : 0 ≤ b) (ha2 : a ≤ 1000000000000) (hb2 : b ≤ 1000000000000) : 0 ≤ bits .xor .i64 a b ∧ bits .xor .i64 a b < 9223372036854775808 := by
  obtain ⟨x, rfl⟩ := Int.eq_ofNat_of_zero_le ha
  obtain ⟨y, rfl⟩ := Int.eq_ofNat_of_zero_le hb
  have hx : x ^^^ y < 2 ^ 63 := Nat.xor_lt_two_pow (by omega) (by omega)
  rw [bits_xor_i64_nat x y (by omega) (by omega)]
  omega

/-- the bytes that a reader reads: they don't lie in block g -/
def ByAt (w : World) (g : Nat) (A : Option Addr) (n : Nat) : Prop :=
  0 < n → ∃ b o, A = some ⟨b, o, none⟩ ∧ b ≠ g ∧ b < w.heap.size ∧ ∀ i, i < n → ∃ x : Int, 0 ≤ x ∧ x ≤ 255 ∧ w.cell? ⟨b, o + i, none⟩ = some (.int .u8 x)
theorem ByAt.far {w w' : World} {g : Nat} {A : Option Addr} {n : Nat} (h : ByAt w g A n) (k : w.grownBy w' (some g)) : ByAt w' g A n := fun h0 => by
  obtain ⟨b, o, e, hne, hb, hc⟩ := h h0
  refine ⟨b, o, e, hne, Nat.lt_of_lt_of_le hb k.size, fun i hi => ?_⟩
  obtain ⟨x, h1, h2, h3⟩ := hc i hi
  exact ⟨x, h1, h2, (k.cell_far ⟨b, o + i, none⟩ hb (by intro e9; injection e9 with e9; exact hne e9)).trans h3⟩
/-- block g is a reader at place p -/
structure Rd (w : World) (g : Nat) (A : Option Addr) (n c p : Nat) : Prop where
  blk : w.heap[g]? = some (.cells #[.slice A n c, .int .i64 p] 65 (0, 0))
  by_ : ByAt w g A n
theorem Rd.lt {w : World} {g : Nat} {A : Option Addr} {n c p : Nat} (h : Rd w g A n c p) : g < w.heap.size := by
  rcases Nat.lt_or_ge g w.heap.size with hlt | hge
  · exact hlt
  · have := h.blk; rw [Array.getElem?_eq_none hge] at this; cases this
theorem Rd.c0 {w : World} {g : Nat} {A : Option Addr} {n c p : Nat} (h : Rd w g A n c p) : w.cell? ⟨g, 0, none⟩ = some (.slice A n c) := by rw [cell_of_row w g 0 _ _ _ h.blk]; rfl
theorem Rd.c1 {w : World} {g : Nat} {A : Option Addr} {n c p : Nat} (h : Rd w g A n c p) : w.cell? ⟨g, 1, none⟩ = some (.int .i64 p) := by rw [cell_of_row w g 1 _ _ _ h.blk]; rfl
theorem Rd.fr {w : World} {g : Nat} {A : Option Addr} {n c p : Nat} (h : Rd w g A n c p) (j : Nat) : w.frozen? ⟨g, j, none⟩ = false := frozen_of_row w g j _ _ h.blk
theorem Rd.next {w : World} {g : Nat} {A : Option Addr} {n c p : Nat} (h : Rd w g A n c p) : Rd (w.setCell ⟨g, 1, none⟩ (.int .i64 ((p : Int) + 1))) g A n c (p + 1) := by
  refine ⟨?_, h.by_.far (gb_set (World.grownBy.refl _ _) _ _)⟩
  have := h.blk
  simp [World.setCell, Array.getElem?_modify, this]
theorem Rd.keep {w w' : World} {g : Nat} {A : Option Addr} {n c p : Nat} (h : Rd w g A n c p) (k : Grows w w') : Rd w' g A n c p :=
  ⟨(k.block g h.lt).trans h.blk, h.by_.far (gb_of k)⟩
theorem Rd.far {w w' : World} {g : Nat} {A : Option Addr} {n c p : Nat} {row : Option Nat} (h : Rd w g A n c p) (k : w.grownBy w' row) (hr : row ≠ some g) (hA : ∀ b o, A = some ⟨b, o, none⟩ → row ≠ some b) : Rd w' g A n c p := by
  refine ⟨(k.block g h.lt (by first | exact hr | exact fun e => hr e.symm)).trans h.blk, fun h0 => ?_⟩
  obtain ⟨b, o, e, hne, hb, hc⟩ := h.by_ h0
  refine ⟨b, o, e, hne, Nat.lt_of_lt_of_le hb k.size, fun i hi => ?_⟩
  obtain ⟨x, h1, h2, h3⟩ := hc i hi
  exact ⟨x, h1, h2, (k.cell_far ⟨b, o + i, none⟩ hb (by first | exact hA b o e | exact fun e9 => hA b o e e9.symm)).trans h3⟩

/-- a call's end that reads on: at most d places -/
def RdOn (g : Nat) (A : Option Addr) (n c p d : Nat) (w w' : World) : Prop := ∃ q, p ≤ q ∧ q ≤ p + d ∧ Rd w' g A n c q ∧ w.grownBy w' (some g)
theorem RdOn.refl {w : World} {g : Nat} {A : Option Addr} {n c p : Nat} (h : Rd w g A n c p) : RdOn g A n c p 0 w w := ⟨p, Nat.le_refl _, Nat.le_refl _, h, World.grownBy.refl _ _⟩

def PickRet (k : Int) (g : Nat) (A : Option Addr) (n c p : Nat) (w : World) (e : Ending) (w' : World) : Prop :=
  ∃ x : Int, e = .returned (.int .i64 x) ∧ 0 ≤ x ∧ (0 < k → x < k) ∧ Rd w' g A n c (p + 1) ∧ w.grownBy w' (some g)

set_option maxRecDepth 100000 in
set_option maxHeartbeats 2000000 in
theorem pick_any (k : Int) (g : Nat) (A : Option Addr) (n c p : Nat) (w : World) (hk : k ≤ 1048577) (hk0 : -1048577 ≤ k) (hp : p ≤ 100000) (hn : n ≤ 2000) (h : Rd w g A n c p) :
    Calls Tryd.prog 30 #[.pointer (some ⟨g, 0, none⟩), .int .i64 k] w (PickRet k g A n c p w) := by
  have c0 := h.c0
  have c1 := h.c1
  have fr := h.fr 1
  have d0 := h.next.c0
  have d1 := h.next.c1
  have HN := Lib.hid h.next
  have HG : Hid (w.grownBy (w.setCell ⟨g, 1, none⟩ (.int .i64 ((p : Int) + 1))) (some g)) := gb_set (World.grownBy.refl _ _) _ _
  obtain ⟨w1, hw1⟩ : ∃ w1, w.setCell ⟨g, 1, none⟩ (.int .i64 ((p : Int) + 1)) = w1 := ⟨_, rfl⟩
  have HW := Lib.hid hw1
  rw [hw1] at d0 d1 HN HG
  have HB := Lib.hid HN.out.by_
  clear h hw1
  go_enter Tryd.func30, Tryd.ntmps30
  go_upto_region 2 with (fail)
  rw [HW.out]
  by_cases hk1 : k < 1
  · have hd : decide (k < 1) = true := by simpa using hk1
    have hd2 := Lib.hid hk1
    clear hk1
    go_wp2
    go_ret
    exact ⟨0, rfl, Int.le_refl _, fun h => by have := hd2.out; omega, HN.out, HG.out⟩
  · have hd : decide (k < 1) = false := by simpa using hk1
    have hk1' : 1 ≤ k := by omega
    clear hk1
    rcases Nat.eq_zero_or_pos n with hn0 | hn0
    · subst hn0
      go_wp2
      go_ret
      exact ⟨0, rfl, Int.le_refl _, fun h => h, HN.out, HG.out⟩
    · by_cases hlt : p < n
      · obtain ⟨b, o, rfl, _, hb, hc⟩ := HB.out hn0
        obtain ⟨x, hx0, hx1, hx⟩ := hc p hlt
        clear hc
        have hd2 : ((n : Int) == 0) = false := by rw [beq_eq_false_iff_ne]; omega
        have hd3 : decide ((p : Int) < (n : Int)) = true := by simp; omega
        go_wp2
        go_ret
        exact ⟨x % k, rfl, Int.emod_nonneg _ (by omega), fun _ => Int.emod_lt_of_pos _ (by omega), HN.out, HG.out⟩
      · have hd2 : ((n : Int) == 0) = false := by rw [beq_eq_false_iff_ne]; omega
        have hd3 : decide ((p : Int) < (n : Int)) = false := by simp; omega
        obtain ⟨b, o, rfl, _, hb, hc⟩ := HB.out hn0
        obtain ⟨i1, hi1⟩ : ∃ i, p % n = i := ⟨_, rfl⟩
        obtain ⟨i2, hi2⟩ : ∃ i, (p * 7 + 3) % n = i := ⟨_, rfl⟩
        obtain ⟨q, hq⟩ : ∃ i, p / n = i := ⟨_, rfl⟩
        have b1 : i1 < n := by rw [← hi1]; exact Nat.mod_lt _ hn0
        have b2 : i2 < n := by rw [← hi2]; exact Nat.mod_lt _ hn0
        have b3 : q ≤ p := by rw [← hq]; exact Nat.div_le_self _ _
        have e1 : (p : Int).tmod (n : Int) = (i1 : Int) := by rw [← hi1]; rfl
        have e2 : ((p : Int) * 7 + 3).tmod (n : Int) = (i2 : Int) := by
          rw [← hi2, show ((p : Int) * 7 + 3) = ((p * 7 + 3 : Nat) : Int) from by omega]; rfl
        have e3 : (p : Int).tdiv (n : Int) = (q : Int) := by rw [← hq]; rfl
        obtain ⟨x1, x10, x11, hx1⟩ := hc i1 b1
        obtain ⟨x2, x20, x21, hx2⟩ := hc i2 b2
        clear hc hi1 hi2 hq
        have k1 : IntKind.i64.wrap (x1 * 131) = x1 * 131 := IntWalk.i64_in _ (by omega)
        have k2 : IntKind.i64.wrap ((p : Int) * 7) = (p : Int) * 7 := IntWalk.i64_in _ (by omega)
        have k3 : IntKind.i64.wrap ((p : Int) * 7 + 3) = (p : Int) * 7 + 3 := IntWalk.i64_in _ (by omega)
        have k4 : IntKind.i64.wrap (x2 * 1117) = x2 * 1117 := IntWalk.i64_in _ (by omega)
        have k5 : IntKind.i64.wrap (x1 * 131 + x2 * 1117) = x1 * 131 + x2 * 1117 := IntWalk.i64_in _ (by omega)
        have k6 : IntKind.i64.wrap ((p : Int) * 29) = (p : Int) * 29 := IntWalk.i64_in _ (by omega)
        have k7 : IntKind.i64.wrap (x1 * 131 + x2 * 1117 + (p : Int) * 29) = x1 * 131 + x2 * 1117 + (p : Int) * 29 := IntWalk.i64_in _ (by omega)
        have k8 : IntKind.i64.wrap (q : Int) = (q : Int) := IntWalk.i64_in _ (by omega)
        have k9 : IntKind.i64.wrap ((q : Int) * 53) = (q : Int) * 53 := IntWalk.i64_in _ (by omega)
        have k10 : IntKind.i64.wrap (x1 * 131 + x2 * 1117 + (p : Int) * 29 + (q : Int) * 53) = x1 * 131 + x2 * 1117 + (p : Int) * 29 + (q : Int) * 53 := IntWalk.i64_in _ (by omega)
        go_upto_region 7 with (fail)
        go_quiet (fail)
        have hz0 : 0 ≤ x1 * 131 + x2 * 1117 + (p : Int) * 29 + (q : Int) * 53 := by omega
        have hz1 : x1 * 131 + x2 * 1117 + (p : Int) * 29 + (q : Int) * 53 ≤ 100000000 := by omega
        clear k1 k2 k3 k4 k5 k6 k7 k8 k9 k10 e1 e2 e3 hx1 hx2 d0 d1
        generalize x1 * 131 + x2 * 1117 + (p : Int) * 29 + (q : Int) * 53 = Z at hz0 hz1 ⊢
        have hy := (xor_pos (a := Z) (b := Z / 64) hz0 (by omega) (by omega) (by omega)).1
        have hy2 := (xor_pos (a := Z) (b := Z / 64) hz0 (by omega) (by omega) (by omega)).2
        go_wp2
        go_ret
        exact ⟨bits .xor .i64 Z (Z / 64) % k, rfl, Int.emod_nonneg _ (by omega), fun _ => Int.emod_lt_of_pos _ (by omega), HN.out.keep ((Grows.refl _).drewN nq), gb_grows HG.out ((Grows.refl _).drewN nq)⟩

/-! ### the lists that a reader picks from -/
/-- all are texts of at most 41 bytes -/
def shortsB (arr : Array Value) : Bool := arr.toList.all fun u => match u with | .string s => decide (s.size ≤ 41) | _ => false
theorem shorts_get {arr : Array Value} (h : shortsB arr = true) {i : Nat} (hi : i < arr.size) : ∃ s : ByteArray, arr[i]? = some (.string s) ∧ s.size ≤ 41 := by
  unfold shortsB at h
  rw [List.all_eq_true] at h
  have h1 := h arr[i] (by simp)
  rw [Array.getElem?_eq_getElem hi]
  split at h1
  · rename_i s e
    exact ⟨s, by rw [e], by simpa using h1⟩
  · cases h1
/-- all are small numbers -/
def smallsB (arr : Array Value) : Bool := arr.toList.all fun u => match u with | .int .i64 x => decide (-100 ≤ x) && decide (x ≤ 100) | _ => false
theorem smalls_get {arr : Array Value} (h : smallsB arr = true) {i : Nat} (hi : i < arr.size) : ∃ x : Int, arr[i]? = some (.int .i64 x) ∧ -100 ≤ x ∧ x ≤ 100 := by
  unfold smallsB at h
  rw [List.all_eq_true] at h
  have h1 := h arr[i] (by simp)
  rw [Array.getElem?_eq_getElem hi]
  split at h1
  · rename_i s e
    rw [Bool.and_eq_true, decide_eq_true_iff, decide_eq_true_iff] at h1
    exact ⟨s, by rw [e], h1.1, h1.2⟩
  · cases h1
/-- a call's end: a text of at most 41 bytes, at most d places further -/
def StrRet (d g : Nat) (A : Option Addr) (n c p : Nat) (w : World) (e : Ending) (w' : World) : Prop := ∃ s : ByteArray, e = .returned (.string s) ∧ s.size ≤ 41 ∧ RdOn g A n c p d w w'
/-- a call's end: a small number, at most d places further -/
def IntRet (d g : Nat) (A : Option Addr) (n c p : Nat) (w : World) (e : Ending) (w' : World) : Prop := ∃ x : Int, e = .returned (.int .i64 x) ∧ (-100 ≤ x ∧ x ≤ 100) ∧ RdOn g A n c p d w w'
theorem StrRet.of {d g : Nat} {A : Option Addr} {n c p : Nat} {w w0 : World} {e : Ending} {w' : World} (h : StrRet d g A n c p w e w') (k : Grows w0 w) : StrRet d g A n c p w0 e w' := by
  obtain ⟨s, h1, h2, q, h3, h4, h5, h6⟩ := h
  exact ⟨s, h1, h2, q, h3, h4, h5, (gb_of k).trans h6⟩
theorem IntRet.of {d g : Nat} {A : Option Addr} {n c p : Nat} {w w0 : World} {e : Ending} {w' : World} (h : IntRet d g A n c p w e w') (k : Grows w0 w) : IntRet d g A n c p w0 e w' := by
  obtain ⟨s, h1, h2, q, h3, h4, h5, h6⟩ := h
  exact ⟨s, h1, h2, q, h3, h4, h5, (gb_of k).trans h6⟩

set_option maxRecDepth 100000 in
set_option maxHeartbeats 1000000 in
theorem of_any (b m k : Nat) (arr : Array Value) (t : TypeId) (g : Nat) (A : Option Addr) (n c p : Nat) (w : World) (hb : w.heap[b]? = some (.cells arr t (0, 0))) (hm : arr.size = m) (hm0 : 0 < m) (hm1 : m ≤ 1000) (hs : shortsB arr = true) (hbg : b ≠ g)
    (hp : p ≤ 100000) (hn : n ≤ 2000) (h : Rd w g A n c p) :
    Calls Tryd.prog 55 #[.pointer (some ⟨g, 0, none⟩), .slice (some ⟨b, 0, none⟩) m k] w (StrRet 1 g A n c p w) := by
  have HP := Lib.hid (pick_any (m : Int) g A n c p w (by omega) (by omega) hp hn h)
  have HS : Hid (∀ i, i < m → ∃ s : ByteArray, arr[i]? = some (.string s) ∧ s.size ≤ 41) := fun i hi => shorts_get hs (by rw [hm]; exact hi)
  have HB : Hid (∀ w', w.grownBy w' (some g) → w'.heap[b]? = some (.cells arr t (0, 0))) := fun w' k => by
    have hlt : b < w.heap.size := by
      rcases Nat.lt_or_ge b w.heap.size with hlt | hge
      · exact hlt
      · rw [Array.getElem?_eq_none hge] at hb; cases hb
    exact (k.block b hlt (by intro e; injection e with e; exact hbg e)).trans hb
  clear hb hm hs h
  unfold PickRet at HP
  go_enter Tryd.func55, Tryd.ntmps55
  go_wp2_with fail
  refine (HP.out).mono ?_
  rintro e w1 ⟨x, rfl, hx0, hx1, hr, hg⟩
  obtain ⟨i, rfl⟩ := Int.eq_ofNat_of_zero_le hx0
  have hi : i < m := by have := hx1 (by omega); omega
  obtain ⟨s, hs1, hs2⟩ := HS.out i hi
  have HX := Lib.hid hs2
  have HR : Hid (RdOn g A n c p 1 w w1) := ⟨p + 1, by omega, Nat.le_refl _, hr, hg⟩
  have c0 : w1.cell? ⟨b, i, none⟩ = some (.string s) := (cell_of_row w1 b i _ _ _ (HB.out _ hg)).trans hs1
  clear hx1 hr hg hs1 hs2
  go_wp2
  go_ret
  exact ⟨s, rfl, HX.out, HR.out⟩

set_option maxRecDepth 100000 in
set_option maxHeartbeats 1000000 in
theorem one_any (b m k : Nat) (arr : Array Value) (t : TypeId) (g : Nat) (A : Option Addr) (n c p : Nat) (w : World) (hb : w.heap[b]? = some (.cells arr t (0, 0))) (hm : arr.size = m) (hm0 : 0 < m) (hm1 : m ≤ 1000) (hs : smallsB arr = true) (hbg : b ≠ g)
    (hp : p ≤ 100000) (hn : n ≤ 2000) (h : Rd w g A n c p) :
    Calls Tryd.prog 52 #[.pointer (some ⟨g, 0, none⟩), .slice (some ⟨b, 0, none⟩) m k] w (IntRet 1 g A n c p w) := by
  have HP := Lib.hid (pick_any (m : Int) g A n c p w (by omega) (by omega) hp hn h)
  have HS : Hid (∀ i, i < m → ∃ x : Int, arr[i]? = some (.int .i64 x) ∧ -100 ≤ x ∧ x ≤ 100) := fun i hi => smalls_get hs (by rw [hm]; exact hi)
  have HB : Hid (∀ w', w.grownBy w' (some g) → w'.heap[b]? = some (.cells arr t (0, 0))) := fun w' k => by
    have hlt : b < w.heap.size := by
      rcases Nat.lt_or_ge b w.heap.size with hlt | hge
      · exact hlt
      · rw [Array.getElem?_eq_none hge] at hb; cases hb
    exact (k.block b hlt (by intro e; injection e with e; exact hbg e)).trans hb
  clear hb hm hs h
  unfold PickRet at HP
  go_enter Tryd.func52, Tryd.ntmps52
  go_wp2_with fail
  refine (HP.out).mono ?_
  rintro e w1 ⟨x, rfl, hx0, hx1, hr, hg⟩
  obtain ⟨i, rfl⟩ := Int.eq_ofNat_of_zero_le hx0
  have hi : i < m := by have := hx1 (by omega); omega
  obtain ⟨s, hs1, hs2⟩ := HS.out i hi
  have HX := Lib.hid hs2
  have HR : Hid (RdOn g A n c p 1 w w1) := ⟨p + 1, by omega, Nat.le_refl _, hr, hg⟩
  have c0 : w1.cell? ⟨b, i, none⟩ = some (.int .i64 s) := (cell_of_row w1 b i _ _ _ (HB.out _ hg)).trans hs1
  clear hx1 hr hg hs1 hs2
  go_wp2
  go_ret
  exact ⟨s, rfl, HX.out, HR.out⟩

set_option maxRecDepth 100000 in
set_option maxHeartbeats 1000000 in
theorem aSection_any (g : Nat) (A : Option Addr) (n c p : Nat) (w : World) (hp : p ≤ 100000) (hn : n ≤ 2000) (h : Rd w g A n c p) :
    Calls Tryd.prog 42 #[.pointer (some ⟨g, 0, none⟩)] w (StrRet 1 g A n c p w) := by
  have HR := Lib.hid (fun o => h.keep ((Grows.refl w).alloc o))
  have HL := Lib.hid (Nat.ne_of_gt h.lt)
  clear h
  go_enter Tryd.func42, Tryd.ntmps42
  go_wp2_with fail
  refine (of_any w.heap.size 6 _ _ _ g A n c p _ (heap_alloc_new w _) rfl (by decide) (by decide) (by kernel_rfl) HL.out hp hn (HR.out _)).mono ?_
  rintro e w1 h1
  obtain ⟨s, rfl, h2, h3⟩ := StrRet.of h1 ((Grows.refl _).alloc _)
  have H2 := Lib.hid h2
  have H3 := Lib.hid h3
  clear h1 h2 h3
  go_wp2
  go_ret
  exact ⟨s, rfl, H2.out, H3.out⟩

set_option maxRecDepth 100000 in
set_option maxHeartbeats 1000000 in
theorem aKey_any (g : Nat) (A : Option Addr) (n c p : Nat) (w : World) (hp : p ≤ 100000) (hn : n ≤ 2000) (h : Rd w g A n c p) :
    Calls Tryd.prog 43 #[.pointer (some ⟨g, 0, none⟩)] w (StrRet 1 g A n c p w) := by
  have HR := Lib.hid (fun o => h.keep ((Grows.refl w).alloc o))
  have HL := Lib.hid (Nat.ne_of_gt h.lt)
  clear h
  go_enter Tryd.func43, Tryd.ntmps43
  go_wp2_with fail
  refine (of_any w.heap.size 6 _ _ _ g A n c p _ (heap_alloc_new w _) rfl (by decide) (by decide) (by kernel_rfl) HL.out hp hn (HR.out _)).mono ?_
  rintro e w1 h1
  obtain ⟨s, rfl, h2, h3⟩ := StrRet.of h1 ((Grows.refl _).alloc _)
  have H2 := Lib.hid h2
  have H3 := Lib.hid h3
  clear h1 h2 h3
  go_wp2
  go_ret
  exact ⟨s, rfl, H2.out, H3.out⟩

set_option maxRecDepth 100000 in
set_option maxHeartbeats 1000000 in
theorem anyName_any (g : Nat) (A : Option Addr) (n c p : Nat) (w : World) (hp : p ≤ 100000) (hn : n ≤ 2000) (h : Rd w g A n c p) :
    Calls Tryd.prog 53 #[.pointer (some ⟨g, 0, none⟩)] w (StrRet 1 g A n c p w) := by
  have HR := Lib.hid (fun o => h.keep ((Grows.refl w).alloc o))
  have HL := Lib.hid (Nat.ne_of_gt h.lt)
  clear h
  go_enter Tryd.func53, Tryd.ntmps53
  go_wp2_with fail
  refine (of_any w.heap.size 9 _ _ _ g A n c p _ (heap_alloc_new w _) rfl (by decide) (by decide) (by kernel_rfl) HL.out hp hn (HR.out _)).mono ?_
  rintro e w1 h1
  obtain ⟨s, rfl, h2, h3⟩ := StrRet.of h1 ((Grows.refl _).alloc _)
  have H2 := Lib.hid h2
  have H3 := Lib.hid h3
  clear h1 h2 h3
  go_wp2
  go_ret
  exact ⟨s, rfl, H2.out, H3.out⟩

set_option maxRecDepth 100000 in
set_option maxHeartbeats 1000000 in
theorem aValue_any (g : Nat) (A : Option Addr) (n c p : Nat) (w : World) (hp : p ≤ 100000) (hn : n ≤ 2000) (h : Rd w g A n c p) :
    Calls Tryd.prog 44 #[.pointer (some ⟨g, 0, none⟩)] w (StrRet 1 g A n c p w) := by
  have HR := Lib.hid (fun o => h.keep ((Grows.refl w).alloc o))
  have HL := Lib.hid (Nat.ne_of_gt h.lt)
  clear h
  go_enter Tryd.func44, Tryd.ntmps44
  go_wp2_with fail
  refine (of_any w.heap.size 17 _ _ _ g A n c p _ (heap_alloc_new w _) rfl (by decide) (by decide) (by kernel_rfl) HL.out hp hn (HR.out _)).mono ?_
  rintro e w1 h1
  obtain ⟨s, rfl, h2, h3⟩ := StrRet.of h1 ((Grows.refl _).alloc _)
  have H2 := Lib.hid h2
  have H3 := Lib.hid h3
  clear h1 h2 h3
  go_wp2
  go_ret
  exact ⟨s, rfl, H2.out, H3.out⟩

theorem RdOn.trans {g : Nat} {A : Option Addr} {n c p d d2 q : Nat} {w w1 w2 : World} (h : w.grownBy w1 (some g)) (hq : p ≤ q) (hq2 : q ≤ p + d) (k : RdOn g A n c q d2 w1 w2) : RdOn g A n c p (d + d2) w w2 := by
  obtain ⟨r, h1, h2, h3, h4⟩ := k
  exact ⟨r, by omega, by omega, h3, h.trans h4⟩

set_option maxRecDepth 100000 in
set_option maxHeartbeats 1000000 in
theorem anyValue_any (g : Nat) (A : Option Addr) (n c p : Nat) (w : World) (hp : p ≤ 90000) (hn : n ≤ 2000) (h : Rd w g A n c p) :
    Calls Tryd.prog 54 #[.pointer (some ⟨g, 0, none⟩)] w (StrRet 2 g A n c p w) := by
  have HP := Lib.hid (pick_any 16 g A n c p w (by omega) (by omega) (by omega) hn h)
  unfold PickRet at HP
  clear h
  go_enter Tryd.func54, Tryd.ntmps54
  go_wp2_with fail
  refine (HP.out).mono ?_
  rintro e w1 ⟨x, rfl, hx0, hx1, hr, hg⟩
  have HR := Lib.hid hr
  have HG := Lib.hid hg
  have HL := Lib.hid (Nat.ne_of_gt hr.lt)
  clear hx1 hr hg
  by_cases he : x = 0
  · subst he
    go_wp2_with fail
    refine (of_any w1.heap.size 8 _ _ _ g A n c (p + 1) _ (heap_alloc_new w1 _) rfl (by decide) (by decide) (by kernel_rfl) HL.out (by omega) hn (HR.out.keep ((Grows.refl _).alloc _))).mono ?_
    rintro e w2 h1
    obtain ⟨s, rfl, h2, h3⟩ := StrRet.of h1 ((Grows.refl _).alloc _)
    have H2 := Lib.hid h2
    have H3 := Lib.hid (RdOn.trans (d := 1) HG.out (Nat.le_succ p) (Nat.le_refl _) h3)
    clear h1 h2 h3
    go_wp2
    go_ret
    exact ⟨s, rfl, H2.out, H3.out⟩
  · have hd : (x == 0) = false := by rw [beq_eq_false_iff_ne]; exact he
    clear he
    go_wp2_with fail
    refine (aValue_any g A n c (p + 1) _ (by omega) hn HR.out).mono ?_
    rintro e w2 ⟨s, rfl, h2, h3⟩
    have H2 := Lib.hid h2
    have H3 := Lib.hid (RdOn.trans (d := 1) HG.out (Nat.le_succ p) (Nat.le_refl _) h3)
    clear h2 h3
    go_wp2
    go_ret
    exact ⟨s, rfl, H2.out, H3.out⟩

/-! ### a new reader -/
/-- the bytes of the law's argument -/
def BytesAt (w : World) (A : Option Addr) (n : Nat) : Prop :=
  0 < n → ∃ b o, A = some ⟨b, o, none⟩ ∧ b < w.heap.size ∧ ∀ i, i < n → ∃ x : Int, 0 ≤ x ∧ x ≤ 255 ∧ w.cell? ⟨b, o + i, none⟩ = some (.int .u8 x)
theorem BytesAt.keep {w w' : World} {A : Option Addr} {n : Nat} (h : BytesAt w A n) (g : Grows w w') : BytesAt w' A n := fun h0 => by
  obtain ⟨b, o, e, hb, hc⟩ := h h0
  refine ⟨b, o, e, Nat.lt_of_lt_of_le hb g.size, fun i hi => ?_⟩
  obtain ⟨x, h1, h2, h3⟩ := hc i hi
  exact ⟨x, h1, h2, (g.cell (p := ⟨b, o + i, none⟩) hb).trans h3⟩
theorem BytesAt.rd {w : World} {A : Option Addr} {n k : Nat} (h : BytesAt w A n) (hk : k ≤ n) (c : Nat) : Rd (w.alloc (.cells #[.slice A k c, .int .i64 0] 65)) w.heap.size A k c 0 := by
  refine ⟨heap_alloc_new w _, fun h0 => ?_⟩
  obtain ⟨b, o, e, hb, hc⟩ := h (by omega)
  refine ⟨b, o, e, by omega, by simp; omega, fun i hi => ?_⟩
  obtain ⟨x, h1, h2, h3⟩ := hc i (by omega)
  exact ⟨x, h1, h2, (((Grows.refl w).alloc _).cell (p := ⟨b, o + i, none⟩) hb).trans h3⟩
def NewRet (w : World) (e : Ending) (w' : World) : Prop := ∃ (A : Option Addr) (n c g : Nat), e = .returned (.pointer (some ⟨g, 0, none⟩)) ∧ n ≤ 2000 ∧ w.heap.size ≤ g ∧ Rd w' g A n c 0 ∧ Grows w w'

set_option maxRecDepth 100000 in
set_option maxHeartbeats 1000000 in
theorem newReader_any (A : Option Addr) (n c : Nat) (w : World) (hn : n ≤ maxLen) (hc : n ≤ c) (h : BytesAt w A n) :
    Calls Tryd.prog 13 #[.slice A n c] w (NewRet w) := by
  unfold maxLen at hn
  by_cases hlt : 2000 < n
  · obtain ⟨b, o, rfl, _, _⟩ := h (by omega)
    have HR := Lib.hid (h.rd (k := 2000) (by omega) c)
    have hc2 : 2000 ≤ c := by omega
    clear h
    go_enter Tryd.func13, Tryd.ntmps13
    go_wp2
    go_ret
    exact ⟨_, 2000, c, w.heap.size, rfl, Nat.le_refl _, Nat.le_refl _, HR.out, (Grows.refl _).alloc _⟩
  · have HR := Lib.hid (h.rd (k := n) (Nat.le_refl _) c)
    clear h
    go_enter Tryd.func13, Tryd.ntmps13
    go_wp2
    go_ret
    exact ⟨_, n, c, w.heap.size, rfl, by omega, Nat.le_refl _, HR.out, (Grows.refl _).alloc _⟩
end Go.Proofs.YtkjoolmhcfajnaaDoor
namespace Go.Proofs.YtkjoolmhcfajnaaDoor
open Go.RowKit

theorem alloc_new2 (w : World) (o o2 : Obj) : ((w.alloc o).alloc o2).heap[w.heap.size + 1]? = some o2 := by
  have := heap_alloc_new (w.alloc o) o2
  rwa [World.size_alloc] at this
/-- a block of six cells -/
theorem row6 {w : World} {b : Nat} {v0 v1 v2 v3 v4 v5 : Value} {T : TypeId} (h : w.heap[b]? = some (.cells #[v0, v1, v2, v3, v4, v5] T (0, 0))) :
    (w.cell? ⟨b, 0, none⟩ = some v0 ∧ w.cell? ⟨b, 1, none⟩ = some v1 ∧ w.cell? ⟨b, 2, none⟩ = some v2 ∧ w.cell? ⟨b, 3, none⟩ = some v3 ∧ w.cell? ⟨b, 4, none⟩ = some v4 ∧ w.cell? ⟨b, 5, none⟩ = some v5) ∧
    ∀ j, w.frozen? ⟨b, j, none⟩ = false := by
  refine ⟨⟨?_, ?_, ?_, ?_, ?_, ?_⟩, fun j => frozen_of_row w b j _ _ h⟩
  all_goals (rw [cell_of_row w b _ _ _ _ h]; rfl)
theorem row_keep {w w' : World} {b g : Nat} {o : Obj} (h : w.heap[b]? = some o) (k : w.grownBy w' (some g)) (hne : b ≠ g) : w'.heap[b]? = some o := by
  have hlt : b < w.heap.size := by
    rcases Nat.lt_or_ge b w.heap.size with hlt | hge
    · exact hlt
    · rw [Array.getElem?_eq_none hge] at h; cases h
  exact (k.block b hlt (by intro e; injection e with e; exact hne e)).trans h
theorem row_grow {w w' : World} {b : Nat} {o : Obj} (h : w.heap[b]? = some o) (k : Grows w w') : w'.heap[b]? = some o := by
  have hlt : b < w.heap.size := by
    rcases Nat.lt_or_ge b w.heap.size with hlt | hge
    · exact hlt
    · rw [Array.getElem?_eq_none hge] at h; cases h
  exact (k.block b hlt).trans h
theorem st6_row {w : World} {b : Nat} {v0 v1 v2 v3 v4 v5 : Value} {T : TypeId} (h : w.heap[b]? = some (.cells #[v0, v1, v2, v3, v4, v5] T (0, 0))) (l : Ln) :
    (st6 w b 0 l).heap[b]? = some (.cells #[.int .i64 l.k, .string l.le, .string l.na, .string l.se, .string l.va, .string l.ta] T (0, 0)) := by
  simp [st6, World.setCell, Array.getElem?_modify, h]
/-- a line of short texts -/
def Ln.short (l : Ln) : Prop := (-100 ≤ l.k ∧ l.k ≤ 100) ∧ l.le.size ≤ 41 ∧ l.na.size ≤ 41 ∧ l.se.size ≤ 41 ∧ l.va.size ≤ 41 ∧ l.ta.size ≤ 41
theorem empty_41 : (⟨#[]⟩ : ByteArray).size ≤ 41 := by decide
/-- a call's end: a line of short texts, at most d places further -/
def LineRet (d g : Nat) (A : Option Addr) (n c p : Nat) (w : World) (e : Ending) (w' : World) : Prop := ∃ l : Ln, e = .returned (.agg #[.int .i64 l.k, .string l.le, .string l.na, .string l.se, .string l.va, .string l.ta]) ∧ l.short ∧ RdOn g A n c p d w w'
theorem RdOn.more {g : Nat} {A : Option Addr} {n c p d d2 : Nat} {w w' : World} (h : RdOn g A n c p d w w') (hd : d ≤ d2) : RdOn g A n c p d2 w w' := by
  obtain ⟨q, h1, h2, h3⟩ := h
  exact ⟨q, h1, by omega, h3⟩
/-- a store into a block that is new -/
theorem Rd.setNew {w0 w : World} {g : Nat} {A : Option Addr} {n c p0 p : Nat} (h0 : Rd w0 g A n c p0) (h : Rd w g A n c p) {b : Nat} (hb : w0.heap.size ≤ b) (j : Nat) (u : Value) : Rd (w.setCell ⟨b, j, none⟩ u) g A n c p := by
  have hg := h0.lt
  refine ⟨(Below.heap_setCell w ⟨b, j, none⟩ u g (fun e => by first | (simp at e; done) | (simp at e; omega) | omega)).trans h.blk, fun hn => ?_⟩
  obtain ⟨b1, o1, e1, _, hb1, _⟩ := h0.by_ hn
  obtain ⟨b2, o2, e2, hne, hb2, hc⟩ := h.by_ hn
  rw [e1] at e2
  injection e2 with e2
  injection e2 with e2 e3
  subst e2; subst e3
  refine ⟨b1, o1, e1, hne, by simpa [World.setCell] using hb2, fun i hi => ?_⟩
  obtain ⟨x, h1, h2, h3⟩ := hc i hi
  exact ⟨x, h1, h2, (World.cell?_setCell_other w ⟨b, j, none⟩ ⟨b1, o1 + i, none⟩ u (fun e => by first | (simp at e; done) | (simp at e; omega) | omega)).trans h3⟩
theorem gb_new {a b : World} {g k : Nat} (h : a.grownBy b (some g)) (hk : a.heap.size ≤ k) (j : Nat) (u : Value) : a.grownBy (b.setCell ⟨k, j, none⟩ u) (some g) :=
  ⟨h.os, h.tape, h.output, by simpa [World.setCell] using h.size, fun i hi hne => (Below.heap_setCell b ⟨k, j, none⟩ u i (fun e => by first | (simp at e; done) | (simp at e; omega) | omega)).trans (h.block i hi hne)⟩
/-- a line stored into a block that is new -/
theorem RdOn.st {w0 w : World} {g : Nat} {A : Option Addr} {n c p d : Nat} (h0 : Rd w0 g A n c p) (h : RdOn g A n c p d w0 w) {b : Nat} (hb : w0.heap.size ≤ b) (l : Ln) : RdOn g A n c p d w0 (st6 w b 0 l) := by
  obtain ⟨q, h1, h2, h3, h4⟩ := h
  refine ⟨q, h1, h2, ?_, ?_⟩
  · exact h0.setNew (h0.setNew (h0.setNew (h0.setNew (h0.setNew (h0.setNew h3 hb _ _) hb _ _) hb _ _) hb _ _) hb _ _) hb _ _
  · exact gb_new (gb_new (gb_new (gb_new (gb_new (gb_new h4 hb _ _) hb _ _) hb _ _) hb _ _) hb _ _) hb _ _

theorem RdOn.next {g : Nat} {A : Option Addr} {n c p d d2 : Nat} {w w1 w2 : World} (h : RdOn g A n c p d w w1) (k : ∀ q, p ≤ q → q ≤ p + d → Rd w1 g A n c q → RdOn g A n c q d2 w1 w2) : RdOn g A n c p (d + d2) w w2 := by
  obtain ⟨q, h1, h2, h3, h4⟩ := h
  obtain ⟨r, k1, k2, k3, k4⟩ := k q h1 h2 h3
  exact ⟨r, by omega, by omega, k3, h4.trans k4⟩

end Go.Proofs.YtkjoolmhcfajnaaDoor
namespace Go.Proofs.YtkjoolmhcfajnaaDoor
open Go.RowKit

theorem alloc_new3 (w : World) (o o2 o3 : Obj) : (((w.alloc o).alloc o2).alloc o3).heap[w.heap.size + 1 + 1]? = some o3 := by
  have := heap_alloc_new ((w.alloc o).alloc o2) o3
  rwa [World.size_alloc, World.size_alloc] at this
/-- what a row that is new turns -/
theorem gb_row {a b c : World} {g : Nat} {row : Option Nat} (h : a.grownBy b (some g)) (k : b.grownBy c row) (hr : ∀ i, row = some i → a.heap.size ≤ i) : a.grownBy c (some g) :=
  ⟨k.os.trans h.os, k.tape.trans h.tape, k.output.trans h.output, Nat.le_trans h.size k.size, fun i hi hne => (k.block i (Nat.lt_of_lt_of_le hi h.size) (fun e => by
    have := hr i e.symm
    omega)).trans (h.block i hi hne)⟩
theorem Rd.newRow {w0 w w' : World} {g : Nat} {A : Option Addr} {n c p0 p : Nat} (h0 : Rd w0 g A n c p0) (h : Rd w g A n c p) {row : Option Nat} (k : w.grownBy w' row) (hr : ∀ i, row = some i → w0.heap.size ≤ i) : Rd w' g A n c p := by
  have hg := h0.lt
  refine ⟨(k.block g h.lt (fun e => by have := hr g e.symm; omega)).trans h.blk, fun hn => ?_⟩
  obtain ⟨b1, o1, e1, _, hb1, _⟩ := h0.by_ hn
  obtain ⟨b2, o2, e2, hne, hb2, hc⟩ := h.by_ hn
  rw [e1] at e2
  injection e2 with e2
  injection e2 with e2 e3
  subst e2; subst e3
  refine ⟨b1, o1, e1, hne, Nat.lt_of_lt_of_le hb2 k.size, fun i hi => ?_⟩
  obtain ⟨x, h1, h2, h3⟩ := hc i hi
  exact ⟨x, h1, h2, (k.cell_far ⟨b1, o1 + i, none⟩ hb2 (fun e => by have := hr b1 e.symm; omega)).trans h3⟩
/-- all lines have short texts -/
def ShortL (K : List Ln) : Prop := ∀ l ∈ K, l.short
theorem ShortL.snoc {K : List Ln} {l : Ln} (h : ShortL K) (hl : l.short) : ShortL (K ++ [l]) := by
  intro x hx
  rcases List.mem_append.1 hx with h1 | h1
  · exact h x h1
  · rw [List.mem_singleton] at h1; subst h1; exact hl
end Go.Proofs.YtkjoolmhcfajnaaDoor
namespace Go.Proofs.YtkjoolmhcfajnaaDoor
open Go.RowKit

theorem lcells_field (K : List Ln) : ∀ (k : Nat) (h : k < K.length) (d : Nat) (_ : d < 6) (u : Value) (l : Ln), (lcell K[k]).set d u = lcell l → (lcells K).set (k * 6 + d) u = lcells (K.set k l) := by
  induction K with
  | nil => intro k h; exact absurd h (by simp)
  | cons x K ih =>
    intro k h d hd u l hl
    have hx : (lcell x).length = 6 := rfl
    cases k with
    | zero =>
      rw [lcells, Nat.zero_mul, Nat.zero_add, List.set_append_left _ _ (by rw [hx]; exact hd)]
      have h2 : (lcell x).set d u = lcell l := hl
      rw [h2]
      rfl
    | succ k =>
      rw [lcells, List.set_append_right _ _ (by rw [hx]; omega), hx, show (k + 1) * 6 + d - 6 = k * 6 + d from by omega, ih k (by simpa using h) d hd u l hl]
      rfl
theorem ShortL.set_ {K : List Ln} (h : ShortL K) (k : Nat) (l : Ln) (hl : l.short) : ShortL (K.set k l) := by
  intro x hx
  rcases List.mem_or_eq_of_mem_set hx with h1 | h1
  · exact h x h1
  · rw [h1]; exact hl

end Go.Proofs.YtkjoolmhcfajnaaDoor
namespace Go.Proofs.YtkjoolmhcfajnaaDoor
open Go.RowKit

theorem nowAt_short {K : List Ln} (h : ShortL K) : ∀ k, k ≤ K.length → (nowAt K k).size ≤ 41 := by
  intro k
  induction k with
  | zero => intro _; show (⟨#[]⟩ : ByteArray).size ≤ 41; decide
  | succ k ih =>
    intro hk
    have hk2 : k < K.length := by omega
    rw [nowAt_succ hk2]
    split
    · exact (h K[k] (List.getElem_mem hk2)).2.2.1
    · exact ih (by omega)
end Go.Proofs.YtkjoolmhcfajnaaDoor
