/-
  The reader that the drawn laws make of their bytes: newReader, pick, of and one of the specification. Conditions: the reader's place is at most 100000.
  What the drawn laws' generator makes of lines: aLine. Conditions: the reader's place is at most 80000.
  What the drawn laws' generator makes of files: goodFile, someFile. Conditions: the reader's place is at most 50000.
  What the drawn laws' generator makes of files that may not be valid: someFile. Conditions: the reader's place is at most 50000.
  What the drawn laws' generator makes of files with a key: keyIn. Conditions: the reader's place is at most 40000.
-/
import Derived.Test.YtclopcbpelhiaaaDoorMark
import Derived.Test.YtclopcbpelhiaaaDoorGrow
import Derived.Laws.Bits64
import Derived.IntWalk
import Derived.Deep.QuietTactic
import Derived.BigQuiet
import Derived.Deep.DeepCutAuto
import Derived.Test.YtclopcbpelhiaaaDoorMem
import Derived.Test.YtclopcbpelhiaaaDoorRegM
import Derived.StillTailTactics
namespace Go.Proofs.YtclopcbpelhiaaaDoor
open Go.RowKit

theorem wrap_i64' (n : Int) : IntKind.i64.wrap n = if 9223372036854775808 ≤ n % 18446744073709551616 then n % 18446744073709551616 - 18446744073709551616 else n % 18446744073709551616 := by simp [IntKind.wrap, IntKind.bits, IntKind.signed]
theorem bits_xor_i64_nat (a b : Nat) (ha : a < 9223372036854775808) (hb : b < 9223372036854775808) :
    bits .xor .i64 (a : Int) (b : Int) = ((a ^^^ b : Nat) : Int) := by
  have hx : a ^^^ b < 2 ^ 63 := Nat.xor_lt_two_pow (by omega) (by omega)
  have h1 : (BitVec.ofInt 64 (a : Int)).toNat = a := by
    rw [BitVec.ofInt_natCast, BitVec.toNat_ofNat]; exact Nat.mod_eq_of_lt (by omega)
  have h2 : (BitVec.ofInt 64 (b : Int)).toNat = b := by
    rw [BitVec.ofInt_natCast, BitVec.toNat_ofNat]; exact Nat.mod_eq_of_lt (by omega)
  show IntKind.i64.wrap ((BitVec.ofInt 64 (a : Int) ^^^ BitVec.ofInt 64 (b : Int)).toNat : Int) = _
  rw [BitVec.toNat_xor, h1, h2, wrap_i64', if_neg (by omega)]
  omega
theorem xor_pos {a b : Int} (ha : 0 ≤ a) (hb : 0 ≤ b) (ha2 : a ≤ 1000000000000) (hb2 : b ≤ 1000000000000) : 0 ≤ bits .xor .i64 a b ∧ bits .xor .i64 a b < 9223372036854775808 := by
  obtain ⟨x, rfl⟩ := Int.eq_ofNat_of_zero_le ha
  obtain ⟨y, rfl⟩ := Int.eq_ofNat_of_zero_le hb
  have hx : x ^^^ y < 2 ^ 63 := Nat.xor_lt_two_pow (by omega) (by omega)
  rw [bits_xor_i64_nat x y (by omega) (by omega)]
  omega

/-- the bytes that a reader reads: they don't lie in block g -/
def ByAt (w : World) (g : Nat) (A : Option Addr) (n : Nat) : Prop :=
  0 < n → ∃ b o, A = some ⟨b, o, none⟩ ∧ b ≠ g ∧ b < w.heap.size ∧ ∀ i, i < n → ∃ x : Int, 0 ≤ x ∧ x ≤ 255 ∧ w.cell? ⟨b, o + i, none⟩ = some (.int .u8 x)
theorem ByAt.far {w w' : World} {g : Nat} {A : Option Addr} {n : Nat} (h : ByAt w g A n) (k : w.grownBy w' (some g)) : ByAt w' g A n := fun h0 => by
  obtain ⟨b, o, e, hne, hb, hc⟩ := h h0
  refine ⟨b, o, e, hne, Nat.lt_of_lt_of_le hb k.size, fun i hi => ?_⟩
  obtain ⟨x, h1, h2, h3⟩ := hc i hi
  exact ⟨x, h1, h2, (k.cell_far ⟨b, o + i, none⟩ hb (by intro e9; injection e9 with e9; exact hne e9)).trans h3⟩
/-- block g is a reader at place p -/
structure Rd (w : World) (g : Nat) (A : Option Addr) (n c p : Nat) : Prop where
  blk : w.heap[g]? = some (.cells #[.slice A n c, .int .i64 p] 91 (0, 0))
  by_ : ByAt w g A n
theorem Rd.lt {w : World} {g : Nat} {A : Option Addr} {n c p : Nat} (h : Rd w g A n c p) : g < w.heap.size := by
  rcases Nat.lt_or_ge g w.heap.size with hlt | hge
  · exact hlt
  · have := h.blk; rw [Array.getElem?_eq_none hge] at this; cases this
theorem Rd.c0 {w : World} {g : Nat} {A : Option Addr} {n c p : Nat} (h : Rd w g A n c p) : w.cell? ⟨g, 0, none⟩ = some (.slice A n c) := by rw [cell_of_row w g 0 _ _ _ h.blk]; rfl
theorem Rd.c1 {w : World} {g : Nat} {A : Option Addr} {n c p : Nat} (h : Rd w g A n c p) : w.cell? ⟨g, 1, none⟩ = some (.int .i64 p) := by rw [cell_of_row w g 1 _ _ _ h.blk]; rfl
theorem Rd.fr {w : World} {g : Nat} {A : Option Addr} {n c p : Nat} (h : Rd w g A n c p) (j : Nat) : w.frozen? ⟨g, j, none⟩ = false := frozen_of_row w g j _ _ h.blk
theorem Rd.next {w : World} {g : Nat} {A : Option Addr} {n c p : Nat} (h : Rd w g A n c p) : Rd (w.setCell ⟨g, 1, none⟩ (.int .i64 ((p : Int) + 1))) g A n c (p + 1) := by
  refine ⟨?_, h.by_.far (gb_set (World.grownBy.refl _ _) _ _)⟩
  have := h.blk
  simp [World.setCell, Array.getElem?_modify, this]
theorem Rd.keep {w w' : World} {g : Nat} {A : Option Addr} {n c p : Nat} (h : Rd w g A n c p) (k : Grows w w') : Rd w' g A n c p :=
  ⟨(k.block g h.lt).trans h.blk, h.by_.far (gb_of k)⟩
theorem Rd.far {w w' : World} {g : Nat} {A : Option Addr} {n c p : Nat} {row : Option Nat} (h : Rd w g A n c p) (k : w.grownBy w' row) (hr : row ≠ some g) (hA : ∀ b o, A = some ⟨b, o, none⟩ → row ≠ some b) : Rd w' g A n c p := by
  refine ⟨(k.block g h.lt (by first | exact hr | exact fun e => hr e.symm)).trans h.blk, fun h0 => ?_⟩
  obtain ⟨b, o, e, hne, hb, hc⟩ := h.by_ h0
  refine ⟨b, o, e, hne, Nat.lt_of_lt_of_le hb k.size, fun i hi => ?_⟩
  obtain ⟨x, h1, h2, h3⟩ := hc i hi
  exact ⟨x, h1, h2, (k.cell_far ⟨b, o + i, none⟩ hb (by first | exact hA b o e | exact fun e9 => hA b o e e9.symm)).trans h3⟩

/-- a call's end that reads on: at most d places -/
def RdOn (g : Nat) (A : Option Addr) (n c p d : Nat) (w w' : World) : Prop := ∃ q, p ≤ q ∧ q ≤ p + d ∧ Rd w' g A n c q ∧ w.grownBy w' (some g)
theorem RdOn.refl {w : World} {g : Nat} {A : Option Addr} {n c p : Nat} (h : Rd w g A n c p) : RdOn g A n c p 0 w w := ⟨p, Nat.le_refl _, Nat.le_refl _, h, World.grownBy.refl _ _⟩

def PickRet (k : Int) (g : Nat) (A : Option Addr) (n c p : Nat) (w : World) (e : Ending) (w' : World) : Prop :=
  ∃ x : Int, e = .returned (.int .i64 x) ∧ 0 ≤ x ∧ (0 < k → x < k) ∧ Rd w' g A n c (p + 1) ∧ w.grownBy w' (some g)

set_option maxRecDepth 100000 in
set_option maxHeartbeats 2000000 in
theorem pick_any (k : Int) (g : Nat) (A : Option Addr) (n c p : Nat) (w : World) (hk : k ≤ 1048577) (hk0 : -1048577 ≤ k) (hp : p ≤ 100000) (hn : n ≤ 2000) (h : Rd w g A n c p) :
    Calls Tryd.prog 57 #[.pointer (some ⟨g, 0, none⟩), .int .i64 k] w (PickRet k g A n c p w) := by
  have c0 := h.c0
  have c1 := h.c1
  have fr := h.fr 1
  have d0 := h.next.c0
  have d1 := h.next.c1
  have HN := Lib.hid h.next
  have HG : Hid (w.grownBy (w.setCell ⟨g, 1, none⟩ (.int .i64 ((p : Int) + 1))) (some g)) := gb_set (World.grownBy.refl _ _) _ _
  obtain ⟨w1, hw1⟩ : ∃ w1, w.setCell ⟨g, 1, none⟩ (.int .i64 ((p : Int) + 1)) = w1 := ⟨_, rfl⟩
  have HW := Lib.hid hw1
  rw [hw1] at d0 d1 HN HG
  have HB := Lib.hid HN.out.by_
  clear h hw1
  go_enter Tryd.func57, Tryd.ntmps57
  go_upto_region 2 with (fail)
  rw [HW.out]
  by_cases hk1 : k < 1
  · have hd : decide (k < 1) = true := by simpa using hk1
    have hd2 := Lib.hid hk1
    clear hk1
    go_wp2
    go_ret
    exact ⟨0, rfl, Int.le_refl _, fun h => by have := hd2.out; omega, HN.out, HG.out⟩
  · have hd : decide (k < 1) = false := by simpa using hk1
    have hk1' : 1 ≤ k := by omega
    clear hk1
    rcases Nat.eq_zero_or_pos n with hn0 | hn0
    · subst hn0
      go_wp2
      go_ret
      exact ⟨0, rfl, Int.le_refl _, fun h => h, HN.out, HG.out⟩
    · by_cases hlt : p < n
      · obtain ⟨b, o, rfl, _, hb, hc⟩ := HB.out hn0
        obtain ⟨x, hx0, hx1, hx⟩ := hc p hlt
        clear hc
        have hd2 : ((n : Int) == 0) = false := by rw [beq_eq_false_iff_ne]; omega
        have hd3 : decide ((p : Int) < (n : Int)) = true := by simp; omega
        go_wp2
        go_ret
        exact ⟨x % k, rfl, Int.emod_nonneg _ (by omega), fun _ => Int.emod_lt_of_pos _ (by omega), HN.out, HG.out⟩
      · have hd2 : ((n : Int) == 0) = false := by rw [beq_eq_false_iff_ne]; omega
        have hd3 : decide ((p : Int) < (n : Int)) = false := by simp; omega
        obtain ⟨b, o, rfl, _, hb, hc⟩ := HB.out hn0
        obtain ⟨i1, hi1⟩ : ∃ i, p % n = i := ⟨_, rfl⟩
        obtain ⟨i2, hi2⟩ : ∃ i, (p * 7 + 3) % n = i := ⟨_, rfl⟩
        obtain ⟨q, hq⟩ : ∃ i, p / n = i := ⟨_, rfl⟩
        have b1 : i1 < n := by rw [← hi1]; exact Nat.mod_lt _ hn0
        have b2 : i2 < n := by rw [← hi2]; exact Nat.mod_lt _ hn0
        have b3 : q ≤ p := by rw [← hq]; exact Nat.div_le_self _ _
        have e1 : (p : Int).tmod (n : Int) = (i1 : Int) := by rw [← hi1]; rfl
        have e2 : ((p : Int) * 7 + 3).tmod (n : Int) = (i2 : Int) := by
          rw [← hi2, show ((p : Int) * 7 + 3) = ((p * 7 + 3 : Nat) : Int) from by omega]; rfl
        have e3 : (p : Int).tdiv (n : Int) = (q : Int) := by rw [← hq]; rfl
        obtain ⟨x1, x10, x11, hx1⟩ := hc i1 b1
        obtain ⟨x2, x20, x21, hx2⟩ := hc i2 b2
        clear hc hi1 hi2 hq
        have k1 : IntKind.i64.wrap (x1 * 131) = x1 * 131 := IntWalk.i64_in _ (by omega)
        have k2 : IntKind.i64.wrap ((p : Int) * 7) = (p : Int) * 7 := IntWalk.i64_in _ (by omega)
        have k3 : IntKind.i64.wrap ((p : Int) * 7 + 3) = (p : Int) * 7 + 3 := IntWalk.i64_in _ (by omega)
        have k4 : IntKind.i64.wrap (x2 * 1117) = x2 * 1117 := IntWalk.i64_in _ (by omega)
        have k5 : IntKind.i64.wrap (x1 * 131 + x2 * 1117) = x1 * 131 + x2 * 1117 := IntWalk.i64_in _ (by omega)
        have k6 : IntKind.i64.wrap ((p : Int) * 29) = (p : Int) * 29 := IntWalk.i64_in _ (by omega)
        have k7 : IntKind.i64.wrap (x1 * 131 + x2 * 1117 + (p : Int) * 29) = x1 * 131 + x2 * 1117 + (p : Int) * 29 := IntWalk.i64_in _ (by omega)
        have k8 : IntKind.i64.wrap (q : Int) = (q : Int) := IntWalk.i64_in _ (by omega)
        have k9 : IntKind.i64.wrap ((q : Int) * 53) = (q : Int) * 53 := IntWalk.i64_in _ (by omega)
        have k10 : IntKind.i64.wrap (x1 * 131 + x2 * 1117 + (p : Int) * 29 + (q : Int) * 53) = x1 * 131 + x2 * 1117 + (p : Int) * 29 + (q : Int) * 53 := IntWalk.i64_in _ (by omega)
        go_upto_region 7 with (fail)
        go_quiet (fail)
        have hz0 : 0 ≤ x1 * 131 + x2 * 1117 + (p : Int) * 29 + (q : Int) * 53 := by omega
        have hz1 : x1 * 131 + x2 * 1117 + (p : Int) * 29 + (q : Int) * 53 ≤ 100000000 := by omega
        clear k1 k2 k3 k4 k5 k6 k7 k8 k9 k10 e1 e2 e3 hx1 hx2 d0 d1
        generalize x1 * 131 + x2 * 1117 + (p : Int) * 29 + (q : Int) * 53 = Z at hz0 hz1 ⊢
        have hy := (xor_pos (a := Z) (b := Z / 64) hz0 (by omega) (by omega) (by omega)).1
        have hy2 := (xor_pos (a := Z) (b := Z / 64) hz0 (by omega) (by omega) (by omega)).2
        go_wp2
        go_ret
        exact ⟨bits .xor .i64 Z (Z / 64) % k, rfl, Int.emod_nonneg _ (by omega), fun _ => Int.emod_lt_of_pos _ (by omega), HN.out.keep ((Grows.refl _).drewN nq), gb_grows HG.out ((Grows.refl _).drewN nq)⟩

/-! ### the lists that a reader picks from -/
/-- all are texts of at most 41 bytes -/
def shortsB (arr : Array Value) : Bool := arr.toList.all fun u => match u with | .string s => decide (s.size ≤ 41) | _ => false
theorem shorts_get {arr : Array Value} (h : shortsB arr = true) {i : Nat} (hi : i < arr.size) : ∃ s : ByteArray, arr[i]? = some (.string s) ∧ s.size ≤ 41 := by
  unfold shortsB at h
  rw [List.all_eq_true] at h
  have h1 := h arr[i] (by simp)
  rw [Array.getElem?_eq_getElem hi]
  split at h1
  · rename_i s e
    exact ⟨s, by rw [e], by simpa using h1⟩
  · cases h1
/-- all are small numbers -/
def smallsB (arr : Array Value) : Bool := arr.toList.all fun u => match u with | .int .i64 x => decide (-100 ≤ x) && decide (x ≤ 100) | _ => false
theorem smalls_get {arr : Array Value} (h : smallsB arr = true) {i : Nat} (hi : i < arr.size) : ∃ x : Int, arr[i]? = some (.int .i64 x) ∧ -100 ≤ x ∧ x ≤ 100 := by
  unfold smallsB at h
  rw [List.all_eq_true] at h
  have h1 := h arr[i] (by simp)
  rw [Array.getElem?_eq_getElem hi]
  split at h1
  · rename_i s e
    rw [Bool.and_eq_true, decide_eq_true_iff, decide_eq_true_iff] at h1
    exact ⟨s, by rw [e], h1.1, h1.2⟩
  · cases h1
/-- a call's end: a text of at most 41 bytes, at most d places further -/
def StrRet (d g : Nat) (A : Option Addr) (n c p : Nat) (w : World) (e : Ending) (w' : World) : Prop := ∃ s : ByteArray, e = .returned (.string s) ∧ s.size ≤ 41 ∧ RdOn g A n c p d w w'
/-- a call's end: a small number, at most d places further -/
def IntRet (d g : Nat) (A : Option Addr) (n c p : Nat) (w : World) (e : Ending) (w' : World) : Prop := ∃ x : Int, e = .returned (.int .i64 x) ∧ (-100 ≤ x ∧ x ≤ 100) ∧ RdOn g A n c p d w w'
theorem StrRet.of {d g : Nat} {A : Option Addr} {n c p : Nat} {w w0 : World} {e : Ending} {w' : World} (h : StrRet d g A n c p w e w') (k : Grows w0 w) : StrRet d g A n c p w0 e w' := by
  obtain ⟨s, h1, h2, q, h3, h4, h5, h6⟩ := h
  exact ⟨s, h1, h2, q, h3, h4, h5, (gb_of k).trans h6⟩
theorem IntRet.of {d g : Nat} {A : Option Addr} {n c p : Nat} {w w0 : World} {e : Ending} {w' : World} (h : IntRet d g A n c p w e w') (k : Grows w0 w) : IntRet d g A n c p w0 e w' := by
  obtain ⟨s, h1, h2, q, h3, h4, h5, h6⟩ := h
  exact ⟨s, h1, h2, q, h3, h4, h5, (gb_of k).trans h6⟩

set_option maxRecDepth 100000 in
set_option maxHeartbeats 1000000 in
theorem of_any (b m k : Nat) (arr : Array Value) (t : TypeId) (g : Nat) (A : Option Addr) (n c p : Nat) (w : World) (hb : w.heap[b]? = some (.cells arr t (0, 0))) (hm : arr.size = m) (hm0 : 0 < m) (hm1 : m ≤ 1000) (hs : shortsB arr = true) (hbg : b ≠ g)
    (hp : p ≤ 100000) (hn : n ≤ 2000) (h : Rd w g A n c p) :
    Calls Tryd.prog 64 #[.pointer (some ⟨g, 0, none⟩), .slice (some ⟨b, 0, none⟩) m k] w (StrRet 1 g A n c p w) := by
  have HP := Lib.hid (pick_any (m : Int) g A n c p w (by omega) (by omega) hp hn h)
  have HS : Hid (∀ i, i < m → ∃ s : ByteArray, arr[i]? = some (.string s) ∧ s.size ≤ 41) := fun i hi => shorts_get hs (by rw [hm]; exact hi)
  have HB : Hid (∀ w', w.grownBy w' (some g) → w'.heap[b]? = some (.cells arr t (0, 0))) := fun w' k => by
    have hlt : b < w.heap.size := by
      rcases Nat.lt_or_ge b w.heap.size with hlt | hge
      · exact hlt
      · rw [Array.getElem?_eq_none hge] at hb; cases hb
    exact (k.block b hlt (by intro e; injection e with e; exact hbg e)).trans hb
  clear hb hm hs h
  unfold PickRet at HP
  go_enter Tryd.func64, Tryd.ntmps64
  go_wp2_with fail
  refine (HP.out).mono ?_
  rintro e w1 ⟨x, rfl, hx0, hx1, hr, hg⟩
  obtain ⟨i, rfl⟩ := Int.eq_ofNat_of_zero_le hx0
  have hi : i < m := by have := hx1 (by omega); omega
  obtain ⟨s, hs1, hs2⟩ := HS.out i hi
  have HX := Lib.hid hs2
  have HR : Hid (RdOn g A n c p 1 w w1) := ⟨p + 1, by omega, Nat.le_refl _, hr, hg⟩
  have c0 : w1.cell? ⟨b, i, none⟩ = some (.string s) := (cell_of_row w1 b i _ _ _ (HB.out _ hg)).trans hs1
  clear hx1 hr hg hs1 hs2
  go_wp2
  go_ret
  exact ⟨s, rfl, HX.out, HR.out⟩

set_option maxRecDepth 100000 in
set_option maxHeartbeats 1000000 in
theorem one_any (b m k : Nat) (arr : Array Value) (t : TypeId) (g : Nat) (A : Option Addr) (n c p : Nat) (w : World) (hb : w.heap[b]? = some (.cells arr t (0, 0))) (hm : arr.size = m) (hm0 : 0 < m) (hm1 : m ≤ 1000) (hs : smallsB arr = true) (hbg : b ≠ g)
    (hp : p ≤ 100000) (hn : n ≤ 2000) (h : Rd w g A n c p) :
    Calls Tryd.prog 66 #[.pointer (some ⟨g, 0, none⟩), .slice (some ⟨b, 0, none⟩) m k] w (IntRet 1 g A n c p w) := by
  have HP := Lib.hid (pick_any (m : Int) g A n c p w (by omega) (by omega) hp hn h)
  have HS : Hid (∀ i, i < m → ∃ x : Int, arr[i]? = some (.int .i64 x) ∧ -100 ≤ x ∧ x ≤ 100) := fun i hi => smalls_get hs (by rw [hm]; exact hi)
  have HB : Hid (∀ w', w.grownBy w' (some g) → w'.heap[b]? = some (.cells arr t (0, 0))) := fun w' k => by
    have hlt : b < w.heap.size := by
      rcases Nat.lt_or_ge b w.heap.size with hlt | hge
      · exact hlt
      · rw [Array.getElem?_eq_none hge] at hb; cases hb
    exact (k.block b hlt (by intro e; injection e with e; exact hbg e)).trans hb
  clear hb hm hs h
  unfold PickRet at HP
  go_enter Tryd.func66, Tryd.ntmps66
  go_wp2_with fail
  refine (HP.out).mono ?_
  rintro e w1 ⟨x, rfl, hx0, hx1, hr, hg⟩
  obtain ⟨i, rfl⟩ := Int.eq_ofNat_of_zero_le hx0
  have hi : i < m := by have := hx1 (by omega); omega
  obtain ⟨s, hs1, hs2⟩ := HS.out i hi
  have HX := Lib.hid hs2
  have HR : Hid (RdOn g A n c p 1 w w1) := ⟨p + 1, by omega, Nat.le_refl _, hr, hg⟩
  have c0 : w1.cell? ⟨b, i, none⟩ = some (.int .i64 s) := (cell_of_row w1 b i _ _ _ (HB.out _ hg)).trans hs1
  clear hx1 hr hg hs1 hs2
  go_wp2
  go_ret
  exact ⟨s, rfl, HX.out, HR.out⟩

set_option maxRecDepth 100000 in
set_option maxHeartbeats 1000000 in
theorem aSection_any (g : Nat) (A : Option Addr) (n c p : Nat) (w : World) (hp : p ≤ 100000) (hn : n ≤ 2000) (h : Rd w g A n c p) :
    Calls Tryd.prog 39 #[.pointer (some ⟨g, 0, none⟩)] w (StrRet 1 g A n c p w) := by
  have HR := Lib.hid (fun o => h.keep ((Grows.refl w).alloc o))
  have HL := Lib.hid (Nat.ne_of_gt h.lt)
  clear h
  go_enter Tryd.func39, Tryd.ntmps39
  go_wp2_with fail
  refine (of_any w.heap.size 6 _ _ _ g A n c p _ (heap_alloc_new w _) rfl (by decide) (by decide) (by kernel_rfl) HL.out hp hn (HR.out _)).mono ?_
  rintro e w1 h1
  obtain ⟨s, rfl, h2, h3⟩ := StrRet.of h1 ((Grows.refl _).alloc _)
  have H2 := Lib.hid h2
  have H3 := Lib.hid h3
  clear h1 h2 h3
  go_wp2
  go_ret
  exact ⟨s, rfl, H2.out, H3.out⟩

set_option maxRecDepth 100000 in
set_option maxHeartbeats 1000000 in
theorem aKey_any (g : Nat) (A : Option Addr) (n c p : Nat) (w : World) (hp : p ≤ 100000) (hn : n ≤ 2000) (h : Rd w g A n c p) :
    Calls Tryd.prog 58 #[.pointer (some ⟨g, 0, none⟩)] w (StrRet 1 g A n c p w) := by
  have HR := Lib.hid (fun o => h.keep ((Grows.refl w).alloc o))
  have HL := Lib.hid (Nat.ne_of_gt h.lt)
  clear h
  go_enter Tryd.func58, Tryd.ntmps58
  go_wp2_with fail
  refine (of_any w.heap.size 6 _ _ _ g A n c p _ (heap_alloc_new w _) rfl (by decide) (by decide) (by kernel_rfl) HL.out hp hn (HR.out _)).mono ?_
  rintro e w1 h1
  obtain ⟨s, rfl, h2, h3⟩ := StrRet.of h1 ((Grows.refl _).alloc _)
  have H2 := Lib.hid h2
  have H3 := Lib.hid h3
  clear h1 h2 h3
  go_wp2
  go_ret
  exact ⟨s, rfl, H2.out, H3.out⟩

set_option maxRecDepth 100000 in
set_option maxHeartbeats 1000000 in
theorem anyName_any (g : Nat) (A : Option Addr) (n c p : Nat) (w : World) (hp : p ≤ 100000) (hn : n ≤ 2000) (h : Rd w g A n c p) :
    Calls Tryd.prog 65 #[.pointer (some ⟨g, 0, none⟩)] w (StrRet 1 g A n c p w) := by
  have HR := Lib.hid (fun o => h.keep ((Grows.refl w).alloc o))
  have HL := Lib.hid (Nat.ne_of_gt h.lt)
  clear h
  go_enter Tryd.func65, Tryd.ntmps65
  go_wp2_with fail
  refine (of_any w.heap.size 9 _ _ _ g A n c p _ (heap_alloc_new w _) rfl (by decide) (by decide) (by kernel_rfl) HL.out hp hn (HR.out _)).mono ?_
  rintro e w1 h1
  obtain ⟨s, rfl, h2, h3⟩ := StrRet.of h1 ((Grows.refl _).alloc _)
  have H2 := Lib.hid h2
  have H3 := Lib.hid h3
  clear h1 h2 h3
  go_wp2
  go_ret
  exact ⟨s, rfl, H2.out, H3.out⟩

set_option maxRecDepth 100000 in
set_option maxHeartbeats 1000000 in
theorem aValue_any (g : Nat) (A : Option Addr) (n c p : Nat) (w : World) (hp : p ≤ 100000) (hn : n ≤ 2000) (h : Rd w g A n c p) :
    Calls Tryd.prog 69 #[.pointer (some ⟨g, 0, none⟩)] w (StrRet 1 g A n c p w) := by
  have HR := Lib.hid (fun o => h.keep ((Grows.refl w).alloc o))
  have HL := Lib.hid (Nat.ne_of_gt h.lt)
  clear h
  go_enter Tryd.func69, Tryd.ntmps69
  go_wp2_with fail
  refine (of_any w.heap.size 17 _ _ _ g A n c p _ (heap_alloc_new w _) rfl (by decide) (by decide) (by kernel_rfl) HL.out hp hn (HR.out _)).mono ?_
  rintro e w1 h1
  obtain ⟨s, rfl, h2, h3⟩ := StrRet.of h1 ((Grows.refl _).alloc _)
  have H2 := Lib.hid h2
  have H3 := Lib.hid h3
  clear h1 h2 h3
  go_wp2
  go_ret
  exact ⟨s, rfl, H2.out, H3.out⟩

theorem RdOn.trans {g : Nat} {A : Option Addr} {n c p d d2 q : Nat} {w w1 w2 : World} (h : w.grownBy w1 (some g)) (hq : p ≤ q) (hq2 : q ≤ p + d) (k : RdOn g A n c q d2 w1 w2) : RdOn g A n c p (d + d2) w w2 := by
  obtain ⟨r, h1, h2, h3, h4⟩ := k
  exact ⟨r, by omega, by omega, h3, h.trans h4⟩

set_option maxRecDepth 100000 in
set_option maxHeartbeats 1000000 in
theorem anyValue_any (g : Nat) (A : Option Addr) (n c p : Nat) (w : World) (hp : p ≤ 90000) (hn : n ≤ 2000) (h : Rd w g A n c p) :
    Calls Tryd.prog 47 #[.pointer (some ⟨g, 0, none⟩)] w (StrRet 2 g A n c p w) := by
  have HP := Lib.hid (pick_any 16 g A n c p w (by omega) (by omega) (by omega) hn h)
  unfold PickRet at HP
  clear h
  go_enter Tryd.func47, Tryd.ntmps47
  go_wp2_with fail
  refine (HP.out).mono ?_
  rintro e w1 ⟨x, rfl, hx0, hx1, hr, hg⟩
  have HR := Lib.hid hr
  have HG := Lib.hid hg
  have HL := Lib.hid (Nat.ne_of_gt hr.lt)
  clear hx1 hr hg
  by_cases he : x = 0
  · subst he
    go_wp2_with fail
    refine (of_any w1.heap.size 8 _ _ _ g A n c (p + 1) _ (heap_alloc_new w1 _) rfl (by decide) (by decide) (by kernel_rfl) HL.out (by omega) hn (HR.out.keep ((Grows.refl _).alloc _))).mono ?_
    rintro e w2 h1
    obtain ⟨s, rfl, h2, h3⟩ := StrRet.of h1 ((Grows.refl _).alloc _)
    have H2 := Lib.hid h2
    have H3 := Lib.hid (RdOn.trans (d := 1) HG.out (Nat.le_succ p) (Nat.le_refl _) h3)
    clear h1 h2 h3
    go_wp2
    go_ret
    exact ⟨s, rfl, H2.out, H3.out⟩
  · have hd : (x == 0) = false := by rw [beq_eq_false_iff_ne]; exact he
    clear he
    go_wp2_with fail
    refine (aValue_any g A n c (p + 1) _ (by omega) hn HR.out).mono ?_
    rintro e w2 ⟨s, rfl, h2, h3⟩
    have H2 := Lib.hid h2
    have H3 := Lib.hid (RdOn.trans (d := 1) HG.out (Nat.le_succ p) (Nat.le_refl _) h3)
    clear h2 h3
    go_wp2
    go_ret
    exact ⟨s, rfl, H2.out, H3.out⟩

/-! ### a new reader -/
/-- the bytes of the law's argument -/
def BytesAt (w : World) (A : Option Addr) (n : Nat) : Prop :=
  0 < n → ∃ b o, A = some ⟨b, o, none⟩ ∧ b < w.heap.size ∧ ∀ i, i < n → ∃ x : Int, 0 ≤ x ∧ x ≤ 255 ∧ w.cell? ⟨b, o + i, none⟩ = some (.int .u8 x)
theorem BytesAt.keep {w w' : World} {A : Option Addr} {n : Nat} (h : BytesAt w A n) (g : Grows w w') : BytesAt w' A n := fun h0 => by
  obtain ⟨b, o, e, hb, hc⟩ := h h0
  refine ⟨b, o, e, Nat.lt_of_lt_of_le hb g.size, fun i hi => ?_⟩
  obtain ⟨x, h1, h2, h3⟩ := hc i hi
  exact ⟨x, h1, h2, (g.cell (p := ⟨b, o + i, none⟩) hb).trans h3⟩
theorem BytesAt.rd {w : World} {A : Option Addr} {n k : Nat} (h : BytesAt w A n) (hk : k ≤ n) (c : Nat) : Rd (w.alloc (.cells #[.slice A k c, .int .i64 0] 91)) w.heap.size A k c 0 := by
  refine ⟨heap_alloc_new w _, fun h0 => ?_⟩
  obtain ⟨b, o, e, hb, hc⟩ := h (by omega)
  refine ⟨b, o, e, by omega, by simp; omega, fun i hi => ?_⟩
  obtain ⟨x, h1, h2, h3⟩ := hc i (by omega)
  exact ⟨x, h1, h2, (((Grows.refl w).alloc _).cell (p := ⟨b, o + i, none⟩) hb).trans h3⟩
def NewRet (w : World) (e : Ending) (w' : World) : Prop := ∃ (A : Option Addr) (n c g : Nat), e = .returned (.pointer (some ⟨g, 0, none⟩)) ∧ n ≤ 2000 ∧ w.heap.size ≤ g ∧ Rd w' g A n c 0 ∧ Grows w w'

set_option maxRecDepth 100000 in
set_option maxHeartbeats 1000000 in
theorem newReader_any (A : Option Addr) (n c : Nat) (w : World) (hn : n ≤ maxLen) (hc : n ≤ c) (h : BytesAt w A n) :
    Calls Tryd.prog 25 #[.slice A n c] w (NewRet w) := by
  unfold maxLen at hn
  by_cases hlt : 2000 < n
  · obtain ⟨b, o, rfl, _, _⟩ := h (by omega)
    have HR := Lib.hid (h.rd (k := 2000) (by omega) c)
    have hc2 : 2000 ≤ c := by omega
    clear h
    go_enter Tryd.func25, Tryd.ntmps25
    go_wp2
    go_ret
    exact ⟨_, 2000, c, w.heap.size, rfl, Nat.le_refl _, Nat.le_refl _, HR.out, (Grows.refl _).alloc _⟩
  · have HR := Lib.hid (h.rd (k := n) (Nat.le_refl _) c)
    clear h
    go_enter Tryd.func25, Tryd.ntmps25
    go_wp2
    go_ret
    exact ⟨_, n, c, w.heap.size, rfl, by omega, Nat.le_refl _, HR.out, (Grows.refl _).alloc _⟩
end Go.Proofs.YtclopcbpelhiaaaDoor
namespace Go.Proofs.YtclopcbpelhiaaaDoor
open Go.RowKit

theorem alloc_new2 (w : World) (o o2 : Obj) : ((w.alloc o).alloc o2).heap[w.heap.size + 1]? = some o2 := by
  have := heap_alloc_new (w.alloc o) o2
  rwa [World.size_alloc] at this
/-- a block of six cells -/
theorem row6 {w : World} {b : Nat} {v0 v1 v2 v3 v4 v5 : Value} {T : TypeId} (h : w.heap[b]? = some (.cells #[v0, v1, v2, v3, v4, v5] T (0, 0))) :
    (w.cell? ⟨b, 0, none⟩ = some v0 ∧ w.cell? ⟨b, 1, none⟩ = some v1 ∧ w.cell? ⟨b, 2, none⟩ = some v2 ∧ w.cell? ⟨b, 3, none⟩ = some v3 ∧ w.cell? ⟨b, 4, none⟩ = some v4 ∧ w.cell? ⟨b, 5, none⟩ = some v5) ∧
    ∀ j, w.frozen? ⟨b, j, none⟩ = false := by
  refine ⟨⟨?_, ?_, ?_, ?_, ?_, ?_⟩, fun j => frozen_of_row w b j _ _ h⟩
  all_goals (rw [cell_of_row w b _ _ _ _ h]; rfl)
theorem row_keep {w w' : World} {b g : Nat} {o : Obj} (h : w.heap[b]? = some o) (k : w.grownBy w' (some g)) (hne : b ≠ g) : w'.heap[b]? = some o := by
  have hlt : b < w.heap.size := by
    rcases Nat.lt_or_ge b w.heap.size with hlt | hge
    · exact hlt
    · rw [Array.getElem?_eq_none hge] at h; cases h
  exact (k.block b hlt (by intro e; injection e with e; exact hne e)).trans h
theorem row_grow {w w' : World} {b : Nat} {o : Obj} (h : w.heap[b]? = some o) (k : Grows w w') : w'.heap[b]? = some o := by
  have hlt : b < w.heap.size := by
    rcases Nat.lt_or_ge b w.heap.size with hlt | hge
    · exact hlt
    · rw [Array.getElem?_eq_none hge] at h; cases h
  exact (k.block b hlt).trans h
theorem st6_row {w : World} {b : Nat} {v0 v1 v2 v3 v4 v5 : Value} {T : TypeId} (h : w.heap[b]? = some (.cells #[v0, v1, v2, v3, v4, v5] T (0, 0))) (l : Ln) :
    (st6 w b 0 l).heap[b]? = some (.cells #[.int .i64 l.k, .string l.le, .string l.na, .string l.se, .string l.va, .string l.ta] T (0, 0)) := by
  simp [st6, World.setCell, Array.getElem?_modify, h]
/-- a line of short texts -/
def Ln.short (l : Ln) : Prop := (-100 ≤ l.k ∧ l.k ≤ 100) ∧ l.le.size ≤ 41 ∧ l.na.size ≤ 41 ∧ l.se.size ≤ 41 ∧ l.va.size ≤ 41 ∧ l.ta.size ≤ 41
theorem empty_41 : (⟨#[]⟩ : ByteArray).size ≤ 41 := by decide
/-- a call's end: a line of short texts, at most d places further -/
def LineRet (d g : Nat) (A : Option Addr) (n c p : Nat) (w : World) (e : Ending) (w' : World) : Prop := ∃ l : Ln, e = .returned (.agg #[.int .i64 l.k, .string l.le, .string l.na, .string l.se, .string l.va, .string l.ta]) ∧ l.short ∧ RdOn g A n c p d w w'
theorem RdOn.more {g : Nat} {A : Option Addr} {n c p d d2 : Nat} {w w' : World} (h : RdOn g A n c p d w w') (hd : d ≤ d2) : RdOn g A n c p d2 w w' := by
  obtain ⟨q, h1, h2, h3⟩ := h
  exact ⟨q, h1, by omega, h3⟩
/-- a store into a block that is new -/
theorem Rd.setNew {w0 w : World} {g : Nat} {A : Option Addr} {n c p0 p : Nat} (h0 : Rd w0 g A n c p0) (h : Rd w g A n c p) {b : Nat} (hb : w0.heap.size ≤ b) (j : Nat) (u : Value) : Rd (w.setCell ⟨b, j, none⟩ u) g A n c p := by
  have hg := h0.lt
  refine ⟨(Below.heap_setCell w ⟨b, j, none⟩ u g (fun e => by first | (simp at e; done) | (simp at e; omega) | omega)).trans h.blk, fun hn => ?_⟩
  obtain ⟨b1, o1, e1, _, hb1, _⟩ := h0.by_ hn
  obtain ⟨b2, o2, e2, hne, hb2, hc⟩ := h.by_ hn
  rw [e1] at e2
  injection e2 with e2
  injection e2 with e2 e3
  subst e2; subst e3
  refine ⟨b1, o1, e1, hne, by simpa [World.setCell] using hb2, fun i hi => ?_⟩
  obtain ⟨x, h1, h2, h3⟩ := hc i hi
  exact ⟨x, h1, h2, (World.cell?_setCell_other w ⟨b, j, none⟩ ⟨b1, o1 + i, none⟩ u (fun e => by first | (simp at e; done) | (simp at e; omega) | omega)).trans h3⟩
theorem gb_new {a b : World} {g k : Nat} (h : a.grownBy b (some g)) (hk : a.heap.size ≤ k) (j : Nat) (u : Value) : a.grownBy (b.setCell ⟨k, j, none⟩ u) (some g) :=
  ⟨h.os, h.tape, h.output, by simpa [World.setCell] using h.size, fun i hi hne => (Below.heap_setCell b ⟨k, j, none⟩ u i (fun e => by first | (simp at e; done) | (simp at e; omega) | omega)).trans (h.block i hi hne)⟩
/-- a line stored into a block that is new -/
theorem RdOn.st {w0 w : World} {g : Nat} {A : Option Addr} {n c p d : Nat} (h0 : Rd w0 g A n c p) (h : RdOn g A n c p d w0 w) {b : Nat} (hb : w0.heap.size ≤ b) (l : Ln) : RdOn g A n c p d w0 (st6 w b 0 l) := by
  obtain ⟨q, h1, h2, h3, h4⟩ := h
  refine ⟨q, h1, h2, ?_, ?_⟩
  · exact h0.setNew (h0.setNew (h0.setNew (h0.setNew (h0.setNew (h0.setNew h3 hb _ _) hb _ _) hb _ _) hb _ _) hb _ _) hb _ _
  · exact gb_new (gb_new (gb_new (gb_new (gb_new (gb_new h4 hb _ _) hb _ _) hb _ _) hb _ _) hb _ _) hb _ _

theorem RdOn.next {g : Nat} {A : Option Addr} {n c p d d2 : Nat} {w w1 w2 : World} (h : RdOn g A n c p d w w1) (k : ∀ q, p ≤ q → q ≤ p + d → Rd w1 g A n c q → RdOn g A n c q d2 w1 w2) : RdOn g A n c p (d + d2) w w2 := by
  obtain ⟨q, h1, h2, h3, h4⟩ := h
  obtain ⟨r, k1, k2, k3, k4⟩ := k q h1 h2 h3
  exact ⟨r, by omega, by omega, k3, h4.trans k4⟩

set_option maxRecDepth 100000 in
set_option maxHeartbeats 2000000 in
theorem aLine_any (g : Nat) (A : Option Addr) (n c p : Nat) (w : World) (hp : p ≤ 80000) (hn : n ≤ 2000) (h : Rd w g A n c p) :
    Calls Tryd.prog 84 #[.pointer (some ⟨g, 0, none⟩)] w (LineRet 8 g A n c p w) := by
  have H0 := Lib.hid h
  have HR := Lib.hid (fun o o2 => h.keep (((Grows.refl w).alloc o).alloc o2))
  have HL := Lib.hid (show w.heap.size ≠ g from Nat.ne_of_gt h.lt)
  have HL1 := Lib.hid (show w.heap.size + 1 ≠ g from by have := h.lt; omega)
  clear h
  go_enter Tryd.func84, Tryd.ntmps84
  go_wp2_with fail
  refine (of_any (w.heap.size + 1) 5 _ _ _ g A n c p _ (alloc_new2 w _ _) rfl (by decide) (by decide) (by kernel_rfl) HL1.out (by omega) hn (HR.out _ _)).mono ?_
  rintro e w1 ⟨le, rfl, hle, h1⟩
  obtain ⟨q1, a1, a2, r1, k1⟩ := h1
  have HLE := Lib.hid hle
  have B1 := Lib.hid (row_keep (row_grow (heap_alloc_new w _) ((Grows.refl _).alloc _)) k1 HL.out)
  have R1 := Lib.hid r1
  have G1 : Hid (w.grownBy w1 (some g)) := (gb_of (((Grows.refl w).alloc _).alloc _)).trans k1
  clear r1 k1 hle
  go_wp2_with fail
  refine (pick_any 8 g A n c q1 _ (by omega) (by omega) (by omega) hn R1.out).mono ?_
  rintro e w2 ⟨x, rfl, hx0, hx1, r2, k2⟩
  have B2 := Lib.hid (row_keep B1.out k2 HL.out)
  have R2 := Lib.hid r2
  have G2 : Hid (w.grownBy w2 (some g)) := G1.out.trans k2
  have O2 : Hid (RdOn g A n c p 2 w w2) := ⟨q1 + 1, by omega, by omega, r2, G2.out⟩
  have L2 := Lib.hid (show w2.heap.size ≠ g from Nat.ne_of_gt r2.lt)
  clear r2 k2 hx1
  by_cases x0 : x = 0
  · subst x0
    obtain ⟨⟨e0, e1, e2, e3, e4, e5⟩, ff⟩ := row6 B2.out
    have f0 := ff 0
    have f1 := ff 1
    have f2 := ff 2
    have f3 := ff 3
    have f4 := ff 4
    have f5 := ff 5
    clear ff
    have HF := Lib.hid (RdOn.st H0.out O2.out (Nat.le_refl _) ⟨0, le, ⟨#[]⟩, ⟨#[]⟩, ⟨#[]⟩, ⟨#[]⟩⟩)
    have HC := Lib.hid (st6_row B2.out ⟨0, le, ⟨#[]⟩, ⟨#[]⟩, ⟨#[]⟩, ⟨#[]⟩⟩)
    go_wp2
    change bodyPost _ _ _ _ _ (st6 (w2) w.heap.size 0 ⟨0, le, ⟨#[]⟩, ⟨#[]⟩, ⟨#[]⟩, ⟨#[]⟩⟩)
    clear e0 e1 e2 e3 e4 e5 f0 f1 f2 f3 f4 f5
    obtain ⟨wf, hwf⟩ : ∃ wf, st6 (w2) w.heap.size 0 ⟨0, le, ⟨#[]⟩, ⟨#[]⟩, ⟨#[]⟩, ⟨#[]⟩⟩ = wf := ⟨_, rfl⟩
    rw [hwf] at HF HC ⊢
    clear hwf
    obtain ⟨⟨e0, e1, e2, e3, e4, e5⟩, _⟩ := row6 HC.out
    refine bodyPost_ret (v := .agg #[.int .i64 0, .string le, .string ⟨#[]⟩, .string ⟨#[]⟩, .string ⟨#[]⟩, .string ⟨#[]⟩]) (by simp [results, Tryd.results84, go_sem, e0, e1, e2, e3, e4, e5]) rfl ?_
    exact ⟨⟨0, le, ⟨#[]⟩, ⟨#[]⟩, ⟨#[]⟩, ⟨#[]⟩⟩, rfl, ⟨⟨show (-100 : Int) ≤ 0 by omega, show (0 : Int) ≤ 100 by omega⟩, HLE.out, empty_41, empty_41, empty_41, empty_41⟩, HF.out.more (by omega)⟩
  · have d0 : (x == 0) = false := by rw [beq_eq_false_iff_ne]; exact x0
    clear x0
    by_cases x1 : x = 1
    · subst x1
      go_wp2_with fail
      refine (of_any w2.heap.size 3 _ _ _ g A n c (q1 + 1) _ (heap_alloc_new w2 _) rfl (by decide) (by decide) (by kernel_rfl) L2.out (by omega) hn (R2.out.keep ((Grows.refl _).alloc _))).mono ?_
      rintro e w3 h3
      obtain ⟨va, rfl, hva, q3, a3, b3, r3, k3⟩ := StrRet.of h3 ((Grows.refl _).alloc _)
      have Hva := Lib.hid hva
      clear h3 hva
      have O3 : Hid (RdOn g A n c p 3 w w3) := ⟨q3, by omega, by omega, r3, G2.out.trans k3⟩
      have G3 : Hid (w.grownBy w3 (some g)) := G2.out.trans k3
      have B3 := Lib.hid (row_keep B2.out k3 HL.out)
      have R3 := Lib.hid r3
      have L3 := Lib.hid (show w3.heap.size ≠ g from Nat.ne_of_gt r3.lt)
      clear r3 k3
      obtain ⟨⟨e0, e1, e2, e3, e4, e5⟩, ff⟩ := row6 B3.out
      have f0 := ff 0
      have f1 := ff 1
      have f2 := ff 2
      have f3 := ff 3
      have f4 := ff 4
      have f5 := ff 5
      clear ff
      have HF := Lib.hid (RdOn.st H0.out O3.out (Nat.le_refl _) ⟨1, le, ⟨#[]⟩, ⟨#[]⟩, va, ⟨#[]⟩⟩)
      have HC := Lib.hid (st6_row B3.out ⟨1, le, ⟨#[]⟩, ⟨#[]⟩, va, ⟨#[]⟩⟩)
      go_wp2
      change bodyPost _ _ _ _ _ (st6 (w3) w.heap.size 0 ⟨1, le, ⟨#[]⟩, ⟨#[]⟩, va, ⟨#[]⟩⟩)
      clear e0 e1 e2 e3 e4 e5 f0 f1 f2 f3 f4 f5
      obtain ⟨wf, hwf⟩ : ∃ wf, st6 (w3) w.heap.size 0 ⟨1, le, ⟨#[]⟩, ⟨#[]⟩, va, ⟨#[]⟩⟩ = wf := ⟨_, rfl⟩
      rw [hwf] at HF HC ⊢
      clear hwf
      obtain ⟨⟨e0, e1, e2, e3, e4, e5⟩, _⟩ := row6 HC.out
      refine bodyPost_ret (v := .agg #[.int .i64 1, .string le, .string ⟨#[]⟩, .string ⟨#[]⟩, .string va, .string ⟨#[]⟩]) (by simp [results, Tryd.results84, go_sem, e0, e1, e2, e3, e4, e5]) rfl ?_
      exact ⟨⟨1, le, ⟨#[]⟩, ⟨#[]⟩, va, ⟨#[]⟩⟩, rfl, ⟨⟨show (-100 : Int) ≤ 1 by omega, show (1 : Int) ≤ 100 by omega⟩, HLE.out, empty_41, empty_41, Hva.out, empty_41⟩, HF.out.more (by omega)⟩
    · have d1 : (x == 1) = false := by rw [beq_eq_false_iff_ne]; exact x1
      clear x1
      by_cases x2 : x = 2
      · subst x2
        go_wp2_with fail
        refine (of_any w2.heap.size 3 _ _ _ g A n c (q1 + 1) _ (heap_alloc_new w2 _) rfl (by decide) (by decide) (by kernel_rfl) L2.out (by omega) hn (R2.out.keep ((Grows.refl _).alloc _))).mono ?_
        rintro e w3 h3
        obtain ⟨na, rfl, hna, q3, a3, b3, r3, k3⟩ := StrRet.of h3 ((Grows.refl _).alloc _)
        have Hna := Lib.hid hna
        clear h3 hna
        have O3 : Hid (RdOn g A n c p 3 w w3) := ⟨q3, by omega, by omega, r3, G2.out.trans k3⟩
        have G3 : Hid (w.grownBy w3 (some g)) := G2.out.trans k3
        have B3 := Lib.hid (row_keep B2.out k3 HL.out)
        have R3 := Lib.hid r3
        have L3 := Lib.hid (show w3.heap.size ≠ g from Nat.ne_of_gt r3.lt)
        clear r3 k3
        go_wp2_with fail
        refine (of_any w3.heap.size 3 _ _ _ g A n c q3 _ (heap_alloc_new w3 _) rfl (by decide) (by decide) (by kernel_rfl) L3.out (by omega) hn (R3.out.keep ((Grows.refl _).alloc _))).mono ?_
        rintro e w4 h4
        obtain ⟨ta, rfl, hta, q4, a4, b4, r4, k4⟩ := StrRet.of h4 ((Grows.refl _).alloc _)
        have Hta := Lib.hid hta
        clear h4 hta
        have O4 : Hid (RdOn g A n c p 4 w w4) := ⟨q4, by omega, by omega, r4, G3.out.trans k4⟩
        have G4 : Hid (w.grownBy w4 (some g)) := G3.out.trans k4
        have B4 := Lib.hid (row_keep B3.out k4 HL.out)
        have R4 := Lib.hid r4
        have L4 := Lib.hid (show w4.heap.size ≠ g from Nat.ne_of_gt r4.lt)
        clear r4 k4
        obtain ⟨⟨e0, e1, e2, e3, e4, e5⟩, ff⟩ := row6 B4.out
        have f0 := ff 0
        have f1 := ff 1
        have f2 := ff 2
        have f3 := ff 3
        have f4 := ff 4
        have f5 := ff 5
        clear ff
        have HF := Lib.hid (RdOn.st H0.out O4.out (Nat.le_refl _) ⟨2, le, na, ⟨#[]⟩, ⟨#[]⟩, ta⟩)
        have HC := Lib.hid (st6_row B4.out ⟨2, le, na, ⟨#[]⟩, ⟨#[]⟩, ta⟩)
        go_wp2
        change bodyPost _ _ _ _ _ (st6 (w4) w.heap.size 0 ⟨2, le, na, ⟨#[]⟩, ⟨#[]⟩, ta⟩)
        clear e0 e1 e2 e3 e4 e5 f0 f1 f2 f3 f4 f5
        obtain ⟨wf, hwf⟩ : ∃ wf, st6 (w4) w.heap.size 0 ⟨2, le, na, ⟨#[]⟩, ⟨#[]⟩, ta⟩ = wf := ⟨_, rfl⟩
        rw [hwf] at HF HC ⊢
        clear hwf
        obtain ⟨⟨e0, e1, e2, e3, e4, e5⟩, _⟩ := row6 HC.out
        refine bodyPost_ret (v := .agg #[.int .i64 2, .string le, .string na, .string ⟨#[]⟩, .string ⟨#[]⟩, .string ta]) (by simp [results, Tryd.results84, go_sem, e0, e1, e2, e3, e4, e5]) rfl ?_
        exact ⟨⟨2, le, na, ⟨#[]⟩, ⟨#[]⟩, ta⟩, rfl, ⟨⟨show (-100 : Int) ≤ 2 by omega, show (2 : Int) ≤ 100 by omega⟩, HLE.out, Hna.out, empty_41, empty_41, Hta.out⟩, HF.out.more (by omega)⟩
      · have d2 : (x == 2) = false := by rw [beq_eq_false_iff_ne]; exact x2
        clear x2
        by_cases x3 : x = 3
        · subst x3
          go_wp2_with fail
          refine (of_any w2.heap.size 3 _ _ _ g A n c (q1 + 1) _ (heap_alloc_new w2 _) rfl (by decide) (by decide) (by kernel_rfl) L2.out (by omega) hn (R2.out.keep ((Grows.refl _).alloc _))).mono ?_
          rintro e w3 h3
          obtain ⟨na, rfl, hna, q3, a3, b3, r3, k3⟩ := StrRet.of h3 ((Grows.refl _).alloc _)
          have Hna := Lib.hid hna
          clear h3 hna
          have O3 : Hid (RdOn g A n c p 3 w w3) := ⟨q3, by omega, by omega, r3, G2.out.trans k3⟩
          have G3 : Hid (w.grownBy w3 (some g)) := G2.out.trans k3
          have B3 := Lib.hid (row_keep B2.out k3 HL.out)
          have R3 := Lib.hid r3
          have L3 := Lib.hid (show w3.heap.size ≠ g from Nat.ne_of_gt r3.lt)
          clear r3 k3
          go_wp2_with fail
          refine (of_any w3.heap.size 3 _ _ _ g A n c q3 _ (heap_alloc_new w3 _) rfl (by decide) (by decide) (by kernel_rfl) L3.out (by omega) hn (R3.out.keep ((Grows.refl _).alloc _))).mono ?_
          rintro e w4 h4
          obtain ⟨ta, rfl, hta, q4, a4, b4, r4, k4⟩ := StrRet.of h4 ((Grows.refl _).alloc _)
          have Hta := Lib.hid hta
          clear h4 hta
          have O4 : Hid (RdOn g A n c p 4 w w4) := ⟨q4, by omega, by omega, r4, G3.out.trans k4⟩
          have G4 : Hid (w.grownBy w4 (some g)) := G3.out.trans k4
          have B4 := Lib.hid (row_keep B3.out k4 HL.out)
          have R4 := Lib.hid r4
          have L4 := Lib.hid (show w4.heap.size ≠ g from Nat.ne_of_gt r4.lt)
          clear r4 k4
          obtain ⟨⟨e0, e1, e2, e3, e4, e5⟩, ff⟩ := row6 B4.out
          have f0 := ff 0
          have f1 := ff 1
          have f2 := ff 2
          have f3 := ff 3
          have f4 := ff 4
          have f5 := ff 5
          clear ff
          have HF := Lib.hid (RdOn.st H0.out O4.out (Nat.le_refl _) ⟨2, le, na, ⟨#[]⟩, ⟨#[]⟩, ta⟩)
          have HC := Lib.hid (st6_row B4.out ⟨2, le, na, ⟨#[]⟩, ⟨#[]⟩, ta⟩)
          go_wp2
          change bodyPost _ _ _ _ _ (st6 (w4) w.heap.size 0 ⟨2, le, na, ⟨#[]⟩, ⟨#[]⟩, ta⟩)
          clear e0 e1 e2 e3 e4 e5 f0 f1 f2 f3 f4 f5
          obtain ⟨wf, hwf⟩ : ∃ wf, st6 (w4) w.heap.size 0 ⟨2, le, na, ⟨#[]⟩, ⟨#[]⟩, ta⟩ = wf := ⟨_, rfl⟩
          rw [hwf] at HF HC ⊢
          clear hwf
          obtain ⟨⟨e0, e1, e2, e3, e4, e5⟩, _⟩ := row6 HC.out
          refine bodyPost_ret (v := .agg #[.int .i64 2, .string le, .string na, .string ⟨#[]⟩, .string ⟨#[]⟩, .string ta]) (by simp [results, Tryd.results84, go_sem, e0, e1, e2, e3, e4, e5]) rfl ?_
          exact ⟨⟨2, le, na, ⟨#[]⟩, ⟨#[]⟩, ta⟩, rfl, ⟨⟨show (-100 : Int) ≤ 2 by omega, show (2 : Int) ≤ 100 by omega⟩, HLE.out, Hna.out, empty_41, empty_41, Hta.out⟩, HF.out.more (by omega)⟩
        · have d3 : (x == 3) = false := by rw [beq_eq_false_iff_ne]; exact x3
          clear x3
          go_wp2_with fail
          refine (aKey_any g A n c (q1 + 1) _ (by omega) hn R2.out).mono ?_
          rintro e w3 ⟨na, rfl, hna, q3, a3, b3, r3, k3⟩
          have Hna := Lib.hid hna
          clear hna
          have O3 : Hid (RdOn g A n c p 3 w w3) := ⟨q3, by omega, by omega, r3, G2.out.trans k3⟩
          have G3 : Hid (w.grownBy w3 (some g)) := G2.out.trans k3
          have B3 := Lib.hid (row_keep B2.out k3 HL.out)
          have R3 := Lib.hid r3
          have L3 := Lib.hid (show w3.heap.size ≠ g from Nat.ne_of_gt r3.lt)
          clear r3 k3
          go_wp2_with fail
          refine (of_any w3.heap.size 4 _ _ _ g A n c q3 _ (heap_alloc_new w3 _) rfl (by decide) (by decide) (by kernel_rfl) L3.out (by omega) hn (R3.out.keep ((Grows.refl _).alloc _))).mono ?_
          rintro e w4 h4
          obtain ⟨se, rfl, hse, q4, a4, b4, r4, k4⟩ := StrRet.of h4 ((Grows.refl _).alloc _)
          have Hse := Lib.hid hse
          clear h4 hse
          have O4 : Hid (RdOn g A n c p 4 w w4) := ⟨q4, by omega, by omega, r4, G3.out.trans k4⟩
          have G4 : Hid (w.grownBy w4 (some g)) := G3.out.trans k4
          have B4 := Lib.hid (row_keep B3.out k4 HL.out)
          have R4 := Lib.hid r4
          have L4 := Lib.hid (show w4.heap.size ≠ g from Nat.ne_of_gt r4.lt)
          clear r4 k4
          go_wp2_with fail
          refine (aValue_any g A n c q4 _ (by omega) hn R4.out).mono ?_
          rintro e w5 ⟨va, rfl, hva, q5, a5, b5, r5, k5⟩
          have Hva := Lib.hid hva
          clear hva
          have O5 : Hid (RdOn g A n c p 5 w w5) := ⟨q5, by omega, by omega, r5, G4.out.trans k5⟩
          have G5 : Hid (w.grownBy w5 (some g)) := G4.out.trans k5
          have B5 := Lib.hid (row_keep B4.out k5 HL.out)
          have R5 := Lib.hid r5
          have L5 := Lib.hid (show w5.heap.size ≠ g from Nat.ne_of_gt r5.lt)
          clear r5 k5
          have T5 := Lib.hid (heap_alloc_new w5 (.cells #[.int .i64 3, .string le, .string na, .string se, .string va, .string ⟨#[]⟩] 60))
          have B6 := Lib.hid (row_grow B5.out ((Grows.refl w5).alloc (.cells #[.int .i64 3, .string le, .string na, .string se, .string va, .string ⟨#[]⟩] 60)))
          have R6 := Lib.hid (R5.out.keep ((Grows.refl w5).alloc (.cells #[.int .i64 3, .string le, .string na, .string se, .string va, .string ⟨#[]⟩] 60)))
          have G6 : Hid (w.grownBy (w5.alloc (.cells #[.int .i64 3, .string le, .string na, .string se, .string va, .string ⟨#[]⟩] 60)) (some g)) := gb_grows G5.out ((Grows.refl w5).alloc _)
          have S6 : Hid (w.heap.size < w5.heap.size) := by have := G1.out.size; have h9 := B5.out; rcases Nat.lt_or_ge w.heap.size w5.heap.size with hlt | hge; exact hlt; rw [Array.getElem?_eq_none hge] at h9; cases h9
          have z6 : (w5.alloc (.cells #[.int .i64 3, .string le, .string na, .string se, .string va, .string ⟨#[]⟩] 60)).heap.size = w5.heap.size + 1 := World.size_alloc _ _
          have L6 : Hid ((w5.alloc (.cells #[.int .i64 3, .string le, .string na, .string se, .string va, .string ⟨#[]⟩] 60)).heap.size ≠ g) := Nat.ne_of_gt R6.out.lt
          obtain ⟨w6, hw6⟩ : ∃ w6, w5.alloc (.cells #[.int .i64 3, .string le, .string na, .string se, .string va, .string ⟨#[]⟩] 60) = w6 := ⟨_, rfl⟩
          have HW6 := Lib.hid hw6
          rw [hw6] at T5 B6 R6 G6 L6
          clear hw6 z6
          go_upto_region 11 with (fail)
          rw [HW6.out]
          have O6 : Hid (RdOn g A n c p 5 w w6) := ⟨q5, by omega, by omega, R6.out, G6.out⟩
          obtain ⟨t0, ht0⟩ : ∃ t0, w5.heap.size = t0 := ⟨_, rfl⟩
          have HT0 := Lib.hid (Nat.ne_of_gt (show w.heap.size < w5.heap.size from S6.out))
          have HTg : Hid (w5.heap.size ≠ g) := L5.out
          have TS : Hid (w.heap.size ≤ w5.heap.size) := Nat.le_of_lt S6.out
          rw [ht0] at T5 HT0 HTg TS ⊢
          have TC := (row6 T5.out).1
          obtain ⟨t_0, t_1, t_2, t_3, t_4, t_5⟩ := TC
          clear ht0 HW6
          by_cases hv : va.toList.isEmpty = true
          · have hv2 : va.toList = [] := by simpa using hv
            obtain ⟨⟨e0, e1, e2, e3, e4, e5⟩, ff⟩ := row6 B6.out
            have f0 := ff 0
            have f1 := ff 1
            have f2 := ff 2
            have f3 := ff 3
            have f4 := ff 4
            have f5 := ff 5
            clear ff
            have HF := Lib.hid (RdOn.st H0.out O6.out (Nat.le_refl _) ⟨3, le, na, se, va, ⟨#[]⟩⟩)
            have HC := Lib.hid (st6_row B6.out ⟨3, le, na, se, va, ⟨#[]⟩⟩)
            go_wp2
            change bodyPost _ _ _ _ _ (st6 (w6) w.heap.size 0 ⟨3, le, na, se, va, ⟨#[]⟩⟩)
            clear e0 e1 e2 e3 e4 e5 f0 f1 f2 f3 f4 f5
            obtain ⟨wf, hwf⟩ : ∃ wf, st6 (w6) w.heap.size 0 ⟨3, le, na, se, va, ⟨#[]⟩⟩ = wf := ⟨_, rfl⟩
            rw [hwf] at HF HC ⊢
            clear hwf
            obtain ⟨⟨e0, e1, e2, e3, e4, e5⟩, _⟩ := row6 HC.out
            refine bodyPost_ret (v := .agg #[.int .i64 3, .string le, .string na, .string se, .string va, .string ⟨#[]⟩]) (by simp [results, Tryd.results84, go_sem, e0, e1, e2, e3, e4, e5]) rfl ?_
            exact ⟨⟨3, le, na, se, va, ⟨#[]⟩⟩, rfl, ⟨⟨show (-100 : Int) ≤ 3 by omega, show (3 : Int) ≤ 100 by omega⟩, HLE.out, Hna.out, Hse.out, Hva.out, empty_41⟩, HF.out.more (by omega)⟩
          · have hv1 : va.toList.isEmpty = false := by simpa using hv
            have hv2 : ¬ va.toList = [] := by intro h; rw [h] at hv; simp at hv
            clear hv
            go_wp2_with fail
            refine (of_any w6.heap.size 3 _ _ _ g A n c q5 _ (heap_alloc_new w6 _) rfl (by decide) (by decide) (by kernel_rfl) L6.out (by omega) hn (R6.out.keep ((Grows.refl _).alloc _))).mono ?_
            rintro e w7 h7
            obtain ⟨ta, rfl, hta, q7, a7, b7, r7, k7⟩ := StrRet.of h7 ((Grows.refl _).alloc _)
            have Hta := Lib.hid hta
            clear h7 hta t_0 t_1 t_2 t_3 t_4 t_5
            have T7 := Lib.hid (row_keep T5.out k7 HTg.out)
            have B7 := Lib.hid (row_keep B6.out k7 HL.out)
            have G7 : Hid (w.grownBy w7 (some g)) := G6.out.trans k7
            have R7 := Lib.hid r7
            clear r7 k7
            have t7c := (row6 T7.out).1.2.2.2.2.2
            have t7f := (row6 T7.out).2 5
            have T8 : Hid ((w7.setCell ⟨t0, 5, none⟩ (.string ta)).heap[t0]? = some (.cells #[.int .i64 3, .string le, .string na, .string se, .string va, .string ta] 60 (0, 0))) := by unfold Hid; have := T7.out; simp [World.setCell, Array.getElem?_modify, this]
            have HT0' : Hid (w.heap.size ≤ t0) := TS.out
            have B8 : Hid ((w7.setCell ⟨t0, 5, none⟩ (.string ta)).heap[w.heap.size]? = _) := (Below.heap_setCell w7 ⟨t0, 5, none⟩ (.string ta) w.heap.size (fun e => HT0.out (by first | exact e.symm | exact e))).trans B7.out
            have R8 := Lib.hid (H0.out.setNew R7.out HT0'.out 5 (.string ta))
            have G8 := Lib.hid (gb_new G7.out HT0'.out 5 (.string ta))
            go_upto_region 13 with (fail)
            obtain ⟨w8, hw8⟩ : ∃ w8, w7.setCell ⟨t0, 5, none⟩ (.string ta) = w8 := ⟨_, rfl⟩
            rw [hw8] at T8 B8 R8 G8 ⊢
            clear hw8 t7c t7f
            have O8 : Hid (RdOn g A n c p 6 w w8) := ⟨q7, by omega, by omega, R8.out, G8.out⟩
            obtain ⟨t_0, t_1, t_2, t_3, t_4, t_5⟩ := (row6 T8.out).1
            obtain ⟨⟨e0, e1, e2, e3, e4, e5⟩, ff⟩ := row6 B8.out
            have f0 := ff 0
            have f1 := ff 1
            have f2 := ff 2
            have f3 := ff 3
            have f4 := ff 4
            have f5 := ff 5
            clear ff
            have HF := Lib.hid (RdOn.st H0.out O8.out (Nat.le_refl _) ⟨3, le, na, se, va, ta⟩)
            have HC := Lib.hid (st6_row B8.out ⟨3, le, na, se, va, ta⟩)
            go_wp2
            change bodyPost _ _ _ _ _ (st6 (w8) w.heap.size 0 ⟨3, le, na, se, va, ta⟩)
            clear e0 e1 e2 e3 e4 e5 f0 f1 f2 f3 f4 f5
            obtain ⟨wf, hwf⟩ : ∃ wf, st6 (w8) w.heap.size 0 ⟨3, le, na, se, va, ta⟩ = wf := ⟨_, rfl⟩
            rw [hwf] at HF HC ⊢
            clear hwf
            obtain ⟨⟨e0, e1, e2, e3, e4, e5⟩, _⟩ := row6 HC.out
            refine bodyPost_ret (v := .agg #[.int .i64 3, .string le, .string na, .string se, .string va, .string ta]) (by simp [results, Tryd.results84, go_sem, e0, e1, e2, e3, e4, e5]) rfl ?_
            exact ⟨⟨3, le, na, se, va, ta⟩, rfl, ⟨⟨show (-100 : Int) ≤ 3 by omega, show (3 : Int) ≤ 100 by omega⟩, HLE.out, Hna.out, Hse.out, Hva.out, Hta.out⟩, HF.out.more (by omega)⟩
end Go.Proofs.YtclopcbpelhiaaaDoor
namespace Go.Proofs.YtclopcbpelhiaaaDoor
open Go.RowKit

theorem alloc_new3 (w : World) (o o2 o3 : Obj) : (((w.alloc o).alloc o2).alloc o3).heap[w.heap.size + 1 + 1]? = some o3 := by
  have := heap_alloc_new ((w.alloc o).alloc o2) o3
  rwa [World.size_alloc, World.size_alloc] at this
/-- what a row that is new turns -/
theorem gb_row {a b c : World} {g : Nat} {row : Option Nat} (h : a.grownBy b (some g)) (k : b.grownBy c row) (hr : ∀ i, row = some i → a.heap.size ≤ i) : a.grownBy c (some g) :=
  ⟨k.os.trans h.os, k.tape.trans h.tape, k.output.trans h.output, Nat.le_trans h.size k.size, fun i hi hne => (k.block i (Nat.lt_of_lt_of_le hi h.size) (fun e => by
    have := hr i e.symm
    omega)).trans (h.block i hi hne)⟩
theorem Rd.newRow {w0 w w' : World} {g : Nat} {A : Option Addr} {n c p0 p : Nat} (h0 : Rd w0 g A n c p0) (h : Rd w g A n c p) {row : Option Nat} (k : w.grownBy w' row) (hr : ∀ i, row = some i → w0.heap.size ≤ i) : Rd w' g A n c p := by
  have hg := h0.lt
  refine ⟨(k.block g h.lt (fun e => by have := hr g e.symm; omega)).trans h.blk, fun hn => ?_⟩
  obtain ⟨b1, o1, e1, _, hb1, _⟩ := h0.by_ hn
  obtain ⟨b2, o2, e2, hne, hb2, hc⟩ := h.by_ hn
  rw [e1] at e2
  injection e2 with e2
  injection e2 with e2 e3
  subst e2; subst e3
  refine ⟨b1, o1, e1, hne, Nat.lt_of_lt_of_le hb2 k.size, fun i hi => ?_⟩
  obtain ⟨x, h1, h2, h3⟩ := hc i hi
  exact ⟨x, h1, h2, (k.cell_far ⟨b1, o1 + i, none⟩ hb2 (fun e => by have := hr b1 e.symm; omega)).trans h3⟩
/-- all lines have short texts -/
def ShortL (K : List Ln) : Prop := ∀ l ∈ K, l.short
theorem ShortL.snoc {K : List Ln} {l : Ln} (h : ShortL K) (hl : l.short) : ShortL (K ++ [l]) := by
  intro x hx
  rcases List.mem_append.1 hx with h1 | h1
  · exact h x h1
  · rw [List.mem_singleton] at h1; subst h1; exact hl
/-- a call's end: a file of at most 100 lines of short texts, at most d places further -/
def FileGen (d g : Nat) (A : Option Addr) (n c p : Nat) (w : World) (e : Ending) (w' : World) : Prop :=
  ∃ (v : Value) (K : List Ln), e = .returned (.agg #[v]) ∧ ShortL K ∧ K.length ≤ 100 ∧ OwnL w' w.heap.size v K ∧ RdOn g A n c p d w w'

set_option maxRecDepth 100000 in
set_option maxHeartbeats 4000000 in
theorem goodFile_any (g : Nat) (A : Option Addr) (n c p : Nat) (w : World) (hp : p ≤ 60000) (hn : n ≤ 2000) (h : Rd w g A n c p) :
    Calls Tryd.prog 63 #[.pointer (some ⟨g, 0, none⟩)] w (FileGen 801 g A n c p w) := by
  have H0 := Lib.hid h
  have HR := Lib.hid (fun o o2 o3 => h.keep ((((Grows.refl w).alloc o).alloc o2).alloc o3))
  have HL := Lib.hid (show w.heap.size ≠ g from Nat.ne_of_gt h.lt)
  have HL2 := Lib.hid (show w.heap.size + 1 + 1 ≠ g from by have := h.lt; omega)
  have hgl := h.lt
  clear h
  go_enter Tryd.func63, Tryd.ntmps63
  go_wp2_with fail
  refine (one_any (w.heap.size + 1 + 1) 7 _ _ _ g A n c p _ (alloc_new3 w _ _ _) rfl (by decide) (by decide) (by kernel_rfl) HL2.out (by omega) hn (HR.out _ _ _)).mono ?_
  rintro e w1 ⟨x, rfl, ⟨hx0, hx1⟩, q1, a1, b1, r1, k1⟩
  have G1 : Hid (w.grownBy w1 (some g)) := (gb_of ((((Grows.refl w).alloc _).alloc _).alloc _)).trans k1
  have R1 := Lib.hid r1
  have X1 : Hid (Box w1 (w.heap.size + 1) (.slice none 0 0) 25) := row_keep (row_grow (alloc_new2 w _ _) ((Grows.refl _).alloc _)) k1 (by omega)
  have X0 : Hid (Box w1 w.heap.size (.slice none 0 0) 25) := row_keep (row_grow (row_grow (heap_alloc_new w _) ((Grows.refl _).alloc _)) ((Grows.refl _).alloc _)) k1 (by omega)
  have S1 : w.heap.size + 1 < w1.heap.size := X1.out.lt
  clear r1 k1
  go_wp2_with fail
  go_loopw [4] (fun i wr => ∃ (x : Int) (K : List Ln) (v : Value) (q : Nat), i = .int .i64 x ∧ -101 ≤ x ∧ x ≤ 100 ∧ ((K.length : Int) + x ≤ 100 ∧ K.length ≤ 100) ∧ q ≤ p + 1 + 8 * K.length ∧ p ≤ q ∧ Hid (ShortL K) ∧ Hid (OwnL wr w1.heap.size v K) ∧ Hid (Box wr (w.heap.size + 1) v 25) ∧ Hid (Box wr w.heap.size (.slice none 0 0) 25) ∧ Hid (Rd wr g A n c q) ∧ Hid (w.grownBy wr (some g)) ∧ w1.heap.size ≤ wr.heap.size) (fun i _ => (intOf i).toNat)
  case atStart => exact ⟨x, [], _, q1, rfl, by omega, by omega, ⟨by simp; omega, by simp⟩, by simp; omega, by omega, (fun l h => by cases h), OwnL.nil _ _, X1.out, X0.out, R1.out, G1.out, Nat.le_refl _⟩
  case round =>
    obtain ⟨y, K, v, q, rfl, hy0, hy1, ⟨hK, hK1⟩, hq, hq0, HS, HO, HX, HX0, HRd, HG, hsz⟩ := hrel
    have hbo := HX.out.cell
    have hbf := HX.out.free
    have HNB : Hid (v.ownBlock ≠ some (w.heap.size + 1)) := fun e => by have := (HO.out.lt _ e).1; omega
    by_cases hlt : 0 < y
    · go_wp2_with fail
      refine wp_region_M 5 (CellsAre [(⟨w.heap.size + 1, 0, none⟩, v)]) (by kernel_rfl) (by kernel_rfl) ⟨hbo, trivial⟩ (fun hB hS => ?_)
      refine wpAnyM_take (i := 0) (v := ?vf0) hB rfl (by kernel_rfl) (fun _ _ _ h => h) (by kernel_rfl) ?yf0 hS ?nf0
      case yf0 => (intro w9 hSw; obtain ⟨s1, _⟩ := hSw; go_simp; try with_reducible rfl)
      refine wpAnyM_take (i := 1) (v := ?vf1) hB rfl (by kernel_rfl) (fun _ _ _ h => h) (by kernel_rfl) ?yf1 hS ?nf1
      case yf1 => (intro w9 hSw; obtain ⟨s1, _⟩ := hSw; go_simp; try with_reducible rfl)
      refine wpAnyM_take (i := 2) (v := ?vf2) hB rfl (by kernel_rfl) (fun _ _ _ h => h) (by kernel_rfl) ?yf2 hS ?nf2
      case yf2 => (intro w9 hSw; obtain ⟨s1, _⟩ := hSw; go_simp; try with_reducible rfl)
      refine wpAnyM_one (i := 3) rfl (by kernel_rfl) rfl ?_
      clear hS
      go_wp2_with fail
      refine (aLine_any g A n c q _ (by omega) hn (HRd.out.keep (Grows.refl wr).drew)).mono ?_
      rintro e w5 ⟨l, rfl, hl, q5, a5, b5, r5, k5⟩
      have K5 : Hid (wr.grownBy w5 (some g)) := (gb_of (Grows.refl wr).drew).trans k5
      have HL5 := Lib.hid hl
      have R5 := Lib.hid r5
      have X5 := Lib.hid (HX.out.far K5.out (by intro e; injection e with e; omega))
      have Z5 := Lib.hid (HX0.out.far K5.out (by intro e; injection e with e; omega))
      have O5 := Lib.hid (HO.out.far K5.out (fun k hk e => by injection e with e; have := (HO.out.lt k hk).1; omega))
      have G5 : Hid (w.grownBy w5 (some g)) := HG.out.trans K5.out
      have hsz5 := K5.out.size
      clear hl r5 k5
      go_wp2_with fail
      refine ⟨⟨X5.out.cell, trivial⟩, ?_⟩
      refine wpAnyM_one (i := 4) rfl (by kernel_rfl) rfl ?_
      go_wp2_with fail
      refine ⟨⟨(X5.out.keep ((Grows.refl _).alloc _)).cell, trivial⟩, ?_⟩
      refine wpAnyM_tail (by kernel_rfl) ?_
      clear hB hbo hbf
      go_wp2_with (at_builtin; refine appLs rfl _ _ rfl w1.heap.size v K rfl (O5.out.keep ((Grows.refl _).alloc _)) ⟨w5.heap.size, 0, none⟩ 1 1 [l] rfl rfl (by omega) (one_news _ _ _) (by omega) (by omega) (Nat.le_trans hsz (Nat.le_trans hsz5 (by simp))) ?_)
      intro v' w6 HO6 HGB HNE
      have G6' : Hid (w5.grownBy w6 v.ownBlock) := (gb_of2 ((Grows.refl w5).alloc _) _).trans HGB.out
      obtain ⟨A8, n8, c8, rfl⟩ := HO6.out.form3
      have X6 := Lib.hid (X5.out.far G6'.out HNB.out)
      have Z6 := Lib.hid (Z5.out.far G6'.out (fun e => by have := (HO.out.lt _ e).1; omega))
      have hx6 := X6.out.cell
      have hf6 := X6.out.free
      have hrow : ∀ i, v.ownBlock = some i → w.heap.size ≤ i := fun i hi => by have := (HO.out.lt i hi).1; omega
      have R6 := Lib.hid (H0.out.newRow R5.out G6'.out hrow)
      have G6 : Hid (w.grownBy w6 (some g)) := gb_row G5.out G6'.out hrow
      have hsz6 := G6'.out.size
      have HN6 : Hid ((Value.slice A8 n8 c8).ownBlock ≠ some (w.heap.size + 1)) := fun e => by have := (HO6.out.lt _ e).1; omega
      have HKs := Lib.hid (HS.out.snoc HL5.out)
      clear HGB HNE hrow
      go_wp2
      go_roundw
      case rel => exact ⟨y - 1, K ++ [l], _, q5, by go_num, by omega, by omega, ⟨by simp; omega, by simp; omega⟩, by simp; omega, by omega, HKs.out, HO6.out.setFar HN6.out _, X6.out.set_ _, Z6.out.far (row := some (w.heap.size + 1)) (gb_set (World.grownBy.refl _ _) _ _) (by intro e; injection e with e; omega), H0.out.setNew R6.out (by omega) _ _, gb_new G6.out (by omega) _ _, by simp [World.setCell]; omega⟩
      case measure => simp [intOf]; omega
    · have HON : Hid (RdOn g A n c p 801 w wr) := ⟨q, hq0, by omega, HRd.out, HG.out⟩
      obtain ⟨A9, n9, c9, rfl⟩ := HO.out.form3
      have h0 := HX0.out.cell
      have h0f := HX0.out.free
      have HZ : Hid (Box (wr.setCell ⟨w.heap.size, 0, none⟩ (.slice A9 n9 c9)) w.heap.size (.slice A9 n9 c9) 25) := HX0.out.set_ _
      have HN9 : Hid ((Value.slice A9 n9 c9).ownBlock ≠ some w.heap.size) := fun e => by have := (HO.out.lt _ e).1; omega
      have HOF := Lib.hid ((HO.out.setFar (i := 0) HN9.out (.slice A9 n9 c9)).less (show w.heap.size ≤ w1.heap.size by omega))
      have HRF : Hid (RdOn g A n c p 801 w (wr.setCell ⟨w.heap.size, 0, none⟩ (.slice A9 n9 c9))) := ⟨q, hq0, by omega, H0.out.setNew HRd.out (Nat.le_refl _) _ _, gb_new HG.out (Nat.le_refl _) _ _⟩
      go_wp2
      obtain ⟨wf, hwf⟩ : ∃ wf, wr.setCell ⟨w.heap.size, 0, none⟩ (.slice A9 n9 c9) = wf := ⟨_, rfl⟩
      rw [hwf] at HZ HOF HRF ⊢
      clear hwf
      have hz := HZ.out.cell
      refine bodyPost_ret (v := .agg #[.slice A9 n9 c9]) (by simp [results, Tryd.results63, go_sem, hz]) rfl ?_
      exact ⟨_, K, rfl, HS.out, hK1, HOF.out, HRF.out⟩
end Go.Proofs.YtclopcbpelhiaaaDoor
namespace Go.Proofs.YtclopcbpelhiaaaDoor
open Go.RowKit

theorem lcells_field (K : List Ln) : ∀ (k : Nat) (h : k < K.length) (d : Nat) (_ : d < 6) (u : Value) (l : Ln), (lcell K[k]).set d u = lcell l → (lcells K).set (k * 6 + d) u = lcells (K.set k l) := by
  induction K with
  | nil => intro k h; exact absurd h (by simp)
  | cons x K ih =>
    intro k h d hd u l hl
    have hx : (lcell x).length = 6 := rfl
    cases k with
    | zero =>
      rw [lcells, Nat.zero_mul, Nat.zero_add, List.set_append_left _ _ (by rw [hx]; exact hd)]
      have h2 : (lcell x).set d u = lcell l := hl
      rw [h2]
      rfl
    | succ k =>
      rw [lcells, List.set_append_right _ _ (by rw [hx]; omega), hx, show (k + 1) * 6 + d - 6 = k * 6 + d from by omega, ih k (by simpa using h) d hd u l hl]
      rfl
theorem OwnL.field {w : World} {base g n c : Nat} {K : List Ln} (h : OwnL w base (.slice (some ⟨g, 0, none⟩) n c) K) (hn : K.length = n) {k : Nat} (hk : k < K.length) (d : Nat) (hd : d < 6) (u : Value) {l : Ln} (hl : (lcell K[k]).set d u = lcell l) : OwnL (w.setCell ⟨g, k * 6 + d, none⟩ u) base (.slice (some ⟨g, 0, none⟩) n c) (K.set k l) := by
  unfold OwnL
  rw [← lcells_field K k hk d hd u l hl, List.length_set]
  subst hn
  exact OwnR.set_ h _ _
theorem OwnL.some_ {w : World} {base g n c : Nat} {K : List Ln} (h : OwnL w base (.slice (some ⟨g, 0, none⟩) n c) K) (hn : K.length = n) {k : Nat} (hk : k < K.length) {d : Nat} (hd : d < 6) : ∃ v, w.cell? ⟨g, k * 6 + d, none⟩ = some v := by
  obtain ⟨A', c', hv, hA⟩ := OwnR.form h
  subst hn
  injection hv with e1 e2 e3
  subst e1
  obtain ⟨g', e, _, _, hc, _⟩ := hA (by omega)
  injection e with e
  injection e with e
  subst e
  exact ⟨_, (hc (k * 6 + d) (by omega)).trans (List.getElem?_eq_getElem (by rw [lcells_length]; omega))⟩
theorem OwnL.row {w : World} {base : Nat} {v : Value} {K : List Ln} (h : OwnL w base v K) (h0 : 0 < K.length) : ∃ g c, v = .slice (some ⟨g, 0, none⟩) K.length c ∧ base ≤ g ∧ g < w.heap.size := by
  obtain ⟨A', c', hv, hA⟩ := OwnR.form h
  obtain ⟨g, rfl, hb, hg, _⟩ := hA h0
  exact ⟨g, c', hv, hb, hg⟩
theorem ShortL.set_ {K : List Ln} (h : ShortL K) (k : Nat) (l : Ln) (hl : l.short) : ShortL (K.set k l) := by
  intro x hx
  rcases List.mem_or_eq_of_mem_set hx with h1 | h1
  · exact h x h1
  · rw [h1]; exact hl

set_option maxRecDepth 100000 in
set_option maxHeartbeats 4000000 in
theorem someFile_any (g : Nat) (A : Option Addr) (n c p : Nat) (w : World) (hp : p ≤ 50000) (hn : n ≤ 2000) (h : Rd w g A n c p) :
    Calls Tryd.prog 38 #[.pointer (some ⟨g, 0, none⟩)] w (FileGen 900 g A n c p w) := by
  have H0 := Lib.hid h
  have HR := Lib.hid (fun o => h.keep ((Grows.refl w).alloc o))
  have hgl := h.lt
  clear h
  go_enter Tryd.func38, Tryd.ntmps38
  go_wp2_with fail
  refine (goodFile_any g A n c p _ (by omega) hn (HR.out _)).mono ?_
  rintro e w1 ⟨v, K, rfl, hS, hK1, hO, q1, a1, b1, r1, k1⟩
  rw [World.size_alloc] at hO
  have hs1 : w.heap.size < w1.heap.size := Nat.lt_of_lt_of_le (by simp) k1.size
  have X0 : Hid (Box (w1.alloc (.cells #[v] 25)) w.heap.size (.slice none 0 0) 25) := row_grow (row_keep (heap_alloc_new w _) k1 (by omega)) ((Grows.refl _).alloc _)
  have XX : Hid (Box (w1.alloc (.cells #[v] 25)) w1.heap.size v 25) := heap_alloc_new w1 _
  have O2 : Hid (OwnL (w1.alloc (.cells #[v] 25)) (w.heap.size + 1) v K) := hO.keep ((Grows.refl _).alloc _)
  have R2 : Hid (Rd (w1.alloc (.cells #[v] 25)) g A n c q1) := r1.keep ((Grows.refl _).alloc _)
  have G2 : Hid (w.grownBy (w1.alloc (.cells #[v] 25)) (some g)) := gb_grows ((gb_of ((Grows.refl w).alloc _)).trans k1) ((Grows.refl _).alloc _)
  have SS := Lib.hid hS
  have hgw1 : g < w1.heap.size := by omega
  have VLT : Hid (∀ i, v.ownBlock = some i → w.heap.size + 1 ≤ i ∧ i < w1.heap.size) := hO.lt
  obtain ⟨w2, hw2⟩ : ∃ w2, w1.alloc (.cells #[v] 25) = w2 := ⟨_, rfl⟩
  have HW2 := Lib.hid hw2
  have hs2 : w2.heap.size = w1.heap.size + 1 := by rw [← hw2]; exact World.size_alloc _ _
  have HS2 := Lib.hid hs2
  rw [hw2] at X0 XX O2 R2 G2
  clear hw2 hs2 hS r1 k1
  rcases Nat.eq_zero_or_pos K.length with hK0 | hK0
  · have HSe := SS
    obtain ⟨A8, c8, he, _⟩ := O2.out.form
    rw [hK0] at he
    subst he
    have HRe := R2
    have HGe := G2
    have X0e := X0
    have Xe := XX
    have Oe := O2
    clear hO
    go_upto_region 2 with (fail)
    rw [HW2.out]
    clear HW2
    have h1 := Xe.out.cell
    go_upto_region 13 with (fail)
    obtain ⟨n9, hn9⟩ : ∃ n9, (0 : Nat) = n9 := ⟨_, rfl⟩
    obtain ⟨A9, hA9⟩ : ∃ A9, A8 = A9 := ⟨_, rfl⟩
    obtain ⟨c9, hc9⟩ : ∃ c9, c8 = c9 := ⟨_, rfl⟩
    rw [hA9, hc9] at Oe Xe h1
    rw [hn9] at Oe Xe h1
    clear h1 hA9 hc9 hn9
    have HON : Hid (RdOn g A n c p 900 w w2) := ⟨q1, by omega, by omega, HRe.out, HGe.out⟩
    have h0 := X0e.out.cell
    have h0f := X0e.out.free
    have h1 := Xe.out.cell
    have HZ : Hid (Box (w2.setCell ⟨w.heap.size, 0, none⟩ (.slice A9 n9 c9)) w.heap.size (.slice A9 n9 c9) 25) := X0e.out.set_ _
    have HN9 : Hid ((Value.slice A9 n9 c9).ownBlock ≠ some w.heap.size) := fun e => by have := (Oe.out.lt _ e).1; omega
    have HOF := Lib.hid ((Oe.out.setFar (i := 0) HN9.out (.slice A9 n9 c9)).less (show w.heap.size ≤ w.heap.size + 1 by omega))
    have HRF : Hid (RdOn g A n c p 900 w (w2.setCell ⟨w.heap.size, 0, none⟩ (.slice A9 n9 c9))) := ⟨q1, by omega, by omega, H0.out.setNew HRe.out (Nat.le_refl _) _ _, gb_new HGe.out (Nat.le_refl _) _ _⟩
    go_wp2
    obtain ⟨wf, hwf⟩ : ∃ wf, w2.setCell ⟨w.heap.size, 0, none⟩ (.slice A9 n9 c9) = wf := ⟨_, rfl⟩
    rw [hwf] at HZ HOF HRF ⊢
    clear hwf
    have hz := HZ.out.cell
    refine bodyPost_ret (v := .agg #[.slice A9 n9 c9]) (by simp [results, Tryd.results38, go_sem, hz]) rfl ?_
    exact ⟨_, K, rfl, HSe.out, hK1, HOF.out, HRF.out⟩
  · obtain ⟨gv, c9, rfl, hgv0', hgv1⟩ := O2.out.row hK0
    have hgv2 := (VLT.out gv rfl).2
    have hgv0 : w.heap.size ≤ gv := by omega
    obtain ⟨m, hm⟩ : ∃ m, K.length = m := ⟨_, rfl⟩
    have hm0 : 0 < m := by omega
    have hm1 : m ≤ 100 := by omega
    rw [hm] at XX O2
    have HM := Lib.hid hm
    clear hO VLT hm
    go_upto_region 2 with (fail)
    rw [HM.out]
    rw [HM.out] at HW2
    rw [HW2.out]
    clear HW2
    have h1 := XX.out.cell
    go_wp2_with fail
    refine (pick_any m g A n c q1 _ (by omega) (by omega) (by omega) hn R2.out).mono ?_
    rintro e w3 ⟨x, rfl, hx0, hx1, r3, k3⟩
    obtain ⟨kk, rfl⟩ := Int.eq_ofNat_of_zero_le hx0
    have hkm : kk < m := by have := hx1 (by omega); omega
    have hkk : kk < K.length := by rw [HM.out]; exact hkm
    have R3 := Lib.hid r3
    have K3 := Lib.hid k3
    clear hx1 hx0 r3 k3 h1
    go_wp2_with fail
    refine (pick_any 24 g A n c (q1 + 1) _ (by omega) (by omega) (by omega) hn R3.out).mono ?_
    rintro e wr ⟨x, rfl, hx0, hx1, r4, k4⟩
    have RR' := Lib.hid r4
    have K4 : Hid (w2.grownBy wr (some g)) := K3.out.trans k4
    obtain ⟨q4, hq4⟩ : ∃ q4, q1 + 1 + 1 = q4 := ⟨_, rfl⟩
    have b4 : q4 ≤ p + 803 := by omega
    have a4 : p ≤ q4 := by omega
    rw [hq4] at RR'
    have RR := RR'
    have XX' := Lib.hid (XX.out.far K4.out (by intro e; injection e with e; omega))
    have ZZ := Lib.hid (X0.out.far K4.out (by intro e; injection e with e; omega))
    have OO := Lib.hid (O2.out.far K4.out (fun k hk e => by injection e with e; have := (O2.out.lt k hk).1; omega))
    have GG : Hid (w.grownBy wr (some g)) := G2.out.trans K4.out
    have Lr := Lib.hid (show wr.heap.size ≠ g from Nat.ne_of_gt r4.lt)
    have hszr : w1.heap.size < wr.heap.size := by have := K4.out.size; have := HS2.out; omega
    clear r4 k4 hx1 hq4 RR' XX X0 O2 G2 R2 R3 K3 K4 HS2
    have XX := XX'
    clear XX'
    have hb1 := XX.out.cell
    have hm := HM.out
    have hm' := Lib.hid hm
    clear hm
    by_cases e0 : x = 0
    · subst e0
      go_wp2_with fail
      refine wp_region_M 8 (CellsAre [(⟨w1.heap.size, 0, none⟩, .slice (some ⟨gv, 0, none⟩) m c9)]) (by kernel_rfl) (by kernel_rfl) ⟨hb1, trivial⟩ (fun hB hS => ?_)
      refine wpAnyM_take (i := 0) (v := ?va0) hB rfl (by kernel_rfl) (fun _ _ _ h => h) (by kernel_rfl) ?ya0 hS ?na0
      case ya0 => (intro w9 hSw; obtain ⟨s1, _⟩ := hSw; go_simp; try with_reducible rfl)
      refine wpAnyM_take (i := 1) (v := ?va1) hB rfl (by kernel_rfl) (fun _ _ _ h => h) (by kernel_rfl) ?ya1 hS ?na1
      case ya1 => (intro w9 hSw; obtain ⟨s1, _⟩ := hSw; go_simp; try with_reducible rfl)
      refine wpAnyM_take (i := 2) (v := ?va2) hB rfl (by kernel_rfl) (fun _ _ _ h => h) (by kernel_rfl) ?ya2 hS ?na2
      case ya2 => (intro w9 hSw; obtain ⟨s1, _⟩ := hSw; go_simp; try with_reducible rfl)
      refine wpAnyM_take (i := 3) (v := ?va3) hB rfl (by kernel_rfl) (fun _ _ _ h => h) (by kernel_rfl) ?ya3 hS ?na3
      case ya3 => (intro w9 hSw; obtain ⟨s1, _⟩ := hSw; go_simp; try with_reducible rfl)
      clear hS
      refine wpAnyM_one (i := 4) rfl (by kernel_rfl) rfl ?_
      go_wp2_with fail
      refine ⟨⟨(XX.out.keep ((Grows.refl wr).drew.alloc _)).cell, trivial⟩, ?_⟩
      refine wpAnyM_one (i := 5) rfl (by kernel_rfl) rfl ?_
      go_wp2_with fail
      refine (of_any wr.heap.size 2 _ _ _ g A n c q4 _ (heap_alloc_new wr.drew _) rfl (by decide) (by decide) (by kernel_rfl) Lr.out (by omega) hn (RR.out.keep ((Grows.refl wr).drew.alloc _))).mono ?_
      rintro e w6 h6
      obtain ⟨u, rfl, hu, q6, a6, b6, r6, k6⟩ := StrRet.of h6 ((Grows.refl wr).drew.alloc _)
      clear h6
      have HU := Lib.hid hu
      have K6 := Lib.hid k6
      have R6 := Lib.hid r6
      have X6 := Lib.hid (XX.out.far K6.out (by intro e; injection e with e; omega))
      have Z6 := Lib.hid (ZZ.out.far K6.out (by intro e; injection e with e; omega))
      have O6 := Lib.hid (OO.out.far K6.out (fun k hk e => by injection e with e; have := (OO.out.lt k hk).1; omega))
      have G6 : Hid (w.grownBy w6 (some g)) := GG.out.trans K6.out
      clear hu r6 k6
      go_wp2_with fail
      refine ⟨⟨X6.out.cell, trivial⟩, ?_⟩
      have hS : CellsAre [(⟨w1.heap.size, 0, none⟩, .slice (some ⟨gv, 0, none⟩) m c9)] w6 := ⟨X6.out.cell, trivial⟩
      refine wpAnyM_take (i := 6) (v := ?va6) hB rfl (by kernel_rfl) (fun _ _ _ h => h) (by kernel_rfl) ?ya6 hS ?na6
      case ya6 => (intro w9 hSw; obtain ⟨s1, _⟩ := hSw; go_simp; try with_reducible rfl)
      refine wpAnyM_take (i := 7) (v := ?va7) hB rfl (by kernel_rfl) (fun _ _ _ h => h) (by kernel_rfl) ?ya7 hS ?na7
      case ya7 => (intro w9 hSw; obtain ⟨s1, _⟩ := hSw; go_simp; try with_reducible rfl)
      refine wpAnyM_tail (by kernel_rfl) ?_
      clear hB hb1 hS
      have OF := Lib.hid (O6.out.field hm'.out hkk 1 (by decide) (.string u) (l := ⟨K[kk].k, u, K[kk].na, K[kk].se, K[kk].va, K[kk].ta⟩) rfl)
      have hfr := O6.out.free (kk * 6 + 1)
      have hcl : ∃ v9, w6.cell? ⟨gv, kk * 6 + 1, none⟩ = some v9 := O6.out.some_ hm'.out hkk (d := 1) (by decide)
      obtain ⟨v9, hv9⟩ := hcl
      have HSe : Hid (ShortL (K.set kk ⟨K[kk].k, u, K[kk].na, K[kk].se, K[kk].va, K[kk].ta⟩)) := SS.out.set_ _ _ ⟨(SS.out K[kk] (List.getElem_mem hkk)).1, HU.out, (SS.out K[kk] (List.getElem_mem hkk)).2.2.1, (SS.out K[kk] (List.getElem_mem hkk)).2.2.2.1, (SS.out K[kk] (List.getElem_mem hkk)).2.2.2.2.1, (SS.out K[kk] (List.getElem_mem hkk)).2.2.2.2.2⟩
      have hKe : (K.set kk ⟨K[kk].k, u, K[kk].na, K[kk].se, K[kk].va, K[kk].ta⟩).length ≤ 100 := by rw [List.length_set]; exact hK1
      have HRe := Lib.hid (H0.out.setNew R6.out hgv0 (kk * 6 + 1) (.string u))
      have HGe := Lib.hid (gb_new G6.out hgv0 (kk * 6 + 1) (.string u))
      have Xe := Lib.hid (X6.out.far (row := some gv) (gb_set (World.grownBy.refl _ _) (kk * 6 + 1) (.string u)) (by intro e; injection e with e; omega))
      have X0e := Lib.hid (Z6.out.far (row := some gv) (gb_set (World.grownBy.refl _ _) (kk * 6 + 1) (.string u)) (by intro e; injection e with e; omega))
      go_upto_region 13 with (fail)
      obtain ⟨we, hwe⟩ : ∃ we, w6.setCell ⟨gv, kk * 6 + 1, none⟩ (.string u) = we := ⟨_, rfl⟩
      rw [hwe] at OF HRe HGe Xe X0e ⊢
      clear hwe hv9 hfr
      have Oe := OF
      clear OF
      obtain ⟨A9, hA9⟩ : ∃ A9 : Option Addr, some ⟨gv, 0, none⟩ = A9 := ⟨_, rfl⟩
      obtain ⟨n9, hn9⟩ : ∃ n9, m = n9 := ⟨_, rfl⟩
      rw [hA9, hn9] at Oe Xe
      clear hA9 hn9
      have HON : Hid (RdOn g A n c p 900 w we) := ⟨q6, by omega, by omega, HRe.out, HGe.out⟩
      have h0 := X0e.out.cell
      have h0f := X0e.out.free
      have h1 := Xe.out.cell
      have HZ : Hid (Box (we.setCell ⟨w.heap.size, 0, none⟩ (.slice A9 n9 c9)) w.heap.size (.slice A9 n9 c9) 25) := X0e.out.set_ _
      have HN9 : Hid ((Value.slice A9 n9 c9).ownBlock ≠ some w.heap.size) := fun e => by have := (Oe.out.lt _ e).1; omega
      have HOF := Lib.hid ((Oe.out.setFar (i := 0) HN9.out (.slice A9 n9 c9)).less (show w.heap.size ≤ w.heap.size + 1 by omega))
      have HRF : Hid (RdOn g A n c p 900 w (we.setCell ⟨w.heap.size, 0, none⟩ (.slice A9 n9 c9))) := ⟨q6, by omega, by omega, H0.out.setNew HRe.out (Nat.le_refl _) _ _, gb_new HGe.out (Nat.le_refl _) _ _⟩
      go_wp2
      obtain ⟨wf, hwf⟩ : ∃ wf, we.setCell ⟨w.heap.size, 0, none⟩ (.slice A9 n9 c9) = wf := ⟨_, rfl⟩
      rw [hwf] at HZ HOF HRF ⊢
      clear hwf
      have hz := HZ.out.cell
      refine bodyPost_ret (v := .agg #[.slice A9 n9 c9]) (by simp [results, Tryd.results38, go_sem, hz]) rfl ?_
      exact ⟨_, K.set kk ⟨K[kk].k, u, K[kk].na, K[kk].se, K[kk].va, K[kk].ta⟩, rfl, HSe.out, hKe, HOF.out, HRF.out⟩
    · have d0 : (x == 0) = false := by rw [beq_eq_false_iff_ne]; exact e0
      clear e0
      by_cases e1 : x = 1
      · subst e1
        go_wp2_with fail
        refine wp_region_M 7 (CellsAre [(⟨w1.heap.size, 0, none⟩, .slice (some ⟨gv, 0, none⟩) m c9)]) (by kernel_rfl) (by kernel_rfl) ⟨hb1, trivial⟩ (fun hB hS => ?_)
        refine wpAnyM_take (i := 0) (v := ?vb0) hB rfl (by kernel_rfl) (fun _ _ _ h => h) (by kernel_rfl) ?yb0 hS ?nb0
        case yb0 => (intro w9 hSw; obtain ⟨s1, _⟩ := hSw; go_simp; try with_reducible rfl)
        refine wpAnyM_take (i := 1) (v := ?vb1) hB rfl (by kernel_rfl) (fun _ _ _ h => h) (by kernel_rfl) ?yb1 hS ?nb1
        case yb1 => (intro w9 hSw; obtain ⟨s1, _⟩ := hSw; go_simp; try with_reducible rfl)
        refine wpAnyM_take (i := 2) (v := ?vb2) hB rfl (by kernel_rfl) (fun _ _ _ h => h) (by kernel_rfl) ?yb2 hS ?nb2
        case yb2 => (intro w9 hSw; obtain ⟨s1, _⟩ := hSw; go_simp; try with_reducible rfl)
        refine wpAnyM_take (i := 3) (v := ?vb3) hB rfl (by kernel_rfl) (fun _ _ _ h => h) (by kernel_rfl) ?yb3 hS ?nb3
        case yb3 => (intro w9 hSw; obtain ⟨s1, _⟩ := hSw; go_simp; try with_reducible rfl)
        clear hS
        refine wpAnyM_one (i := 4) rfl (by kernel_rfl) rfl ?_
        go_wp2_with fail
        refine (anyName_any g A n c q4 _ (by omega) hn (RR.out.keep (Grows.refl wr).drew)).mono ?_
        rintro e w6 ⟨u, rfl, hu, q6, a6, b6, r6, k6'⟩
        have k6 : wr.grownBy w6 (some g) := (gb_of (Grows.refl wr).drew).trans k6'
        clear k6'
        have HU := Lib.hid hu
        have K6 := Lib.hid k6
        have R6 := Lib.hid r6
        have X6 := Lib.hid (XX.out.far K6.out (by intro e; injection e with e; omega))
        have Z6 := Lib.hid (ZZ.out.far K6.out (by intro e; injection e with e; omega))
        have O6 := Lib.hid (OO.out.far K6.out (fun k hk e => by injection e with e; have := (OO.out.lt k hk).1; omega))
        have G6 : Hid (w.grownBy w6 (some g)) := GG.out.trans K6.out
        clear hu r6 k6
        go_wp2_with fail
        refine ⟨⟨X6.out.cell, trivial⟩, ?_⟩
        have hS : CellsAre [(⟨w1.heap.size, 0, none⟩, .slice (some ⟨gv, 0, none⟩) m c9)] w6 := ⟨X6.out.cell, trivial⟩
        refine wpAnyM_take (i := 5) (v := ?vb5) hB rfl (by kernel_rfl) (fun _ _ _ h => h) (by kernel_rfl) ?yb5 hS ?nb5
        case yb5 => (intro w9 hSw; obtain ⟨s1, _⟩ := hSw; go_simp; try with_reducible rfl)
        refine wpAnyM_take (i := 6) (v := ?vb6) hB rfl (by kernel_rfl) (fun _ _ _ h => h) (by kernel_rfl) ?yb6 hS ?nb6
        case yb6 => (intro w9 hSw; obtain ⟨s1, _⟩ := hSw; go_simp; try with_reducible rfl)
        refine wpAnyM_tail (by kernel_rfl) ?_
        clear hB hb1 hS
        have OF := Lib.hid (O6.out.field hm'.out hkk 2 (by decide) (.string u) (l := ⟨K[kk].k, K[kk].le, u, K[kk].se, K[kk].va, K[kk].ta⟩) rfl)
        have hfr := O6.out.free (kk * 6 + 2)
        have hcl : ∃ v9, w6.cell? ⟨gv, kk * 6 + 2, none⟩ = some v9 := O6.out.some_ hm'.out hkk (d := 2) (by decide)
        obtain ⟨v9, hv9⟩ := hcl
        have HSe : Hid (ShortL (K.set kk ⟨K[kk].k, K[kk].le, u, K[kk].se, K[kk].va, K[kk].ta⟩)) := SS.out.set_ _ _ ⟨(SS.out K[kk] (List.getElem_mem hkk)).1, (SS.out K[kk] (List.getElem_mem hkk)).2.1, HU.out, (SS.out K[kk] (List.getElem_mem hkk)).2.2.2.1, (SS.out K[kk] (List.getElem_mem hkk)).2.2.2.2.1, (SS.out K[kk] (List.getElem_mem hkk)).2.2.2.2.2⟩
        have hKe : (K.set kk ⟨K[kk].k, K[kk].le, u, K[kk].se, K[kk].va, K[kk].ta⟩).length ≤ 100 := by rw [List.length_set]; exact hK1
        have HRe := Lib.hid (H0.out.setNew R6.out hgv0 (kk * 6 + 2) (.string u))
        have HGe := Lib.hid (gb_new G6.out hgv0 (kk * 6 + 2) (.string u))
        have Xe := Lib.hid (X6.out.far (row := some gv) (gb_set (World.grownBy.refl _ _) (kk * 6 + 2) (.string u)) (by intro e; injection e with e; omega))
        have X0e := Lib.hid (Z6.out.far (row := some gv) (gb_set (World.grownBy.refl _ _) (kk * 6 + 2) (.string u)) (by intro e; injection e with e; omega))
        go_upto_region 13 with (fail)
        obtain ⟨we, hwe⟩ : ∃ we, w6.setCell ⟨gv, kk * 6 + 2, none⟩ (.string u) = we := ⟨_, rfl⟩
        rw [hwe] at OF HRe HGe Xe X0e ⊢
        clear hwe hv9 hfr
        have Oe := OF
        clear OF
        obtain ⟨A9, hA9⟩ : ∃ A9 : Option Addr, some ⟨gv, 0, none⟩ = A9 := ⟨_, rfl⟩
        obtain ⟨n9, hn9⟩ : ∃ n9, m = n9 := ⟨_, rfl⟩
        rw [hA9, hn9] at Oe Xe
        clear hA9 hn9
        have HON : Hid (RdOn g A n c p 900 w we) := ⟨q6, by omega, by omega, HRe.out, HGe.out⟩
        have h0 := X0e.out.cell
        have h0f := X0e.out.free
        have h1 := Xe.out.cell
        have HZ : Hid (Box (we.setCell ⟨w.heap.size, 0, none⟩ (.slice A9 n9 c9)) w.heap.size (.slice A9 n9 c9) 25) := X0e.out.set_ _
        have HN9 : Hid ((Value.slice A9 n9 c9).ownBlock ≠ some w.heap.size) := fun e => by have := (Oe.out.lt _ e).1; omega
        have HOF := Lib.hid ((Oe.out.setFar (i := 0) HN9.out (.slice A9 n9 c9)).less (show w.heap.size ≤ w.heap.size + 1 by omega))
        have HRF : Hid (RdOn g A n c p 900 w (we.setCell ⟨w.heap.size, 0, none⟩ (.slice A9 n9 c9))) := ⟨q6, by omega, by omega, H0.out.setNew HRe.out (Nat.le_refl _) _ _, gb_new HGe.out (Nat.le_refl _) _ _⟩
        go_wp2
        obtain ⟨wf, hwf⟩ : ∃ wf, we.setCell ⟨w.heap.size, 0, none⟩ (.slice A9 n9 c9) = wf := ⟨_, rfl⟩
        rw [hwf] at HZ HOF HRF ⊢
        clear hwf
        have hz := HZ.out.cell
        refine bodyPost_ret (v := .agg #[.slice A9 n9 c9]) (by simp [results, Tryd.results38, go_sem, hz]) rfl ?_
        exact ⟨_, K.set kk ⟨K[kk].k, K[kk].le, u, K[kk].se, K[kk].va, K[kk].ta⟩, rfl, HSe.out, hKe, HOF.out, HRF.out⟩
      · have d1 : (x == 1) = false := by rw [beq_eq_false_iff_ne]; exact e1
        clear e1
        by_cases e2 : x = 2
        · subst e2
          go_wp2_with fail
          refine wp_region_M 7 (CellsAre [(⟨w1.heap.size, 0, none⟩, .slice (some ⟨gv, 0, none⟩) m c9)]) (by kernel_rfl) (by kernel_rfl) ⟨hb1, trivial⟩ (fun hB hS => ?_)
          refine wpAnyM_take (i := 0) (v := ?vc0) hB rfl (by kernel_rfl) (fun _ _ _ h => h) (by kernel_rfl) ?yc0 hS ?nc0
          case yc0 => (intro w9 hSw; obtain ⟨s1, _⟩ := hSw; go_simp; try with_reducible rfl)
          refine wpAnyM_take (i := 1) (v := ?vc1) hB rfl (by kernel_rfl) (fun _ _ _ h => h) (by kernel_rfl) ?yc1 hS ?nc1
          case yc1 => (intro w9 hSw; obtain ⟨s1, _⟩ := hSw; go_simp; try with_reducible rfl)
          refine wpAnyM_take (i := 2) (v := ?vc2) hB rfl (by kernel_rfl) (fun _ _ _ h => h) (by kernel_rfl) ?yc2 hS ?nc2
          case yc2 => (intro w9 hSw; obtain ⟨s1, _⟩ := hSw; go_simp; try with_reducible rfl)
          refine wpAnyM_take (i := 3) (v := ?vc3) hB rfl (by kernel_rfl) (fun _ _ _ h => h) (by kernel_rfl) ?yc3 hS ?nc3
          case yc3 => (intro w9 hSw; obtain ⟨s1, _⟩ := hSw; go_simp; try with_reducible rfl)
          clear hS
          refine wpAnyM_one (i := 4) rfl (by kernel_rfl) rfl ?_
          go_wp2_with fail
          refine (anyValue_any g A n c q4 _ (by omega) hn (RR.out.keep (Grows.refl wr).drew)).mono ?_
          rintro e w6 ⟨u, rfl, hu, q6, a6, b6, r6, k6'⟩
          have k6 : wr.grownBy w6 (some g) := (gb_of (Grows.refl wr).drew).trans k6'
          clear k6'
          have HU := Lib.hid hu
          have K6 := Lib.hid k6
          have R6 := Lib.hid r6
          have X6 := Lib.hid (XX.out.far K6.out (by intro e; injection e with e; omega))
          have Z6 := Lib.hid (ZZ.out.far K6.out (by intro e; injection e with e; omega))
          have O6 := Lib.hid (OO.out.far K6.out (fun k hk e => by injection e with e; have := (OO.out.lt k hk).1; omega))
          have G6 : Hid (w.grownBy w6 (some g)) := GG.out.trans K6.out
          clear hu r6 k6
          go_wp2_with fail
          refine ⟨⟨X6.out.cell, trivial⟩, ?_⟩
          have hS : CellsAre [(⟨w1.heap.size, 0, none⟩, .slice (some ⟨gv, 0, none⟩) m c9)] w6 := ⟨X6.out.cell, trivial⟩
          refine wpAnyM_take (i := 5) (v := ?vc5) hB rfl (by kernel_rfl) (fun _ _ _ h => h) (by kernel_rfl) ?yc5 hS ?nc5
          case yc5 => (intro w9 hSw; obtain ⟨s1, _⟩ := hSw; go_simp; try with_reducible rfl)
          refine wpAnyM_take (i := 6) (v := ?vc6) hB rfl (by kernel_rfl) (fun _ _ _ h => h) (by kernel_rfl) ?yc6 hS ?nc6
          case yc6 => (intro w9 hSw; obtain ⟨s1, _⟩ := hSw; go_simp; try with_reducible rfl)
          refine wpAnyM_tail (by kernel_rfl) ?_
          clear hB hb1 hS
          have OF := Lib.hid (O6.out.field hm'.out hkk 4 (by decide) (.string u) (l := ⟨K[kk].k, K[kk].le, K[kk].na, K[kk].se, u, K[kk].ta⟩) rfl)
          have hfr := O6.out.free (kk * 6 + 4)
          have hcl : ∃ v9, w6.cell? ⟨gv, kk * 6 + 4, none⟩ = some v9 := O6.out.some_ hm'.out hkk (d := 4) (by decide)
          obtain ⟨v9, hv9⟩ := hcl
          have HSe : Hid (ShortL (K.set kk ⟨K[kk].k, K[kk].le, K[kk].na, K[kk].se, u, K[kk].ta⟩)) := SS.out.set_ _ _ ⟨(SS.out K[kk] (List.getElem_mem hkk)).1, (SS.out K[kk] (List.getElem_mem hkk)).2.1, (SS.out K[kk] (List.getElem_mem hkk)).2.2.1, (SS.out K[kk] (List.getElem_mem hkk)).2.2.2.1, HU.out, (SS.out K[kk] (List.getElem_mem hkk)).2.2.2.2.2⟩
          have hKe : (K.set kk ⟨K[kk].k, K[kk].le, K[kk].na, K[kk].se, u, K[kk].ta⟩).length ≤ 100 := by rw [List.length_set]; exact hK1
          have HRe := Lib.hid (H0.out.setNew R6.out hgv0 (kk * 6 + 4) (.string u))
          have HGe := Lib.hid (gb_new G6.out hgv0 (kk * 6 + 4) (.string u))
          have Xe := Lib.hid (X6.out.far (row := some gv) (gb_set (World.grownBy.refl _ _) (kk * 6 + 4) (.string u)) (by intro e; injection e with e; omega))
          have X0e := Lib.hid (Z6.out.far (row := some gv) (gb_set (World.grownBy.refl _ _) (kk * 6 + 4) (.string u)) (by intro e; injection e with e; omega))
          go_upto_region 13 with (fail)
          obtain ⟨we, hwe⟩ : ∃ we, w6.setCell ⟨gv, kk * 6 + 4, none⟩ (.string u) = we := ⟨_, rfl⟩
          rw [hwe] at OF HRe HGe Xe X0e ⊢
          clear hwe hv9 hfr
          have Oe := OF
          clear OF
          obtain ⟨A9, hA9⟩ : ∃ A9 : Option Addr, some ⟨gv, 0, none⟩ = A9 := ⟨_, rfl⟩
          obtain ⟨n9, hn9⟩ : ∃ n9, m = n9 := ⟨_, rfl⟩
          rw [hA9, hn9] at Oe Xe
          clear hA9 hn9
          have HON : Hid (RdOn g A n c p 900 w we) := ⟨q6, by omega, by omega, HRe.out, HGe.out⟩
          have h0 := X0e.out.cell
          have h0f := X0e.out.free
          have h1 := Xe.out.cell
          have HZ : Hid (Box (we.setCell ⟨w.heap.size, 0, none⟩ (.slice A9 n9 c9)) w.heap.size (.slice A9 n9 c9) 25) := X0e.out.set_ _
          have HN9 : Hid ((Value.slice A9 n9 c9).ownBlock ≠ some w.heap.size) := fun e => by have := (Oe.out.lt _ e).1; omega
          have HOF := Lib.hid ((Oe.out.setFar (i := 0) HN9.out (.slice A9 n9 c9)).less (show w.heap.size ≤ w.heap.size + 1 by omega))
          have HRF : Hid (RdOn g A n c p 900 w (we.setCell ⟨w.heap.size, 0, none⟩ (.slice A9 n9 c9))) := ⟨q6, by omega, by omega, H0.out.setNew HRe.out (Nat.le_refl _) _ _, gb_new HGe.out (Nat.le_refl _) _ _⟩
          go_wp2
          obtain ⟨wf, hwf⟩ : ∃ wf, we.setCell ⟨w.heap.size, 0, none⟩ (.slice A9 n9 c9) = wf := ⟨_, rfl⟩
          rw [hwf] at HZ HOF HRF ⊢
          clear hwf
          have hz := HZ.out.cell
          refine bodyPost_ret (v := .agg #[.slice A9 n9 c9]) (by simp [results, Tryd.results38, go_sem, hz]) rfl ?_
          exact ⟨_, K.set kk ⟨K[kk].k, K[kk].le, K[kk].na, K[kk].se, u, K[kk].ta⟩, rfl, HSe.out, hKe, HOF.out, HRF.out⟩
        · have d2 : (x == 2) = false := by rw [beq_eq_false_iff_ne]; exact e2
          clear e2
          by_cases e3 : x = 3
          · subst e3
            go_wp2_with fail
            refine wp_region_M 8 (CellsAre [(⟨w1.heap.size, 0, none⟩, .slice (some ⟨gv, 0, none⟩) m c9)]) (by kernel_rfl) (by kernel_rfl) ⟨hb1, trivial⟩ (fun hB hS => ?_)
            refine wpAnyM_take (i := 0) (v := ?vd0) hB rfl (by kernel_rfl) (fun _ _ _ h => h) (by kernel_rfl) ?yd0 hS ?nd0
            case yd0 => (intro w9 hSw; obtain ⟨s1, _⟩ := hSw; go_simp; try with_reducible rfl)
            refine wpAnyM_take (i := 1) (v := ?vd1) hB rfl (by kernel_rfl) (fun _ _ _ h => h) (by kernel_rfl) ?yd1 hS ?nd1
            case yd1 => (intro w9 hSw; obtain ⟨s1, _⟩ := hSw; go_simp; try with_reducible rfl)
            refine wpAnyM_take (i := 2) (v := ?vd2) hB rfl (by kernel_rfl) (fun _ _ _ h => h) (by kernel_rfl) ?yd2 hS ?nd2
            case yd2 => (intro w9 hSw; obtain ⟨s1, _⟩ := hSw; go_simp; try with_reducible rfl)
            refine wpAnyM_take (i := 3) (v := ?vd3) hB rfl (by kernel_rfl) (fun _ _ _ h => h) (by kernel_rfl) ?yd3 hS ?nd3
            case yd3 => (intro w9 hSw; obtain ⟨s1, _⟩ := hSw; go_simp; try with_reducible rfl)
            clear hS
            refine wpAnyM_one (i := 4) rfl (by kernel_rfl) rfl ?_
            go_wp2_with fail
            refine ⟨⟨(XX.out.keep ((Grows.refl wr).drew.alloc _)).cell, trivial⟩, ?_⟩
            refine wpAnyM_one (i := 5) rfl (by kernel_rfl) rfl ?_
            go_wp2_with fail
            refine (one_any wr.heap.size 4 _ _ _ g A n c q4 _ (heap_alloc_new wr.drew _) rfl (by decide) (by decide) (by kernel_rfl) Lr.out (by omega) hn (RR.out.keep ((Grows.refl wr).drew.alloc _))).mono ?_
            rintro e w6 h6
            obtain ⟨u, rfl, hu, q6, a6, b6, r6, k6⟩ := IntRet.of h6 ((Grows.refl wr).drew.alloc _)
            clear h6
            have HU := Lib.hid hu
            have K6 := Lib.hid k6
            have R6 := Lib.hid r6
            have X6 := Lib.hid (XX.out.far K6.out (by intro e; injection e with e; omega))
            have Z6 := Lib.hid (ZZ.out.far K6.out (by intro e; injection e with e; omega))
            have O6 := Lib.hid (OO.out.far K6.out (fun k hk e => by injection e with e; have := (OO.out.lt k hk).1; omega))
            have G6 : Hid (w.grownBy w6 (some g)) := GG.out.trans K6.out
            clear hu r6 k6
            go_wp2_with fail
            refine ⟨⟨X6.out.cell, trivial⟩, ?_⟩
            have hS : CellsAre [(⟨w1.heap.size, 0, none⟩, .slice (some ⟨gv, 0, none⟩) m c9)] w6 := ⟨X6.out.cell, trivial⟩
            refine wpAnyM_take (i := 6) (v := ?vd6) hB rfl (by kernel_rfl) (fun _ _ _ h => h) (by kernel_rfl) ?yd6 hS ?nd6
            case yd6 => (intro w9 hSw; obtain ⟨s1, _⟩ := hSw; go_simp; try with_reducible rfl)
            refine wpAnyM_take (i := 7) (v := ?vd7) hB rfl (by kernel_rfl) (fun _ _ _ h => h) (by kernel_rfl) ?yd7 hS ?nd7
            case yd7 => (intro w9 hSw; obtain ⟨s1, _⟩ := hSw; go_simp; try with_reducible rfl)
            refine wpAnyM_tail (by kernel_rfl) ?_
            clear hB hb1 hS
            have OF := Lib.hid (O6.out.field hm'.out hkk 0 (by decide) (.int .i64 u) (l := ⟨u, K[kk].le, K[kk].na, K[kk].se, K[kk].va, K[kk].ta⟩) rfl)
            have OF2 := OF.out
            rw [Nat.add_zero] at OF2
            clear OF
            have OF := Lib.hid OF2
            clear OF2
            have hfr := O6.out.free (kk * 6)
            obtain ⟨v9, hv9⟩ := O6.out.some_ hm'.out hkk (d := 0) (by decide)
            rw [Nat.add_zero] at hv9
            have HSe : Hid (ShortL (K.set kk ⟨u, K[kk].le, K[kk].na, K[kk].se, K[kk].va, K[kk].ta⟩)) := SS.out.set_ _ _ ⟨HU.out, (SS.out K[kk] (List.getElem_mem hkk)).2.1, (SS.out K[kk] (List.getElem_mem hkk)).2.2.1, (SS.out K[kk] (List.getElem_mem hkk)).2.2.2.1, (SS.out K[kk] (List.getElem_mem hkk)).2.2.2.2.1, (SS.out K[kk] (List.getElem_mem hkk)).2.2.2.2.2⟩
            have hKe : (K.set kk ⟨u, K[kk].le, K[kk].na, K[kk].se, K[kk].va, K[kk].ta⟩).length ≤ 100 := by rw [List.length_set]; exact hK1
            have HRe := Lib.hid (H0.out.setNew R6.out hgv0 (kk * 6) (.int .i64 u))
            have HGe := Lib.hid (gb_new G6.out hgv0 (kk * 6) (.int .i64 u))
            have Xe := Lib.hid (X6.out.far (row := some gv) (gb_set (World.grownBy.refl _ _) (kk * 6) (.int .i64 u)) (by intro e; injection e with e; omega))
            have X0e := Lib.hid (Z6.out.far (row := some gv) (gb_set (World.grownBy.refl _ _) (kk * 6) (.int .i64 u)) (by intro e; injection e with e; omega))
            go_upto_region 13 with (fail)
            obtain ⟨we, hwe⟩ : ∃ we, w6.setCell ⟨gv, kk * 6, none⟩ (.int .i64 u) = we := ⟨_, rfl⟩
            rw [hwe] at OF HRe HGe Xe X0e ⊢
            clear hwe hv9 hfr
            have Oe := OF
            clear OF
            obtain ⟨A9, hA9⟩ : ∃ A9 : Option Addr, some ⟨gv, 0, none⟩ = A9 := ⟨_, rfl⟩
            obtain ⟨n9, hn9⟩ : ∃ n9, m = n9 := ⟨_, rfl⟩
            rw [hA9, hn9] at Oe Xe
            clear hA9 hn9
            have HON : Hid (RdOn g A n c p 900 w we) := ⟨q6, by omega, by omega, HRe.out, HGe.out⟩
            have h0 := X0e.out.cell
            have h0f := X0e.out.free
            have h1 := Xe.out.cell
            have HZ : Hid (Box (we.setCell ⟨w.heap.size, 0, none⟩ (.slice A9 n9 c9)) w.heap.size (.slice A9 n9 c9) 25) := X0e.out.set_ _
            have HN9 : Hid ((Value.slice A9 n9 c9).ownBlock ≠ some w.heap.size) := fun e => by have := (Oe.out.lt _ e).1; omega
            have HOF := Lib.hid ((Oe.out.setFar (i := 0) HN9.out (.slice A9 n9 c9)).less (show w.heap.size ≤ w.heap.size + 1 by omega))
            have HRF : Hid (RdOn g A n c p 900 w (we.setCell ⟨w.heap.size, 0, none⟩ (.slice A9 n9 c9))) := ⟨q6, by omega, by omega, H0.out.setNew HRe.out (Nat.le_refl _) _ _, gb_new HGe.out (Nat.le_refl _) _ _⟩
            go_wp2
            obtain ⟨wf, hwf⟩ : ∃ wf, we.setCell ⟨w.heap.size, 0, none⟩ (.slice A9 n9 c9) = wf := ⟨_, rfl⟩
            rw [hwf] at HZ HOF HRF ⊢
            clear hwf
            have hz := HZ.out.cell
            refine bodyPost_ret (v := .agg #[.slice A9 n9 c9]) (by simp [results, Tryd.results38, go_sem, hz]) rfl ?_
            exact ⟨_, K.set kk ⟨u, K[kk].le, K[kk].na, K[kk].se, K[kk].va, K[kk].ta⟩, rfl, HSe.out, hKe, HOF.out, HRF.out⟩
          · have d3 : (x == 3) = false := by rw [beq_eq_false_iff_ne]; exact e3
            clear e3
            have HSe := SS
            have HRe := RR
            have HGe := GG
            have X0e := ZZ
            have Xe := XX
            have Oe := OO
            go_upto_region 13 with (fail)
            obtain ⟨A9, hA9⟩ : ∃ A9 : Option Addr, some ⟨gv, 0, none⟩ = A9 := ⟨_, rfl⟩
            obtain ⟨n9, hn9⟩ : ∃ n9, m = n9 := ⟨_, rfl⟩
            rw [hA9, hn9] at Oe Xe
            clear hA9 hn9 hb1
            have HON : Hid (RdOn g A n c p 900 w wr) := ⟨q4, by omega, by omega, HRe.out, HGe.out⟩
            have h0 := X0e.out.cell
            have h0f := X0e.out.free
            have h1 := Xe.out.cell
            have HZ : Hid (Box (wr.setCell ⟨w.heap.size, 0, none⟩ (.slice A9 n9 c9)) w.heap.size (.slice A9 n9 c9) 25) := X0e.out.set_ _
            have HN9 : Hid ((Value.slice A9 n9 c9).ownBlock ≠ some w.heap.size) := fun e => by have := (Oe.out.lt _ e).1; omega
            have HOF := Lib.hid ((Oe.out.setFar (i := 0) HN9.out (.slice A9 n9 c9)).less (show w.heap.size ≤ w.heap.size + 1 by omega))
            have HRF : Hid (RdOn g A n c p 900 w (wr.setCell ⟨w.heap.size, 0, none⟩ (.slice A9 n9 c9))) := ⟨q4, by omega, by omega, H0.out.setNew HRe.out (Nat.le_refl _) _ _, gb_new HGe.out (Nat.le_refl _) _ _⟩
            go_wp2
            obtain ⟨wf, hwf⟩ : ∃ wf, wr.setCell ⟨w.heap.size, 0, none⟩ (.slice A9 n9 c9) = wf := ⟨_, rfl⟩
            rw [hwf] at HZ HOF HRF ⊢
            clear hwf
            have hz := HZ.out.cell
            refine bodyPost_ret (v := .agg #[.slice A9 n9 c9]) (by simp [results, Tryd.results38, go_sem, hz]) rfl ?_
            exact ⟨_, K, rfl, HSe.out, hK1, HOF.out, HRF.out⟩
end Go.Proofs.YtclopcbpelhiaaaDoor
namespace Go.Proofs.YtclopcbpelhiaaaDoor
open Go.RowKit

theorem nowAt_short {K : List Ln} (h : ShortL K) : ∀ k, k ≤ K.length → (nowAt K k).size ≤ 41 := by
  intro k
  induction k with
  | zero => intro _; show (⟨#[]⟩ : ByteArray).size ≤ 41; decide
  | succ k ih =>
    intro hk
    have hk2 : k < K.length := by omega
    rw [nowAt_succ hk2]
    split
    · exact (h K[k] (List.getElem_mem hk2)).2.2.1
    · exact ih (by omega)
/-- a call's end: a file, a section and a key -/
def KeyGen (d g : Nat) (A : Option Addr) (n c p : Nat) (w : World) (e : Ending) (w' : World) : Prop :=
  ∃ (v : Value) (K : List Ln) (s key : ByteArray), e = .returned (.tuple #[.agg #[v], .string s, .string key]) ∧ (ShortL K ∧ K.length ≤ 100) ∧ OwnL w' w.heap.size v K ∧ (s.size ≤ 41 ∧ key.size ≤ 41) ∧ RdOn g A n c p d w w'

set_option maxRecDepth 100000 in
set_option maxHeartbeats 4000000 in
theorem keyIn_any (g : Nat) (A : Option Addr) (n c p : Nat) (w : World) (hp : p ≤ 40000) (hn : n ≤ 2000) (h : Rd w g A n c p) :
    Calls Tryd.prog 24 #[.pointer (some ⟨g, 0, none⟩)] w (KeyGen 1200 g A n c p w) := by
  have H0 := Lib.hid h
  have HR := Lib.hid (fun o => h.keep ((Grows.refl w).alloc o))
  have hgl := h.lt
  clear h
  go_enter Tryd.func24, Tryd.ntmps24
  go_wp2_with fail
  refine (someFile_any g A n c p _ (by omega) hn (HR.out _)).mono ?_
  rintro e w1 ⟨v, K, rfl, hS, hK1, hO, q1, a1, b1, r1, k1⟩
  rw [World.size_alloc] at hO
  have hs1 : w.heap.size < w1.heap.size := Nat.lt_of_lt_of_le (by simp) k1.size
  have X0 : Hid (Box (w1.alloc (.cells #[v] 25)) w.heap.size (.slice none 0 0) 25) := row_grow (row_keep (heap_alloc_new w _) k1 (by omega)) ((Grows.refl _).alloc _)
  have XX : Hid (Box (w1.alloc (.cells #[v] 25)) w1.heap.size v 25) := heap_alloc_new w1 _
  have O2 : Hid (OwnL (w1.alloc (.cells #[v] 25)) (w.heap.size + 1) v K) := hO.keep ((Grows.refl _).alloc _)
  have R2 : Hid (Rd (w1.alloc (.cells #[v] 25)) g A n c q1) := r1.keep ((Grows.refl _).alloc _)
  have G2 : Hid (w.grownBy (w1.alloc (.cells #[v] 25)) (some g)) := gb_grows ((gb_of ((Grows.refl w).alloc _)).trans k1) ((Grows.refl _).alloc _)
  have SS := Lib.hid hS
  have hgw1 : g < w1.heap.size := by omega
  have VLT : Hid (∀ i, v.ownBlock = some i → w.heap.size + 1 ≤ i ∧ i < w1.heap.size) := hO.lt
  obtain ⟨A0, c0, rfl, _⟩ := hO.form
  obtain ⟨m, hm⟩ : ∃ m, K.length = m := ⟨_, rfl⟩
  rw [hm] at X0 XX O2 R2 G2 VLT ⊢
  have hm1 : m ≤ 100 := by omega
  have HM := Lib.hid hm
  obtain ⟨w2, hw2⟩ : ∃ w2, w1.alloc (.cells #[.slice A0 m c0] 25) = w2 := ⟨_, rfl⟩
  have HW2 := Lib.hid hw2
  have hs2 : w2.heap.size = w1.heap.size + 1 := by rw [← hw2]; exact World.size_alloc _ _
  have HS2 : Hid (w1.heap.size < w2.heap.size) := by unfold Hid; omega
  rw [hw2] at X0 XX O2 R2 G2
  clear hw2 hs2 hS r1 k1 hO hm hK1
  go_upto_region 2 with (fail)
  rw [HW2.out]
  clear HW2
  have h1 := XX.out.cell
  go_wp2_with fail
  refine (pick_any ((m : Int) + 1) g A n c q1 _ (by omega) (by omega) (by omega) hn R2.out).mono ?_
  rintro e w3 ⟨x, rfl, hx0, hx1, r3, k3⟩
  obtain ⟨j0, rfl⟩ := Int.eq_ofNat_of_zero_le hx0
  have hj0 : j0 ≤ m := by have := hx1 (by omega); omega
  have R3 := Lib.hid r3
  have X3 := Lib.hid (XX.out.far k3 (by intro e; injection e with e; omega))
  have Z3 := Lib.hid (X0.out.far k3 (by intro e; injection e with e; omega))
  have O3 := Lib.hid (O2.out.far k3 (fun k hk e => by injection e with e; have := (O2.out.lt k hk).1; omega))
  have G3 : Hid (w.grownBy w3 (some g)) := G2.out.trans k3
  have S3 : Hid (w1.heap.size < w3.heap.size) := by have := k3.size; have := HS2.out; unfold Hid; omega
  clear hx1 hx0 r3 k3 h1 XX X0 O2 R2 G2 HS2
  go_wp2_with fail
  go_loopw [7] (fun i wr => ∃ (j q : Nat), i = .int .i64 j ∧ j ≤ m ∧ p ≤ q ∧ q ≤ p + 901 + j ∧ Hid (OwnL wr (w.heap.size + 1) (.slice A0 m c0) K) ∧ Hid (Box wr w1.heap.size (.slice A0 m c0) 25) ∧ Hid (Box wr w.heap.size (.slice none 0 0) 25) ∧ Hid (Rd wr g A n c q) ∧ Hid (w.grownBy wr (some g))) (fun i _ => m - (intOf i).toNat)
  case atStart => exact ⟨j0, q1 + 1, rfl, hj0, by omega, by omega, O3.out, X3.out, Z3.out, R3.out, G3.out⟩
  case round =>
    clear O3 X3 Z3 R3 G3
    obtain ⟨j, q, rfl, hj, hq0, hq1, HO, HX, HZ, HRd, HG⟩ := hrel
    have hbo := HX.out.cell
    by_cases hlt : j < m
    · have hjK : j < K.length := by rw [HM.out]; exact hlt
      obtain ⟨gv, c9, hv9, hgv0, hgv1⟩ := HO.out.row (by omega)
      injection hv9 with hv1 hv2 hv3
      subst hv1
      have HNG : Hid (gv ≠ g) := by unfold Hid; omega
      have hgw : Hid (gv < w1.heap.size) := (VLT.out gv rfl).2
      have HLA := Lib.hid (HO.out.atg HM.out j hjK)
      have hsh := SS.out K[j] (List.getElem_mem hjK)
      obtain ⟨l, hl⟩ : ∃ l, K[j] = l := ⟨_, rfl⟩
      rw [hl] at HLA hsh
      have HKL := Lib.hid hl
      have HNA : Hid (l.na.size ≤ 41) := hsh.2.2.1
      clear hl hsh hv2 hv3
      obtain ⟨d0, d1, d2, d3, d4, d5⟩ := HLA.out
      by_cases h3 : l.k = 3
      · have h3b : (l.k == 3) = true := by rw [h3]; rfl
        clear h3 d1 d2 d3 d4 d5
        go_wp2_with fail
        refine (pick_any 6 g A n c q _ (by omega) (by omega) (by omega) hn HRd.out).mono ?_
        rintro e w5 ⟨x, rfl, hx0, hx1, r5, k5⟩
        have R5 := Lib.hid r5
        have X5 := Lib.hid (HX.out.far k5 (by intro e; injection e with e; omega))
        have Z5 := Lib.hid (HZ.out.far k5 (by intro e; injection e with e; omega))
        have O5 := Lib.hid (HO.out.far k5 (fun k hk e => by injection e with e; have := (HO.out.lt k hk).1; omega))
        have G5 : Hid (w.grownBy w5 (some g)) := HG.out.trans k5
        clear hx1 r5 k5 hbo d0
        by_cases hx : 0 < x
        · have LA5 := Lib.hid (O5.out.atg HM.out j hjK)
          rw [HKL.out] at LA5
          have hb5 := X5.out.cell
          obtain ⟨d0, d1, d2, d3, d4, d5⟩ := LA5.out
          clear d0 d1 d3 d4 d5
          go_wp2_with fail
          have HSC := Lib.hid (sectionAt_any (some ⟨gv, 0, none⟩) c0 K j w5.drew (by rw [HM.out]; omega) hjK ((HM.out ▸ O5.out : OwnL w5 (w.heap.size + 1) (.slice (some ⟨gv, 0, none⟩) K.length c0) K).at.keep (Grows.refl w5).drew))
          rw [HM.out] at HSC
          have HNS := Lib.hid (nowAt_short SS.out (j + 1) (by omega))
          obtain ⟨s, hs⟩ : ∃ s, nowAt K (j + 1) = s := ⟨_, rfl⟩
          rw [hs] at HNS HSC
          have HE1 := Lib.hid hb5
          have HE2 := Lib.hid d2
          have HNE : Hid (w.heap.size ≠ w1.heap.size ∧ w.heap.size ≠ gv) := by unfold Hid; omega
          clear hs
          go_region_held3 (fun w' => w'.cell? ⟨w1.heap.size, 0, none⟩ = some (.slice (some ⟨gv, 0, none⟩) m c0) ∧ w'.cell? ⟨gv, j * 6 + 2, none⟩ = some (.string l.na)) (first | exact ⟨hb5, d2⟩ | exact ⟨x1, x2⟩ | exact ⟨y1, y2⟩) (first | (go_at_call 30; refine (HSC.out).mono ?_; rintro e w6 ⟨rfl, g6'⟩; have g6 : Hid (Grows w5 w6) := (Grows.refl w5).drew.trans g6'; clear g6'; have Z6 := Lib.hid (Z5.out.keep g6.out); have z0 := Z6.out.cell; have zf := Z6.out.free; have x1 := (X5.out.keep g6.out).cell; have x2 : w6.cell? ⟨gv, j * 6 + 2, none⟩ = some (.string l.na) := (g6.out.cell (p := ⟨gv, j * 6 + 2, none⟩) (World.block_lt_of_cell? w5 _ HE2.out)).trans HE2.out; have y1 := (World.cell?_setCell_other w6 ⟨w.heap.size, 0, none⟩ ⟨w1.heap.size, 0, none⟩ (.slice (some ⟨gv, 0, none⟩) m c0) (by intro e; have e1 := congrArg Addr.block e; have e2 := HNE.out; simp only at e1; omega)).trans x1; have y2 := (World.cell?_setCell_other w6 ⟨w.heap.size, 0, none⟩ ⟨gv, j * 6 + 2, none⟩ (.slice (some ⟨gv, 0, none⟩) m c0) (by intro e; have e1 := congrArg Addr.block e; have e2 := HNE.out; simp only at e1; omega)).trans x2))
          clear z0 zf x1 x2 hb5 d2 HSC
          have HZf : Hid (Box (w6.setCell ⟨w.heap.size, 0, none⟩ (.slice (some ⟨gv, 0, none⟩) m c0)) w.heap.size (.slice (some ⟨gv, 0, none⟩) m c0) 25) := Z6.out.set_ _
          have O6 := Lib.hid (O5.out.keep g6.out)
          have HN9 : Hid ((Value.slice (some ⟨gv, 0, none⟩) m c0).ownBlock ≠ some w.heap.size) := fun e => by have := (O6.out.lt _ e).1; omega
          have HOF := Lib.hid ((O6.out.setFar (i := 0) HN9.out (.slice (some ⟨gv, 0, none⟩) m c0)).less (show w.heap.size ≤ w.heap.size + 1 by omega))
          have HRF : Hid (RdOn g A n c p 1200 w (w6.setCell ⟨w.heap.size, 0, none⟩ (.slice (some ⟨gv, 0, none⟩) m c0))) := ⟨q + 1, by omega, by omega, H0.out.setNew (R5.out.keep g6.out) (Nat.le_refl _) _ _, gb_new (gb_grows G5.out g6.out) (Nat.le_refl _) _ _⟩
          clear y1 y2
          obtain ⟨wf, hwf⟩ : ∃ wf, w6.setCell ⟨w.heap.size, 0, none⟩ (.slice (some ⟨gv, 0, none⟩) m c0) = wf := ⟨_, rfl⟩
          rw [hwf] at HZf HOF HRF ⊢
          clear hwf
          have hz := HZf.out.cell
          go_wp2
          refine bodyPost_ret (v := .tuple #[.agg #[.slice (some ⟨gv, 0, none⟩) m c0], .string s, .string l.na]) (by simp [results, Tryd.results24, go_sem, hz]) rfl ?_
          exact ⟨_, K, s, l.na, rfl, ⟨SS.out, by rw [HM.out]; exact hm1⟩, HOF.out, ⟨HNS.out, HNA.out⟩, HRF.out⟩
        · have hx2 : ¬ 0 < x := hx
          clear hx
          go_wp2
          go_roundw
          case rel => exact ⟨j + 1, q + 1, by go_num, by omega, by omega, by omega, O5.out, X5.out, Z5.out, R5.out, G5.out⟩
          case measure => simp [intOf]; omega
      · have h3b : (l.k == 3) = false := by rw [beq_eq_false_iff_ne]; exact h3
        clear h3 d1 d2 d3 d4 d5
        go_wp2
        go_roundw
        case rel => exact ⟨j + 1, q, by go_num, by omega, by omega, by omega, HO.out, HX.out, HZ.out, HRd.out, HG.out⟩
        case measure => simp [intOf]; omega
    · have hz0 := HZ.out.cell
      go_wp2_with fail
      refine wp_region_M 5 (CellsAre [(⟨w1.heap.size, 0, none⟩, .slice A0 m c0)]) (by kernel_rfl) (by kernel_rfl) ⟨hbo, trivial⟩ (fun hB hS => ?_)
      refine wpAnyM_take (i := 0) (v := ?vg0) hB rfl (by kernel_rfl) (fun _ _ _ h => h) (by kernel_rfl) ?yg0 hS ?ng0
      case yg0 => (intro w9 hSw; obtain ⟨s1, _⟩ := hSw; go_simp; try with_reducible rfl)
      refine wpAnyM_take (i := 1) (v := ?vg1) hB rfl (by kernel_rfl) (fun _ _ _ h => h) (by kernel_rfl) ?yg1 hS ?ng1
      case yg1 => (intro w9 hSw; obtain ⟨s1, _⟩ := hSw; go_simp; try with_reducible rfl)
      refine wpAnyM_take (i := 3) (v := ?vg3) hB rfl (by kernel_rfl) (fun _ _ _ h => h) (by kernel_rfl) ?yg3 hS ?ng3
      case yg3 => (intro w9 hSw; obtain ⟨s1, _⟩ := hSw; go_simp; try with_reducible rfl)
      refine wpAnyM_one (i := 2) rfl (by kernel_rfl) rfl ?_
      clear hS hbo hz0
      go_wp2_with fail
      refine (aSection_any g A n c q _ (by omega) hn (HRd.out.keep (Grows.refl wr).drew)).mono ?_
      rintro e w5 ⟨s, rfl, hsz, q5, a5, b5, r5, k5'⟩
      have k5 : Hid (wr.grownBy w5 (some g)) := (gb_of (Grows.refl wr).drew).trans k5'
      have HSZ := Lib.hid hsz
      have R5 := Lib.hid r5
      have X5 := Lib.hid (HX.out.far k5.out (by intro e; injection e with e; omega))
      have Z5 := Lib.hid (HZ.out.far k5.out (by intro e; injection e with e; omega))
      have O5 := Lib.hid (HO.out.far k5.out (fun k hk e => by injection e with e; have := (HO.out.lt k hk).1; omega))
      have G5 : Hid (w.grownBy w5 (some g)) := HG.out.trans k5.out
      clear hsz r5 k5'
      go_wp2_with fail
      refine ⟨⟨X5.out.cell, trivial⟩, ?_⟩
      refine wpAnyM_one (i := 4) rfl (by kernel_rfl) rfl ?_
      go_wp2_with fail
      refine (aKey_any g A n c q5 _ (by omega) hn R5.out).mono ?_
      rintro e w6 ⟨key, rfl, hkz, q6, a6, b6, r6, k6'⟩
      have k6 := Lib.hid k6'
      have HKZ := Lib.hid hkz
      have R6 := Lib.hid r6
      have X6 := Lib.hid (X5.out.far k6.out (by intro e; injection e with e; omega))
      have Z6 := Lib.hid (Z5.out.far k6.out (by intro e; injection e with e; omega))
      have O6 := Lib.hid (O5.out.far k6.out (fun k hk e => by injection e with e; have := (O5.out.lt k hk).1; omega))
      have G6 : Hid (w.grownBy w6 (some g)) := G5.out.trans k6.out
      clear hkz r6 k6'
      go_wp2_with fail
      refine ⟨⟨X6.out.cell, trivial⟩, ?_⟩
      refine wpAnyM_tail (by kernel_rfl) ?_
      clear hB
      have z0 := Z6.out.cell
      have zf := Z6.out.free
      have HZf : Hid (Box (w6.setCell ⟨w.heap.size, 0, none⟩ (.slice A0 m c0)) w.heap.size (.slice A0 m c0) 25) := Z6.out.set_ _
      have HN9 : Hid ((Value.slice A0 m c0).ownBlock ≠ some w.heap.size) := fun e => by have := (O6.out.lt _ e).1; omega
      have HOF := Lib.hid ((O6.out.setFar (i := 0) HN9.out (.slice A0 m c0)).less (show w.heap.size ≤ w.heap.size + 1 by omega))
      have HRF : Hid (RdOn g A n c p 1200 w (w6.setCell ⟨w.heap.size, 0, none⟩ (.slice A0 m c0))) := ⟨q6, by omega, by omega, H0.out.setNew R6.out (Nat.le_refl _) _ _, gb_new G6.out (Nat.le_refl _) _ _⟩
      go_wp2
      obtain ⟨wf, hwf⟩ : ∃ wf, w6.setCell ⟨w.heap.size, 0, none⟩ (.slice A0 m c0) = wf := ⟨_, rfl⟩
      rw [hwf] at HZf HOF HRF ⊢
      clear hwf z0 zf
      have hz := HZf.out.cell
      refine bodyPost_ret (v := .tuple #[.agg #[.slice A0 m c0], .string s, .string key]) (by simp [results, Tryd.results24, go_sem, hz]) rfl ?_
      exact ⟨_, K, s, key, rfl, ⟨SS.out, by rw [HM.out]; exact hm1⟩, HOF.out, ⟨HSZ.out, HKZ.out⟩, HRF.out⟩
end Go.Proofs.YtclopcbpelhiaaaDoor
