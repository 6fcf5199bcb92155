/-
  What the drawn laws' generator picks: names, keys, values, and a new reader. Conditions: the reader's place is at most 100000.
-/
import Derived.Test.YteifcogfnpeahaaRdr
namespace Go.Proofs.Yteifcogfnpeahaa
open Go.RowKit

set_option maxRecDepth 100000 in
set_option maxHeartbeats 1000000 in
theorem aKey_any (g : Nat) (A : Option Addr) (n c p : Nat) (w : World) (hp : p ≤ 100000) (hn : n ≤ 2000) (h : Rd w g A n c p) :
    Calls Try.prog 102 #[.pointer (some ⟨g, 0, none⟩)] w (StrRet 1 g A n c p w) := by
  have HR := Lib.hid (fun o => h.keep ((Grows.refl w).alloc o))
  have HL := Lib.hid (Nat.ne_of_gt h.lt)
  clear h
  go_enter Try.func102, Try.ntmps102
  go_wp2_with fail
  refine (of_any w.heap.size 6 _ _ _ g A n c p _ (heap_alloc_new w _) rfl (by decide) (by decide) (by kernel_rfl) HL.out hp hn (HR.out _)).mono ?_
  rintro e w1 h1
  obtain ⟨s, rfl, h2, h3⟩ := StrRet.of h1 ((Grows.refl _).alloc _)
  have H2 := Lib.hid h2
  have H3 := Lib.hid h3
  clear h1 h2 h3
  go_wp2
  go_ret
  exact ⟨s, rfl, H2.out, H3.out⟩

set_option maxRecDepth 100000 in
set_option maxHeartbeats 1000000 in
theorem anyName_any (g : Nat) (A : Option Addr) (n c p : Nat) (w : World) (hp : p ≤ 100000) (hn : n ≤ 2000) (h : Rd w g A n c p) :
    Calls Try.prog 96 #[.pointer (some ⟨g, 0, none⟩)] w (StrRet 1 g A n c p w) := by
  have HR := Lib.hid (fun o => h.keep ((Grows.refl w).alloc o))
  have HL := Lib.hid (Nat.ne_of_gt h.lt)
  clear h
  go_enter Try.func96, Try.ntmps96
  go_wp2_with fail
  refine (of_any w.heap.size 9 _ _ _ g A n c p _ (heap_alloc_new w _) rfl (by decide) (by decide) (by kernel_rfl) HL.out hp hn (HR.out _)).mono ?_
  rintro e w1 h1
  obtain ⟨s, rfl, h2, h3⟩ := StrRet.of h1 ((Grows.refl _).alloc _)
  have H2 := Lib.hid h2
  have H3 := Lib.hid h3
  clear h1 h2 h3
  go_wp2
  go_ret
  exact ⟨s, rfl, H2.out, H3.out⟩

set_option maxRecDepth 100000 in
set_option maxHeartbeats 1000000 in
theorem aValue_any (g : Nat) (A : Option Addr) (n c p : Nat) (w : World) (hp : p ≤ 100000) (hn : n ≤ 2000) (h : Rd w g A n c p) :
    Calls Try.prog 110 #[.pointer (some ⟨g, 0, none⟩)] w (StrRet 1 g A n c p w) := by
  have HR := Lib.hid (fun o => h.keep ((Grows.refl w).alloc o))
  have HL := Lib.hid (Nat.ne_of_gt h.lt)
  clear h
  go_enter Try.func110, Try.ntmps110
  go_wp2_with fail
  refine (of_any w.heap.size 17 _ _ _ g A n c p _ (heap_alloc_new w _) rfl (by decide) (by decide) (by kernel_rfl) HL.out hp hn (HR.out _)).mono ?_
  rintro e w1 h1
  obtain ⟨s, rfl, h2, h3⟩ := StrRet.of h1 ((Grows.refl _).alloc _)
  have H2 := Lib.hid h2
  have H3 := Lib.hid h3
  clear h1 h2 h3
  go_wp2
  go_ret
  exact ⟨s, rfl, H2.out, H3.out⟩

theorem RdOn.trans {g : Nat} {A : Option Addr} {n c p d d2 q : Nat} {w w1 w2 : World} (h : w.grownBy w1 (some g)) (hq : p ≤ q) (hq2 : q ≤ p + d) (k : RdOn g A n c q d2 w1 w2) : RdOn g A n c p (d + d2) w w2 := by
  obtain ⟨r, h1, h2, h3, h4⟩ := k
  exact ⟨r, by omega, by omega, h3, h.trans h4⟩

set_option maxRecDepth 100000 in
set_option maxHeartbeats 1000000 in
theorem anyValue_any (g : Nat) (A : Option Addr) (n c p : Nat) (w : World) (hp : p ≤ 90000) (hn : n ≤ 2000) (h : Rd w g A n c p) :
    Calls Try.prog 97 #[.pointer (some ⟨g, 0, none⟩)] w (StrRet 2 g A n c p w) := by
  have HP := Lib.hid (pick_any 16 g A n c p w (by omega) (by omega) (by omega) hn h)
  unfold PickRet at HP
  clear h
  go_enter Try.func97, Try.ntmps97
  go_wp2_with fail
  refine (HP.out).mono ?_
  rintro e w1 ⟨x, rfl, hx0, hx1, hr, hg⟩
  have HR := Lib.hid hr
  have HG := Lib.hid hg
  have HL := Lib.hid (Nat.ne_of_gt hr.lt)
  clear hx1 hr hg
  by_cases he : x = 0
  · subst he
    go_wp2_with fail
    refine (of_any w1.heap.size 8 _ _ _ g A n c (p + 1) _ (heap_alloc_new w1 _) rfl (by decide) (by decide) (by kernel_rfl) HL.out (by omega) hn (HR.out.keep ((Grows.refl _).alloc _))).mono ?_
    rintro e w2 h1
    obtain ⟨s, rfl, h2, h3⟩ := StrRet.of h1 ((Grows.refl _).alloc _)
    have H2 := Lib.hid h2
    have H3 := Lib.hid (RdOn.trans (d := 1) HG.out (Nat.le_succ p) (Nat.le_refl _) h3)
    clear h1 h2 h3
    go_wp2
    go_ret
    exact ⟨s, rfl, H2.out, H3.out⟩
  · have hd : (x == 0) = false := by rw [beq_eq_false_iff_ne]; exact he
    clear he
    go_wp2_with fail
    refine (aValue_any g A n c (p + 1) _ (by omega) hn HR.out).mono ?_
    rintro e w2 ⟨s, rfl, h2, h3⟩
    have H2 := Lib.hid h2
    have H3 := Lib.hid (RdOn.trans (d := 1) HG.out (Nat.le_succ p) (Nat.le_refl _) h3)
    clear h2 h3
    go_wp2
    go_ret
    exact ⟨s, rfl, H2.out, H3.out⟩

/-! ### a new reader -/
/-- the bytes of the law's argument -/
def BytesAt (w : World) (A : Option Addr) (n : Nat) : Prop :=
  0 < n → ∃ b o, A = some ⟨b, o, none⟩ ∧ b < w.heap.size ∧ ∀ i, i < n → ∃ x : Int, 0 ≤ x ∧ x ≤ 255 ∧ w.cell? ⟨b, o + i, none⟩ = some (.int .u8 x)
theorem BytesAt.keep {w w' : World} {A : Option Addr} {n : Nat} (h : BytesAt w A n) (g : Grows w w') : BytesAt w' A n := fun h0 => by
  obtain ⟨b, o, e, hb, hc⟩ := h h0
  refine ⟨b, o, e, Nat.lt_of_lt_of_le hb g.size, fun i hi => ?_⟩
  obtain ⟨x, h1, h2, h3⟩ := hc i hi
  exact ⟨x, h1, h2, (g.cell (p := ⟨b, o + i, none⟩) hb).trans h3⟩
theorem BytesAt.rd {w : World} {A : Option Addr} {n k : Nat} (h : BytesAt w A n) (hk : k ≤ n) (c : Nat) : Rd (w.alloc (.cells #[.slice A k c, .int .i64 0] 106)) w.heap.size A k c 0 := by
  refine ⟨heap_alloc_new w _, fun h0 => ?_⟩
  obtain ⟨b, o, e, hb, hc⟩ := h (by omega)
  refine ⟨b, o, e, by omega, by simp; omega, fun i hi => ?_⟩
  obtain ⟨x, h1, h2, h3⟩ := hc i (by omega)
  exact ⟨x, h1, h2, (((Grows.refl w).alloc _).cell (p := ⟨b, o + i, none⟩) hb).trans h3⟩
def NewRet (w : World) (e : Ending) (w' : World) : Prop := ∃ (A : Option Addr) (n c g : Nat), e = .returned (.pointer (some ⟨g, 0, none⟩)) ∧ n ≤ 2000 ∧ w.heap.size ≤ g ∧ Rd w' g A n c 0 ∧ Grows w w'

set_option maxRecDepth 100000 in
set_option maxHeartbeats 1000000 in
theorem newReader_any (A : Option Addr) (n c : Nat) (w : World) (hn : n ≤ maxLen) (hc : n ≤ c) (h : BytesAt w A n) :
    Calls Try.prog 60 #[.slice A n c] w (NewRet w) := by
  unfold maxLen at hn
  by_cases hlt : 2000 < n
  · obtain ⟨b, o, rfl, _, _⟩ := h (by omega)
    have HR := Lib.hid (h.rd (k := 2000) (by omega) c)
    have hc2 : 2000 ≤ c := by omega
    clear h
    go_enter Try.func60, Try.ntmps60
    go_wp2
    go_ret
    exact ⟨_, 2000, c, w.heap.size, rfl, Nat.le_refl _, Nat.le_refl _, HR.out, (Grows.refl _).alloc _⟩
  · have HR := Lib.hid (h.rd (k := n) (Nat.le_refl _) c)
    clear h
    go_enter Try.func60, Try.ntmps60
    go_wp2
    go_ret
    exact ⟨_, n, c, w.heap.size, rfl, by omega, Nat.le_refl _, HR.out, (Grows.refl _).alloc _⟩
end Go.Proofs.Yteifcogfnpeahaa
