/-
  What the drawn laws' generator makes of lines: aLine. Conditions: the reader's place is at most 80000.
-/
import Derived.Test.YtdedidcjbocicaaRdr
import Derived.Test.YtdedidcjbocicaaMake
namespace Go.Proofs.Ytdedidcjbocicaa
open Go.RowKit

theorem alloc_new2 (w : World) (o o2 : Obj) : ((w.alloc o).alloc o2).heap[w.heap.size + 1]? = some o2 := by
  have := heap_alloc_new (w.alloc o) o2
  rwa [World.size_alloc] at this
/-- a block of six cells -/
theorem row6 {w : World} {b : Nat} {v0 v1 v2 v3 v4 v5 : Value} {T : TypeId} (h : w.heap[b]? = some (.cells #[v0, v1, v2, v3, v4, v5] T (0, 0))) :
    (w.cell? ⟨b, 0, none⟩ = some v0 ∧ w.cell? ⟨b, 1, none⟩ = some v1 ∧ w.cell? ⟨b, 2, none⟩ = some v2 ∧ w.cell? ⟨b, 3, none⟩ = some v3 ∧ w.cell? ⟨b, 4, none⟩ = some v4 ∧ w.cell? ⟨b, 5, none⟩ = some v5) ∧
    ∀ j, w.frozen? ⟨b, j, none⟩ = false := by
  refine ⟨⟨?_, ?_, ?_, ?_, ?_, ?_⟩, fun j => frozen_of_row w b j _ _ h⟩
  all_goals (rw [cell_of_row w b _ _ _ _ h]; rfl)
theorem row_keep {w w' : World} {b g : Nat} {o : Obj} (h : w.heap[b]? = some o) (k : w.grownBy w' (some g)) (hne : b ≠ g) : w'.heap[b]? = some o := by
  have hlt : b < w.heap.size := by
    rcases Nat.lt_or_ge b w.heap.size with hlt | hge
    · exact hlt
    · rw [Array.getElem?_eq_none hge] at h; cases h
  exact (k.block b hlt (by intro e; injection e with e; exact hne e)).trans h
theorem row_grow {w w' : World} {b : Nat} {o : Obj} (h : w.heap[b]? = some o) (k : Grows w w') : w'.heap[b]? = some o := by
  have hlt : b < w.heap.size := by
    rcases Nat.lt_or_ge b w.heap.size with hlt | hge
    · exact hlt
    · rw [Array.getElem?_eq_none hge] at h; cases h
  exact (k.block b hlt).trans h
theorem st6_row {w : World} {b : Nat} {v0 v1 v2 v3 v4 v5 : Value} {T : TypeId} (h : w.heap[b]? = some (.cells #[v0, v1, v2, v3, v4, v5] T (0, 0))) (l : Ln) :
    (st6 w b 0 l).heap[b]? = some (.cells #[.int .i64 l.k, .string l.le, .string l.na, .string l.se, .string l.va, .string l.ta] T (0, 0)) := by
  simp [st6, World.setCell, Array.getElem?_modify, h]
/-- a line of short texts -/
def Ln.short (l : Ln) : Prop := (-100 ≤ l.k ∧ l.k ≤ 100) ∧ l.le.size ≤ 41 ∧ l.na.size ≤ 41 ∧ l.se.size ≤ 41 ∧ l.va.size ≤ 41 ∧ l.ta.size ≤ 41
theorem empty_41 : (⟨#[]⟩ : ByteArray).size ≤ 41 := by decide
/-- a call's end: a line of short texts, at most d places further -/
def LineRet (d g : Nat) (A : Option Addr) (n c p : Nat) (w : World) (e : Ending) (w' : World) : Prop := ∃ l : Ln, e = .returned (.agg #[.int .i64 l.k, .string l.le, .string l.na, .string l.se, .string l.va, .string l.ta]) ∧ l.short ∧ RdOn g A n c p d w w'
theorem RdOn.more {g : Nat} {A : Option Addr} {n c p d d2 : Nat} {w w' : World} (h : RdOn g A n c p d w w') (hd : d ≤ d2) : RdOn g A n c p d2 w w' := by
  obtain ⟨q, h1, h2, h3⟩ := h
  exact ⟨q, h1, by omega, h3⟩
/-- a store into a block that is new -/
theorem Rd.setNew {w0 w : World} {g : Nat} {A : Option Addr} {n c p0 p : Nat} (h0 : Rd w0 g A n c p0) (h : Rd w g A n c p) {b : Nat} (hb : w0.heap.size ≤ b) (j : Nat) (u : Value) : Rd (w.setCell ⟨b, j, none⟩ u) g A n c p := by
  have hg := h0.lt
  refine ⟨(Below.heap_setCell w ⟨b, j, none⟩ u g (fun e => by first | (simp at e; done) | (simp at e; omega) | omega)).trans h.blk, fun hn => ?_⟩
  obtain ⟨b1, o1, e1, _, hb1, _⟩ := h0.by_ hn
  obtain ⟨b2, o2, e2, hne, hb2, hc⟩ := h.by_ hn
  rw [e1] at e2
  injection e2 with e2
  injection e2 with e2 e3
  subst e2; subst e3
  refine ⟨b1, o1, e1, hne, by simpa [World.setCell] using hb2, fun i hi => ?_⟩
  obtain ⟨x, h1, h2, h3⟩ := hc i hi
  exact ⟨x, h1, h2, (World.cell?_setCell_other w ⟨b, j, none⟩ ⟨b1, o1 + i, none⟩ u (fun e => by first | (simp at e; done) | (simp at e; omega) | omega)).trans h3⟩
theorem gb_new {a b : World} {g k : Nat} (h : a.grownBy b (some g)) (hk : a.heap.size ≤ k) (j : Nat) (u : Value) : a.grownBy (b.setCell ⟨k, j, none⟩ u) (some g) :=
  ⟨h.os, h.tape, h.output, by simpa [World.setCell] using h.size, fun i hi hne => (Below.heap_setCell b ⟨k, j, none⟩ u i (fun e => by first | (simp at e; done) | (simp at e; omega) | omega)).trans (h.block i hi hne)⟩
/-- a line stored into a block that is new -/
theorem RdOn.st {w0 w : World} {g : Nat} {A : Option Addr} {n c p d : Nat} (h0 : Rd w0 g A n c p) (h : RdOn g A n c p d w0 w) {b : Nat} (hb : w0.heap.size ≤ b) (l : Ln) : RdOn g A n c p d w0 (st6 w b 0 l) := by
  obtain ⟨q, h1, h2, h3, h4⟩ := h
  refine ⟨q, h1, h2, ?_, ?_⟩
  · exact h0.setNew (h0.setNew (h0.setNew (h0.setNew (h0.setNew (h0.setNew h3 hb _ _) hb _ _) hb _ _) hb _ _) hb _ _) hb _ _
  · exact gb_new (gb_new (gb_new (gb_new (gb_new (gb_new h4 hb _ _) hb _ _) hb _ _) hb _ _) hb _ _) hb _ _

theorem RdOn.next {g : Nat} {A : Option Addr} {n c p d d2 : Nat} {w w1 w2 : World} (h : RdOn g A n c p d w w1) (k : ∀ q, p ≤ q → q ≤ p + d → Rd w1 g A n c q → RdOn g A n c q d2 w1 w2) : RdOn g A n c p (d + d2) w w2 := by
  obtain ⟨q, h1, h2, h3, h4⟩ := h
  obtain ⟨r, k1, k2, k3, k4⟩ := k q h1 h2 h3
  exact ⟨r, by omega, by omega, k3, h4.trans k4⟩

set_option maxRecDepth 100000 in
set_option maxHeartbeats 2000000 in
theorem aLine_any (g : Nat) (A : Option Addr) (n c p : Nat) (w : World) (hp : p ≤ 80000) (hn : n ≤ 2000) (h : Rd w g A n c p) :
    Calls Try.prog 57 #[.pointer (some ⟨g, 0, none⟩)] w (LineRet 8 g A n c p w) := by
  have H0 := Lib.hid h
  have HR := Lib.hid (fun o o2 => h.keep (((Grows.refl w).alloc o).alloc o2))
  have HL := Lib.hid (show w.heap.size ≠ g from Nat.ne_of_gt h.lt)
  have HL1 := Lib.hid (show w.heap.size + 1 ≠ g from by have := h.lt; omega)
  clear h
  go_enter Try.func57, Try.ntmps57
  go_wp2_with fail
  refine (of_any (w.heap.size + 1) 5 _ _ _ g A n c p _ (alloc_new2 w _ _) rfl (by decide) (by decide) (by kernel_rfl) HL1.out (by omega) hn (HR.out _ _)).mono ?_
  rintro e w1 ⟨le, rfl, hle, h1⟩
  obtain ⟨q1, a1, a2, r1, k1⟩ := h1
  have HLE := Lib.hid hle
  have B1 := Lib.hid (row_keep (row_grow (heap_alloc_new w _) ((Grows.refl _).alloc _)) k1 HL.out)
  have R1 := Lib.hid r1
  have G1 : Hid (w.grownBy w1 (some g)) := (gb_of (((Grows.refl w).alloc _).alloc _)).trans k1
  clear r1 k1 hle
  go_wp2_with fail
  refine (pick_any 8 g A n c q1 _ (by omega) (by omega) (by omega) hn R1.out).mono ?_
  rintro e w2 ⟨x, rfl, hx0, hx1, r2, k2⟩
  have B2 := Lib.hid (row_keep B1.out k2 HL.out)
  have R2 := Lib.hid r2
  have G2 : Hid (w.grownBy w2 (some g)) := G1.out.trans k2
  have O2 : Hid (RdOn g A n c p 2 w w2) := ⟨q1 + 1, by omega, by omega, r2, G2.out⟩
  have L2 := Lib.hid (show w2.heap.size ≠ g from Nat.ne_of_gt r2.lt)
  clear r2 k2 hx1
  by_cases x0 : x = 0
  · subst x0
    obtain ⟨⟨e0, e1, e2, e3, e4, e5⟩, ff⟩ := row6 B2.out
    have f0 := ff 0
    have f1 := ff 1
    have f2 := ff 2
    have f3 := ff 3
    have f4 := ff 4
    have f5 := ff 5
    clear ff
    have HF := Lib.hid (RdOn.st H0.out O2.out (Nat.le_refl _) ⟨0, le, ⟨#[]⟩, ⟨#[]⟩, ⟨#[]⟩, ⟨#[]⟩⟩)
    have HC := Lib.hid (st6_row B2.out ⟨0, le, ⟨#[]⟩, ⟨#[]⟩, ⟨#[]⟩, ⟨#[]⟩⟩)
    go_wp2
    change bodyPost _ _ _ _ _ (st6 (w2) w.heap.size 0 ⟨0, le, ⟨#[]⟩, ⟨#[]⟩, ⟨#[]⟩, ⟨#[]⟩⟩)
    clear e0 e1 e2 e3 e4 e5 f0 f1 f2 f3 f4 f5
    obtain ⟨wf, hwf⟩ : ∃ wf, st6 (w2) w.heap.size 0 ⟨0, le, ⟨#[]⟩, ⟨#[]⟩, ⟨#[]⟩, ⟨#[]⟩⟩ = wf := ⟨_, rfl⟩
    rw [hwf] at HF HC ⊢
    clear hwf
    obtain ⟨⟨e0, e1, e2, e3, e4, e5⟩, _⟩ := row6 HC.out
    refine bodyPost_ret (v := .agg #[.int .i64 0, .string le, .string ⟨#[]⟩, .string ⟨#[]⟩, .string ⟨#[]⟩, .string ⟨#[]⟩]) (by simp [results, Try.results57, go_sem, e0, e1, e2, e3, e4, e5]) rfl ?_
    exact ⟨⟨0, le, ⟨#[]⟩, ⟨#[]⟩, ⟨#[]⟩, ⟨#[]⟩⟩, rfl, ⟨⟨show (-100 : Int) ≤ 0 by omega, show (0 : Int) ≤ 100 by omega⟩, HLE.out, empty_41, empty_41, empty_41, empty_41⟩, HF.out.more (by omega)⟩
  · have d0 : (x == 0) = false := by rw [beq_eq_false_iff_ne]; exact x0
    clear x0
    by_cases x1 : x = 1
    · subst x1
      go_wp2_with fail
      refine (of_any w2.heap.size 3 _ _ _ g A n c (q1 + 1) _ (heap_alloc_new w2 _) rfl (by decide) (by decide) (by kernel_rfl) L2.out (by omega) hn (R2.out.keep ((Grows.refl _).alloc _))).mono ?_
      rintro e w3 h3
      obtain ⟨va, rfl, hva, q3, a3, b3, r3, k3⟩ := StrRet.of h3 ((Grows.refl _).alloc _)
      have Hva := Lib.hid hva
      clear h3 hva
      have O3 : Hid (RdOn g A n c p 3 w w3) := ⟨q3, by omega, by omega, r3, G2.out.trans k3⟩
      have G3 : Hid (w.grownBy w3 (some g)) := G2.out.trans k3
      have B3 := Lib.hid (row_keep B2.out k3 HL.out)
      have R3 := Lib.hid r3
      have L3 := Lib.hid (show w3.heap.size ≠ g from Nat.ne_of_gt r3.lt)
      clear r3 k3
      obtain ⟨⟨e0, e1, e2, e3, e4, e5⟩, ff⟩ := row6 B3.out
      have f0 := ff 0
      have f1 := ff 1
      have f2 := ff 2
      have f3 := ff 3
      have f4 := ff 4
      have f5 := ff 5
      clear ff
      have HF := Lib.hid (RdOn.st H0.out O3.out (Nat.le_refl _) ⟨1, le, ⟨#[]⟩, ⟨#[]⟩, va, ⟨#[]⟩⟩)
      have HC := Lib.hid (st6_row B3.out ⟨1, le, ⟨#[]⟩, ⟨#[]⟩, va, ⟨#[]⟩⟩)
      go_wp2
      change bodyPost _ _ _ _ _ (st6 (w3) w.heap.size 0 ⟨1, le, ⟨#[]⟩, ⟨#[]⟩, va, ⟨#[]⟩⟩)
      clear e0 e1 e2 e3 e4 e5 f0 f1 f2 f3 f4 f5
      obtain ⟨wf, hwf⟩ : ∃ wf, st6 (w3) w.heap.size 0 ⟨1, le, ⟨#[]⟩, ⟨#[]⟩, va, ⟨#[]⟩⟩ = wf := ⟨_, rfl⟩
      rw [hwf] at HF HC ⊢
      clear hwf
      obtain ⟨⟨e0, e1, e2, e3, e4, e5⟩, _⟩ := row6 HC.out
      refine bodyPost_ret (v := .agg #[.int .i64 1, .string le, .string ⟨#[]⟩, .string ⟨#[]⟩, .string va, .string ⟨#[]⟩]) (by simp [results, Try.results57, go_sem, e0, e1, e2, e3, e4, e5]) rfl ?_
      exact ⟨⟨1, le, ⟨#[]⟩, ⟨#[]⟩, va, ⟨#[]⟩⟩, rfl, ⟨⟨show (-100 : Int) ≤ 1 by omega, show (1 : Int) ≤ 100 by omega⟩, HLE.out, empty_41, empty_41, Hva.out, empty_41⟩, HF.out.more (by omega)⟩
    · have d1 : (x == 1) = false := by rw [beq_eq_false_iff_ne]; exact x1
      clear x1
      by_cases x2 : x = 2
      · subst x2
        go_wp2_with fail
        refine (of_any w2.heap.size 3 _ _ _ g A n c (q1 + 1) _ (heap_alloc_new w2 _) rfl (by decide) (by decide) (by kernel_rfl) L2.out (by omega) hn (R2.out.keep ((Grows.refl _).alloc _))).mono ?_
        rintro e w3 h3
        obtain ⟨na, rfl, hna, q3, a3, b3, r3, k3⟩ := StrRet.of h3 ((Grows.refl _).alloc _)
        have Hna := Lib.hid hna
        clear h3 hna
        have O3 : Hid (RdOn g A n c p 3 w w3) := ⟨q3, by omega, by omega, r3, G2.out.trans k3⟩
        have G3 : Hid (w.grownBy w3 (some g)) := G2.out.trans k3
        have B3 := Lib.hid (row_keep B2.out k3 HL.out)
        have R3 := Lib.hid r3
        have L3 := Lib.hid (show w3.heap.size ≠ g from Nat.ne_of_gt r3.lt)
        clear r3 k3
        go_wp2_with fail
        refine (of_any w3.heap.size 3 _ _ _ g A n c q3 _ (heap_alloc_new w3 _) rfl (by decide) (by decide) (by kernel_rfl) L3.out (by omega) hn (R3.out.keep ((Grows.refl _).alloc _))).mono ?_
        rintro e w4 h4
        obtain ⟨ta, rfl, hta, q4, a4, b4, r4, k4⟩ := StrRet.of h4 ((Grows.refl _).alloc _)
        have Hta := Lib.hid hta
        clear h4 hta
        have O4 : Hid (RdOn g A n c p 4 w w4) := ⟨q4, by omega, by omega, r4, G3.out.trans k4⟩
        have G4 : Hid (w.grownBy w4 (some g)) := G3.out.trans k4
        have B4 := Lib.hid (row_keep B3.out k4 HL.out)
        have R4 := Lib.hid r4
        have L4 := Lib.hid (show w4.heap.size ≠ g from Nat.ne_of_gt r4.lt)
        clear r4 k4
        obtain ⟨⟨e0, e1, e2, e3, e4, e5⟩, ff⟩ := row6 B4.out
        have f0 := ff 0
        have f1 := ff 1
        have f2 := ff 2
        have f3 := ff 3
        have f4 := ff 4
        have f5 := ff 5
        clear ff
        have HF := Lib.hid (RdOn.st H0.out O4.out (Nat.le_refl _) ⟨2, le, na, ⟨#[]⟩, ⟨#[]⟩, ta⟩)
        have HC := Lib.hid (st6_row B4.out ⟨2, le, na, ⟨#[]⟩, ⟨#[]⟩, ta⟩)
        go_wp2
        change bodyPost _ _ _ _ _ (st6 (w4) w.heap.size 0 ⟨2, le, na, ⟨#[]⟩, ⟨#[]⟩, ta⟩)
        clear e0 e1 e2 e3 e4 e5 f0 f1 f2 f3 f4 f5
        obtain ⟨wf, hwf⟩ : ∃ wf, st6 (w4) w.heap.size 0 ⟨2, le, na, ⟨#[]⟩, ⟨#[]⟩, ta⟩ = wf := ⟨_, rfl⟩
        rw [hwf] at HF HC ⊢
        clear hwf
        obtain ⟨⟨e0, e1, e2, e3, e4, e5⟩, _⟩ := row6 HC.out
        refine bodyPost_ret (v := .agg #[.int .i64 2, .string le, .string na, .string ⟨#[]⟩, .string ⟨#[]⟩, .string ta]) (by simp [results, Try.results57, go_sem, e0, e1, e2, e3, e4, e5]) rfl ?_
        exact ⟨⟨2, le, na, ⟨#[]⟩, ⟨#[]⟩, ta⟩, rfl, ⟨⟨show (-100 : Int) ≤ 2 by omega, show (2 : Int) ≤ 100 by omega⟩, HLE.out, Hna.out, empty_41, empty_41, Hta.out⟩, HF.out.more (by omega)⟩
      · have d2 : (x == 2) = false := by rw [beq_eq_false_iff_ne]; exact x2
        clear x2
        by_cases x3 : x = 3
        · subst x3
          go_wp2_with fail
          refine (of_any w2.heap.size 3 _ _ _ g A n c (q1 + 1) _ (heap_alloc_new w2 _) rfl (by decide) (by decide) (by kernel_rfl) L2.out (by omega) hn (R2.out.keep ((Grows.refl _).alloc _))).mono ?_
          rintro e w3 h3
          obtain ⟨na, rfl, hna, q3, a3, b3, r3, k3⟩ := StrRet.of h3 ((Grows.refl _).alloc _)
          have Hna := Lib.hid hna
          clear h3 hna
          have O3 : Hid (RdOn g A n c p 3 w w3) := ⟨q3, by omega, by omega, r3, G2.out.trans k3⟩
          have G3 : Hid (w.grownBy w3 (some g)) := G2.out.trans k3
          have B3 := Lib.hid (row_keep B2.out k3 HL.out)
          have R3 := Lib.hid r3
          have L3 := Lib.hid (show w3.heap.size ≠ g from Nat.ne_of_gt r3.lt)
          clear r3 k3
          go_wp2_with fail
          refine (of_any w3.heap.size 3 _ _ _ g A n c q3 _ (heap_alloc_new w3 _) rfl (by decide) (by decide) (by kernel_rfl) L3.out (by omega) hn (R3.out.keep ((Grows.refl _).alloc _))).mono ?_
          rintro e w4 h4
          obtain ⟨ta, rfl, hta, q4, a4, b4, r4, k4⟩ := StrRet.of h4 ((Grows.refl _).alloc _)
          have Hta := Lib.hid hta
          clear h4 hta
          have O4 : Hid (RdOn g A n c p 4 w w4) := ⟨q4, by omega, by omega, r4, G3.out.trans k4⟩
          have G4 : Hid (w.grownBy w4 (some g)) := G3.out.trans k4
          have B4 := Lib.hid (row_keep B3.out k4 HL.out)
          have R4 := Lib.hid r4
          have L4 := Lib.hid (show w4.heap.size ≠ g from Nat.ne_of_gt r4.lt)
          clear r4 k4
          obtain ⟨⟨e0, e1, e2, e3, e4, e5⟩, ff⟩ := row6 B4.out
          have f0 := ff 0
          have f1 := ff 1
          have f2 := ff 2
          have f3 := ff 3
          have f4 := ff 4
          have f5 := ff 5
          clear ff
          have HF := Lib.hid (RdOn.st H0.out O4.out (Nat.le_refl _) ⟨2, le, na, ⟨#[]⟩, ⟨#[]⟩, ta⟩)
          have HC := Lib.hid (st6_row B4.out ⟨2, le, na, ⟨#[]⟩, ⟨#[]⟩, ta⟩)
          go_wp2
          change bodyPost _ _ _ _ _ (st6 (w4) w.heap.size 0 ⟨2, le, na, ⟨#[]⟩, ⟨#[]⟩, ta⟩)
          clear e0 e1 e2 e3 e4 e5 f0 f1 f2 f3 f4 f5
          obtain ⟨wf, hwf⟩ : ∃ wf, st6 (w4) w.heap.size 0 ⟨2, le, na, ⟨#[]⟩, ⟨#[]⟩, ta⟩ = wf := ⟨_, rfl⟩
          rw [hwf] at HF HC ⊢
          clear hwf
          obtain ⟨⟨e0, e1, e2, e3, e4, e5⟩, _⟩ := row6 HC.out
          refine bodyPost_ret (v := .agg #[.int .i64 2, .string le, .string na, .string ⟨#[]⟩, .string ⟨#[]⟩, .string ta]) (by simp [results, Try.results57, go_sem, e0, e1, e2, e3, e4, e5]) rfl ?_
          exact ⟨⟨2, le, na, ⟨#[]⟩, ⟨#[]⟩, ta⟩, rfl, ⟨⟨show (-100 : Int) ≤ 2 by omega, show (2 : Int) ≤ 100 by omega⟩, HLE.out, Hna.out, empty_41, empty_41, Hta.out⟩, HF.out.more (by omega)⟩
        · have d3 : (x == 3) = false := by rw [beq_eq_false_iff_ne]; exact x3
          clear x3
          go_wp2_with fail
          refine (aKey_any g A n c (q1 + 1) _ (by omega) hn R2.out).mono ?_
          rintro e w3 ⟨na, rfl, hna, q3, a3, b3, r3, k3⟩
          have Hna := Lib.hid hna
          clear hna
          have O3 : Hid (RdOn g A n c p 3 w w3) := ⟨q3, by omega, by omega, r3, G2.out.trans k3⟩
          have G3 : Hid (w.grownBy w3 (some g)) := G2.out.trans k3
          have B3 := Lib.hid (row_keep B2.out k3 HL.out)
          have R3 := Lib.hid r3
          have L3 := Lib.hid (show w3.heap.size ≠ g from Nat.ne_of_gt r3.lt)
          clear r3 k3
          go_wp2_with fail
          refine (of_any w3.heap.size 4 _ _ _ g A n c q3 _ (heap_alloc_new w3 _) rfl (by decide) (by decide) (by kernel_rfl) L3.out (by omega) hn (R3.out.keep ((Grows.refl _).alloc _))).mono ?_
          rintro e w4 h4
          obtain ⟨se, rfl, hse, q4, a4, b4, r4, k4⟩ := StrRet.of h4 ((Grows.refl _).alloc _)
          have Hse := Lib.hid hse
          clear h4 hse
          have O4 : Hid (RdOn g A n c p 4 w w4) := ⟨q4, by omega, by omega, r4, G3.out.trans k4⟩
          have G4 : Hid (w.grownBy w4 (some g)) := G3.out.trans k4
          have B4 := Lib.hid (row_keep B3.out k4 HL.out)
          have R4 := Lib.hid r4
          have L4 := Lib.hid (show w4.heap.size ≠ g from Nat.ne_of_gt r4.lt)
          clear r4 k4
          go_wp2_with fail
          refine (aValue_any g A n c q4 _ (by omega) hn R4.out).mono ?_
          rintro e w5 ⟨va, rfl, hva, q5, a5, b5, r5, k5⟩
          have Hva := Lib.hid hva
          clear hva
          have O5 : Hid (RdOn g A n c p 5 w w5) := ⟨q5, by omega, by omega, r5, G4.out.trans k5⟩
          have G5 : Hid (w.grownBy w5 (some g)) := G4.out.trans k5
          have B5 := Lib.hid (row_keep B4.out k5 HL.out)
          have R5 := Lib.hid r5
          have L5 := Lib.hid (show w5.heap.size ≠ g from Nat.ne_of_gt r5.lt)
          clear r5 k5
          have T5 := Lib.hid (heap_alloc_new w5 (.cells #[.int .i64 3, .string le, .string na, .string se, .string va, .string ⟨#[]⟩] 39))
          have B6 := Lib.hid (row_grow B5.out ((Grows.refl w5).alloc (.cells #[.int .i64 3, .string le, .string na, .string se, .string va, .string ⟨#[]⟩] 39)))
          have R6 := Lib.hid (R5.out.keep ((Grows.refl w5).alloc (.cells #[.int .i64 3, .string le, .string na, .string se, .string va, .string ⟨#[]⟩] 39)))
          have G6 : Hid (w.grownBy (w5.alloc (.cells #[.int .i64 3, .string le, .string na, .string se, .string va, .string ⟨#[]⟩] 39)) (some g)) := gb_grows G5.out ((Grows.refl w5).alloc _)
          have S6 : Hid (w.heap.size < w5.heap.size) := by have := G1.out.size; have h9 := B5.out; rcases Nat.lt_or_ge w.heap.size w5.heap.size with hlt | hge; exact hlt; rw [Array.getElem?_eq_none hge] at h9; cases h9
          have z6 : (w5.alloc (.cells #[.int .i64 3, .string le, .string na, .string se, .string va, .string ⟨#[]⟩] 39)).heap.size = w5.heap.size + 1 := World.size_alloc _ _
          have L6 : Hid ((w5.alloc (.cells #[.int .i64 3, .string le, .string na, .string se, .string va, .string ⟨#[]⟩] 39)).heap.size ≠ g) := Nat.ne_of_gt R6.out.lt
          obtain ⟨w6, hw6⟩ : ∃ w6, w5.alloc (.cells #[.int .i64 3, .string le, .string na, .string se, .string va, .string ⟨#[]⟩] 39) = w6 := ⟨_, rfl⟩
          have HW6 := Lib.hid hw6
          rw [hw6] at T5 B6 R6 G6 L6
          clear hw6 z6
          go_upto_region 11 with (fail)
          rw [HW6.out]
          have O6 : Hid (RdOn g A n c p 5 w w6) := ⟨q5, by omega, by omega, R6.out, G6.out⟩
          obtain ⟨t0, ht0⟩ : ∃ t0, w5.heap.size = t0 := ⟨_, rfl⟩
          have HT0 := Lib.hid (Nat.ne_of_gt (show w.heap.size < w5.heap.size from S6.out))
          have HTg : Hid (w5.heap.size ≠ g) := L5.out
          have TS : Hid (w.heap.size ≤ w5.heap.size) := Nat.le_of_lt S6.out
          rw [ht0] at T5 HT0 HTg TS ⊢
          have TC := (row6 T5.out).1
          obtain ⟨t_0, t_1, t_2, t_3, t_4, t_5⟩ := TC
          clear ht0 HW6
          by_cases hv : va.toList.isEmpty = true
          · have hv2 : va.toList = [] := by simpa using hv
            obtain ⟨⟨e0, e1, e2, e3, e4, e5⟩, ff⟩ := row6 B6.out
            have f0 := ff 0
            have f1 := ff 1
            have f2 := ff 2
            have f3 := ff 3
            have f4 := ff 4
            have f5 := ff 5
            clear ff
            have HF := Lib.hid (RdOn.st H0.out O6.out (Nat.le_refl _) ⟨3, le, na, se, va, ⟨#[]⟩⟩)
            have HC := Lib.hid (st6_row B6.out ⟨3, le, na, se, va, ⟨#[]⟩⟩)
            go_wp2
            change bodyPost _ _ _ _ _ (st6 (w6) w.heap.size 0 ⟨3, le, na, se, va, ⟨#[]⟩⟩)
            clear e0 e1 e2 e3 e4 e5 f0 f1 f2 f3 f4 f5
            obtain ⟨wf, hwf⟩ : ∃ wf, st6 (w6) w.heap.size 0 ⟨3, le, na, se, va, ⟨#[]⟩⟩ = wf := ⟨_, rfl⟩
            rw [hwf] at HF HC ⊢
            clear hwf
            obtain ⟨⟨e0, e1, e2, e3, e4, e5⟩, _⟩ := row6 HC.out
            refine bodyPost_ret (v := .agg #[.int .i64 3, .string le, .string na, .string se, .string va, .string ⟨#[]⟩]) (by simp [results, Try.results57, go_sem, e0, e1, e2, e3, e4, e5]) rfl ?_
            exact ⟨⟨3, le, na, se, va, ⟨#[]⟩⟩, rfl, ⟨⟨show (-100 : Int) ≤ 3 by omega, show (3 : Int) ≤ 100 by omega⟩, HLE.out, Hna.out, Hse.out, Hva.out, empty_41⟩, HF.out.more (by omega)⟩
          · have hv1 : va.toList.isEmpty = false := by simpa using hv
            have hv2 : ¬ va.toList = [] := by intro h; rw [h] at hv; simp at hv
            clear hv
            go_wp2_with fail
            refine (of_any w6.heap.size 3 _ _ _ g A n c q5 _ (heap_alloc_new w6 _) rfl (by decide) (by decide) (by kernel_rfl) L6.out (by omega) hn (R6.out.keep ((Grows.refl _).alloc _))).mono ?_
            rintro e w7 h7
            obtain ⟨ta, rfl, hta, q7, a7, b7, r7, k7⟩ := StrRet.of h7 ((Grows.refl _).alloc _)
            have Hta := Lib.hid hta
            clear h7 hta t_0 t_1 t_2 t_3 t_4 t_5
            have T7 := Lib.hid (row_keep T5.out k7 HTg.out)
            have B7 := Lib.hid (row_keep B6.out k7 HL.out)
            have G7 : Hid (w.grownBy w7 (some g)) := G6.out.trans k7
            have R7 := Lib.hid r7
            clear r7 k7
            have t7c := (row6 T7.out).1.2.2.2.2.2
            have t7f := (row6 T7.out).2 5
            have T8 : Hid ((w7.setCell ⟨t0, 5, none⟩ (.string ta)).heap[t0]? = some (.cells #[.int .i64 3, .string le, .string na, .string se, .string va, .string ta] 39 (0, 0))) := by unfold Hid; have := T7.out; simp [World.setCell, Array.getElem?_modify, this]
            have HT0' : Hid (w.heap.size ≤ t0) := TS.out
            have B8 : Hid ((w7.setCell ⟨t0, 5, none⟩ (.string ta)).heap[w.heap.size]? = _) := (Below.heap_setCell w7 ⟨t0, 5, none⟩ (.string ta) w.heap.size (fun e => HT0.out (by first | exact e.symm | exact e))).trans B7.out
            have R8 := Lib.hid (H0.out.setNew R7.out HT0'.out 5 (.string ta))
            have G8 := Lib.hid (gb_new G7.out HT0'.out 5 (.string ta))
            go_upto_region 13 with (fail)
            obtain ⟨w8, hw8⟩ : ∃ w8, w7.setCell ⟨t0, 5, none⟩ (.string ta) = w8 := ⟨_, rfl⟩
            rw [hw8] at T8 B8 R8 G8 ⊢
            clear hw8 t7c t7f
            have O8 : Hid (RdOn g A n c p 6 w w8) := ⟨q7, by omega, by omega, R8.out, G8.out⟩
            obtain ⟨t_0, t_1, t_2, t_3, t_4, t_5⟩ := (row6 T8.out).1
            obtain ⟨⟨e0, e1, e2, e3, e4, e5⟩, ff⟩ := row6 B8.out
            have f0 := ff 0
            have f1 := ff 1
            have f2 := ff 2
            have f3 := ff 3
            have f4 := ff 4
            have f5 := ff 5
            clear ff
            have HF := Lib.hid (RdOn.st H0.out O8.out (Nat.le_refl _) ⟨3, le, na, se, va, ta⟩)
            have HC := Lib.hid (st6_row B8.out ⟨3, le, na, se, va, ta⟩)
            go_wp2
            change bodyPost _ _ _ _ _ (st6 (w8) w.heap.size 0 ⟨3, le, na, se, va, ta⟩)
            clear e0 e1 e2 e3 e4 e5 f0 f1 f2 f3 f4 f5
            obtain ⟨wf, hwf⟩ : ∃ wf, st6 (w8) w.heap.size 0 ⟨3, le, na, se, va, ta⟩ = wf := ⟨_, rfl⟩
            rw [hwf] at HF HC ⊢
            clear hwf
            obtain ⟨⟨e0, e1, e2, e3, e4, e5⟩, _⟩ := row6 HC.out
            refine bodyPost_ret (v := .agg #[.int .i64 3, .string le, .string na, .string se, .string va, .string ta]) (by simp [results, Try.results57, go_sem, e0, e1, e2, e3, e4, e5]) rfl ?_
            exact ⟨⟨3, le, na, se, va, ta⟩, rfl, ⟨⟨show (-100 : Int) ≤ 3 by omega, show (3 : Int) ≤ 100 by omega⟩, HLE.out, Hna.out, Hse.out, Hva.out, Hta.out⟩, HF.out.more (by omega)⟩
end Go.Proofs.Ytdedidcjbocicaa
