/-
  What the drawn laws' generator makes of files: goodFile, someFile. Conditions: the reader's place is at most 50000.
-/
import Derived.Test.YtdedidcjbocicaaGLine
import Derived.Test.YtdedidcjbocicaaGrow
import Derived.Test.YtdedidcjbocicaaRegM
import Derived.StillTailTactics
namespace Go.Proofs.Ytdedidcjbocicaa
open Go.RowKit

theorem alloc_new3 (w : World) (o o2 o3 : Obj) : (((w.alloc o).alloc o2).alloc o3).heap[w.heap.size + 1 + 1]? = some o3 := by
  have := heap_alloc_new ((w.alloc o).alloc o2) o3
  rwa [World.size_alloc, World.size_alloc] at this
/-- what a row that is new turns -/
theorem gb_row {a b c : World} {g : Nat} {row : Option Nat} (h : a.grownBy b (some g)) (k : b.grownBy c row) (hr : ∀ i, row = some i → a.heap.size ≤ i) : a.grownBy c (some g) :=
  ⟨k.os.trans h.os, k.tape.trans h.tape, k.output.trans h.output, Nat.le_trans h.size k.size, fun i hi hne => (k.block i (Nat.lt_of_lt_of_le hi h.size) (fun e => by
    have := hr i e.symm
    omega)).trans (h.block i hi hne)⟩
theorem Rd.newRow {w0 w w' : World} {g : Nat} {A : Option Addr} {n c p0 p : Nat} (h0 : Rd w0 g A n c p0) (h : Rd w g A n c p) {row : Option Nat} (k : w.grownBy w' row) (hr : ∀ i, row = some i → w0.heap.size ≤ i) : Rd w' g A n c p := by
  have hg := h0.lt
  refine ⟨(k.block g h.lt (fun e => by have := hr g e.symm; omega)).trans h.blk, fun hn => ?_⟩
  obtain ⟨b1, o1, e1, _, hb1, _⟩ := h0.by_ hn
  obtain ⟨b2, o2, e2, hne, hb2, hc⟩ := h.by_ hn
  rw [e1] at e2
  injection e2 with e2
  injection e2 with e2 e3
  subst e2; subst e3
  refine ⟨b1, o1, e1, hne, Nat.lt_of_lt_of_le hb2 k.size, fun i hi => ?_⟩
  obtain ⟨x, h1, h2, h3⟩ := hc i hi
  exact ⟨x, h1, h2, (k.cell_far ⟨b1, o1 + i, none⟩ hb2 (fun e => by have := hr b1 e.symm; omega)).trans h3⟩
/-- all lines have short texts -/
def ShortL (K : List Ln) : Prop := ∀ l ∈ K, l.short
theorem ShortL.snoc {K : List Ln} {l : Ln} (h : ShortL K) (hl : l.short) : ShortL (K ++ [l]) := by
  intro x hx
  rcases List.mem_append.1 hx with h1 | h1
  · exact h x h1
  · rw [List.mem_singleton] at h1; subst h1; exact hl
/-- a call's end: a file of at most 100 lines of short texts, at most d places further -/
def FileGen (d g : Nat) (A : Option Addr) (n c p : Nat) (w : World) (e : Ending) (w' : World) : Prop :=
  ∃ (v : Value) (K : List Ln), e = .returned (.agg #[v]) ∧ ShortL K ∧ K.length ≤ 100 ∧ OwnL w' w.heap.size v K ∧ RdOn g A n c p d w w'

set_option maxRecDepth 100000 in
set_option maxHeartbeats 4000000 in
theorem goodFile_any (g : Nat) (A : Option Addr) (n c p : Nat) (w : World) (hp : p ≤ 60000) (hn : n ≤ 2000) (h : Rd w g A n c p) :
    Calls Try.prog 44 #[.pointer (some ⟨g, 0, none⟩)] w (FileGen 801 g A n c p w) := by
  have H0 := Lib.hid h
  have HR := Lib.hid (fun o o2 o3 => h.keep ((((Grows.refl w).alloc o).alloc o2).alloc o3))
  have HL := Lib.hid (show w.heap.size ≠ g from Nat.ne_of_gt h.lt)
  have HL2 := Lib.hid (show w.heap.size + 1 + 1 ≠ g from by have := h.lt; omega)
  have hgl := h.lt
  clear h
  go_enter Try.func44, Try.ntmps44
  go_wp2_with fail
  refine (one_any (w.heap.size + 1 + 1) 7 _ _ _ g A n c p _ (alloc_new3 w _ _ _) rfl (by decide) (by decide) (by kernel_rfl) HL2.out (by omega) hn (HR.out _ _ _)).mono ?_
  rintro e w1 ⟨x, rfl, ⟨hx0, hx1⟩, q1, a1, b1, r1, k1⟩
  have G1 : Hid (w.grownBy w1 (some g)) := (gb_of ((((Grows.refl w).alloc _).alloc _).alloc _)).trans k1
  have R1 := Lib.hid r1
  have X1 : Hid (Box w1 (w.heap.size + 1) (.slice none 0 0) 25) := row_keep (row_grow (alloc_new2 w _ _) ((Grows.refl _).alloc _)) k1 (by omega)
  have X0 : Hid (Box w1 w.heap.size (.slice none 0 0) 25) := row_keep (row_grow (row_grow (heap_alloc_new w _) ((Grows.refl _).alloc _)) ((Grows.refl _).alloc _)) k1 (by omega)
  have S1 : w.heap.size + 1 < w1.heap.size := X1.out.lt
  clear r1 k1
  go_wp2_with fail
  go_loopw [4] (fun i wr => ∃ (x : Int) (K : List Ln) (v : Value) (q : Nat), i = .int .i64 x ∧ -101 ≤ x ∧ x ≤ 100 ∧ ((K.length : Int) + x ≤ 100 ∧ K.length ≤ 100) ∧ q ≤ p + 1 + 8 * K.length ∧ p ≤ q ∧ Hid (ShortL K) ∧ Hid (OwnL wr w1.heap.size v K) ∧ Hid (Box wr (w.heap.size + 1) v 25) ∧ Hid (Box wr w.heap.size (.slice none 0 0) 25) ∧ Hid (Rd wr g A n c q) ∧ Hid (w.grownBy wr (some g)) ∧ w1.heap.size ≤ wr.heap.size) (fun i _ => (intOf i).toNat)
  case atStart => exact ⟨x, [], _, q1, rfl, by omega, by omega, ⟨by simp; omega, by simp⟩, by simp; omega, by omega, (fun l h => by cases h), OwnL.nil _ _, X1.out, X0.out, R1.out, G1.out, Nat.le_refl _⟩
  case round =>
    obtain ⟨y, K, v, q, rfl, hy0, hy1, ⟨hK, hK1⟩, hq, hq0, HS, HO, HX, HX0, HRd, HG, hsz⟩ := hrel
    have hbo := HX.out.cell
    have hbf := HX.out.free
    have HNB : Hid (v.ownBlock ≠ some (w.heap.size + 1)) := fun e => by have := (HO.out.lt _ e).1; omega
    by_cases hlt : 0 < y
    · go_wp2_with fail
      refine wp_region_M 5 (CellsAre [(⟨w.heap.size + 1, 0, none⟩, v)]) (by kernel_rfl) (by kernel_rfl) ⟨hbo, trivial⟩ (fun hB hS => ?_)
      refine wpAnyM_take (i := 0) (v := ?vf0) hB rfl (by kernel_rfl) (fun _ _ _ h => h) (by kernel_rfl) ?yf0 hS ?nf0
      case yf0 => (intro w9 hSw; obtain ⟨s1, _⟩ := hSw; go_simp; try with_reducible rfl)
      refine wpAnyM_take (i := 1) (v := ?vf1) hB rfl (by kernel_rfl) (fun _ _ _ h => h) (by kernel_rfl) ?yf1 hS ?nf1
      case yf1 => (intro w9 hSw; obtain ⟨s1, _⟩ := hSw; go_simp; try with_reducible rfl)
      refine wpAnyM_take (i := 2) (v := ?vf2) hB rfl (by kernel_rfl) (fun _ _ _ h => h) (by kernel_rfl) ?yf2 hS ?nf2
      case yf2 => (intro w9 hSw; obtain ⟨s1, _⟩ := hSw; go_simp; try with_reducible rfl)
      refine wpAnyM_one (i := 3) rfl (by kernel_rfl) rfl ?_
      clear hS
      go_wp2_with fail
      refine (aLine_any g A n c q _ (by omega) hn (HRd.out.keep (Grows.refl wr).drew)).mono ?_
      rintro e w5 ⟨l, rfl, hl, q5, a5, b5, r5, k5⟩
      have K5 : Hid (wr.grownBy w5 (some g)) := (gb_of (Grows.refl wr).drew).trans k5
      have HL5 := Lib.hid hl
      have R5 := Lib.hid r5
      have X5 := Lib.hid (HX.out.far K5.out (by intro e; injection e with e; omega))
      have Z5 := Lib.hid (HX0.out.far K5.out (by intro e; injection e with e; omega))
      have O5 := Lib.hid (HO.out.far K5.out (fun k hk e => by injection e with e; have := (HO.out.lt k hk).1; omega))
      have G5 : Hid (w.grownBy w5 (some g)) := HG.out.trans K5.out
      have hsz5 := K5.out.size
      clear hl r5 k5
      go_wp2_with fail
      refine ⟨⟨X5.out.cell, trivial⟩, ?_⟩
      refine wpAnyM_one (i := 4) rfl (by kernel_rfl) rfl ?_
      go_wp2_with fail
      refine ⟨⟨(X5.out.keep ((Grows.refl _).alloc _)).cell, trivial⟩, ?_⟩
      refine wpAnyM_tail (by kernel_rfl) ?_
      clear hB hbo hbf
      go_wp2_with (at_builtin; refine appLs rfl _ _ rfl w1.heap.size v K rfl (O5.out.keep ((Grows.refl _).alloc _)) ⟨w5.heap.size, 0, none⟩ 1 1 [l] rfl rfl (by omega) (one_news _ _ _) (by omega) (by omega) (Nat.le_trans hsz (Nat.le_trans hsz5 (by simp))) ?_)
      intro v' w6 HO6 HGB HNE
      have G6' : Hid (w5.grownBy w6 v.ownBlock) := (gb_of2 ((Grows.refl w5).alloc _) _).trans HGB.out
      obtain ⟨A8, n8, c8, rfl⟩ := HO6.out.form3
      have X6 := Lib.hid (X5.out.far G6'.out HNB.out)
      have Z6 := Lib.hid (Z5.out.far G6'.out (fun e => by have := (HO.out.lt _ e).1; omega))
      have hx6 := X6.out.cell
      have hf6 := X6.out.free
      have hrow : ∀ i, v.ownBlock = some i → w.heap.size ≤ i := fun i hi => by have := (HO.out.lt i hi).1; omega
      have R6 := Lib.hid (H0.out.newRow R5.out G6'.out hrow)
      have G6 : Hid (w.grownBy w6 (some g)) := gb_row G5.out G6'.out hrow
      have hsz6 := G6'.out.size
      have HN6 : Hid ((Value.slice A8 n8 c8).ownBlock ≠ some (w.heap.size + 1)) := fun e => by have := (HO6.out.lt _ e).1; omega
      have HKs := Lib.hid (HS.out.snoc HL5.out)
      clear HGB HNE hrow
      go_wp2
      go_roundw
      case rel => exact ⟨y - 1, K ++ [l], _, q5, by go_num, by omega, by omega, ⟨by simp; omega, by simp; omega⟩, by simp; omega, by omega, HKs.out, HO6.out.setFar HN6.out _, X6.out.set_ _, Z6.out.far (row := some (w.heap.size + 1)) (gb_set (World.grownBy.refl _ _) _ _) (by intro e; injection e with e; omega), H0.out.setNew R6.out (by omega) _ _, gb_new G6.out (by omega) _ _, by simp [World.setCell]; omega⟩
      case measure => simp [intOf]; omega
    · have HON : Hid (RdOn g A n c p 801 w wr) := ⟨q, hq0, by omega, HRd.out, HG.out⟩
      obtain ⟨A9, n9, c9, rfl⟩ := HO.out.form3
      have h0 := HX0.out.cell
      have h0f := HX0.out.free
      have HZ : Hid (Box (wr.setCell ⟨w.heap.size, 0, none⟩ (.slice A9 n9 c9)) w.heap.size (.slice A9 n9 c9) 25) := HX0.out.set_ _
      have HN9 : Hid ((Value.slice A9 n9 c9).ownBlock ≠ some w.heap.size) := fun e => by have := (HO.out.lt _ e).1; omega
      have HOF := Lib.hid ((HO.out.setFar (i := 0) HN9.out (.slice A9 n9 c9)).less (show w.heap.size ≤ w1.heap.size by omega))
      have HRF : Hid (RdOn g A n c p 801 w (wr.setCell ⟨w.heap.size, 0, none⟩ (.slice A9 n9 c9))) := ⟨q, hq0, by omega, H0.out.setNew HRd.out (Nat.le_refl _) _ _, gb_new HG.out (Nat.le_refl _) _ _⟩
      go_wp2
      obtain ⟨wf, hwf⟩ : ∃ wf, wr.setCell ⟨w.heap.size, 0, none⟩ (.slice A9 n9 c9) = wf := ⟨_, rfl⟩
      rw [hwf] at HZ HOF HRF ⊢
      clear hwf
      have hz := HZ.out.cell
      refine bodyPost_ret (v := .agg #[.slice A9 n9 c9]) (by simp [results, Try.results44, go_sem, hz]) rfl ?_
      exact ⟨_, K, rfl, HS.out, hK1, HOF.out, HRF.out⟩
end Go.Proofs.Ytdedidcjbocicaa
