/-
  The law's own marks on files: copies that are known to be new, markLineS, markFile, heldStringS. Condition: at most 1048576 lines.
-/
import Derived.Test.YteifcogfnpeahaaMark
namespace Go.Proofs.Yteifcogfnpeahaa
open Go.RowKit

set_option maxRecDepth 100000 in
set_option maxHeartbeats 1000000 in
theorem toLineS_own (A : Option Addr) (c : Nat) (ls : List Ln) (w : World) (hn : ls.length ≤ 1048576) (hA : LnsAt w A ls) :
    Calls Try.prog 82 #[.slice A ls.length c] w fun e w' => e = .returned (.slice (some ⟨w.heap.size, 0, none⟩) ls.length ls.length) ∧ LnsAt w' (some ⟨w.heap.size, 0, none⟩) ls ∧ Own6 w' w.heap.size ls.length ∧ Grows w w' := by
  have HA := Lib.hid hA
  clear hA
  obtain ⟨n, hnn⟩ : ∃ n, ls.length = n := ⟨_, rfl⟩
  rw [hnn] at hn
  rw [hnn]
  have HN := Lib.hid hnn
  clear hnn
  obtain ⟨i0, hi, hz0, hz1, hz2⟩ := info_parts infoLine
  have hmk := fun W => run_make_rowN (P := Try.prog) 23 43 i0 _ Try.underlying23 hi hz0 .i64 .i64 n n (Nat.le_refl _) (by rw [hz2]; omega) (by omega) W
  rw [hz1] at hmk
  clear hi hz0 hz1 hz2
  obtain ⟨M, hM⟩ : ∃ M, madeCells Ln.zero.agg.cells (n * 6) = M := ⟨_, rfl⟩
  rw [hM] at hmk
  have HO : Hid (Own6 (w.alloc (.cells M 43)) w.heap.size n) := by rw [← hM]; exact Own6.new w n
  clear hM
  go_enter Try.func82, Try.ntmps82
  go_wp2
  go_loopw [4] (fun i wr => ∃ (k : Nat), k ≤ n ∧ i = .int .i64 k ∧ Grows w wr ∧ Own6 wr w.heap.size n ∧ ∀ j (h : j < ls.length), j < k → LnAt wr w.heap.size (j * 6) ls[j]) (fun i _ => n - (intOf i).toNat)
  case atStart => exact ⟨0, Nat.zero_le _, rfl, (Grows.refl _).alloc _, HO.out, fun j _ h => absurd h (Nat.not_lt_zero _)⟩
  case round =>
    obtain ⟨k, hk, rfl, hg, ho, hd⟩ := hrel
    have HG := Lib.hid hg
    have HD := Lib.hid hd
    have HO2 := Lib.hid ho
    clear hg hd ho
    by_cases hlt : k < n
    · obtain ⟨b, o, rfl, hb, hc⟩ := HA.out (by rw [HN.out]; omega)
      have hk2 : k < ls.length := by rw [HN.out]; exact hlt
      obtain ⟨l, hl⟩ : ∃ l, ls[k] = l := ⟨_, rfl⟩
      have hat := (hc k hk2).keep hb HG.out
      rw [hl] at hat
      obtain ⟨c0, c1, c2, c3, c4, c5⟩ := hat
      have HS := Lib.hid (fun w => toLine_any l w)
      have HK := Lib.hid hl
      clear hl hc
      unfold Ln.agg at HS
      go_wp2_with fail
      refine (HS.out _).mono ?_
      rintro e w1 ⟨rfl, hg1⟩
      have HO3 := Lib.hid (HO2.out.keep hg1)
      obtain ⟨v0, e0⟩ := HO3.out.cell (j := k * 6) (by omega)
      obtain ⟨v1, e1⟩ := HO3.out.cell (j := k * 6 + 1) (by omega)
      obtain ⟨v2, e2⟩ := HO3.out.cell (j := k * 6 + 2) (by omega)
      obtain ⟨v3, e3⟩ := HO3.out.cell (j := k * 6 + 3) (by omega)
      obtain ⟨v4, e4⟩ := HO3.out.cell (j := k * 6 + 4) (by omega)
      obtain ⟨v5, e5⟩ := HO3.out.cell (j := k * 6 + 5) (by omega)
      have f0 := HO3.out.frozen (k * 6)
      have f1 := HO3.out.frozen (k * 6 + 1)
      have f2 := HO3.out.frozen (k * 6 + 2)
      have f3 := HO3.out.frozen (k * 6 + 3)
      have f4 := HO3.out.frozen (k * 6 + 4)
      have f5 := HO3.out.frozen (k * 6 + 5)
      have HG1 := Lib.hid hg1
      clear hg1
      go_wp2_with fail
      go_roundw
      case rel =>
        refine ⟨k + 1, by omega, by go_num, ?_, ?_, ?_⟩
        · exact (HG.out.trans HG1.out).st (Nat.le_refl _) (k * 6) l
        · exact HO3.out.st (k * 6) l
        · intro j hj hjk
          by_cases e : j = k
          · subst e
            rw [HK.out]
            exact st6_at HO3.out (by omega) l
          · exact st6_keep HO3.out (by omega) l (by omega) ((HD.out j hj (by omega)).keep HO2.out.lt HG1.out)
      case measure => simp [intOf]; omega
    · obtain rfl : k = n := by omega
      go_wp2
      go_ret
      refine ⟨rfl, fun _ => ⟨w.heap.size, 0, rfl, HO2.out.lt, fun j hj => ?_⟩, HO2.out, HG.out⟩
      have := HD.out j hj (by rw [← HN.out]; exact hj)
      rwa [Nat.zero_add]


theorem Own6.other {w : World} {g n : Nat} (h : Own6 w g n) {p : Addr} (hp : g ≠ p.block) (u : Value) : Own6 (w.setCell p u) g n := by
  obtain ⟨cs, h, hs⟩ := h
  exact ⟨cs, (Below.heap_setCell w p u g hp).trans h, hs⟩
/-- a call's end: it returns a file whose lines are ls, in a row that is new -/
def FileOwn (ls : List Ln) (w : World) (e : Ending) (w' : World) : Prop :=
  ∃ g : Nat, e = .returned (.agg #[.slice (some ⟨g, 0, none⟩) ls.length ls.length]) ∧ LnsAt w' (some ⟨g, 0, none⟩) ls ∧ Own6 w' g ls.length ∧ w.heap.size ≤ g ∧ Grows w w'

set_option maxRecDepth 100000 in
set_option maxHeartbeats 1000000 in
theorem toFile_own (A : Option Addr) (c : Nat) (ls : List Ln) (w : World) (hn : ls.length ≤ 1048576) (hA : LnsAt w A ls) :
    Calls Try.prog 43 #[.agg #[.slice A ls.length c]] w (FileOwn ls w) := by
  have HS := Lib.hid (fun w1 (g : Grows w w1) => toLineS_own A c ls w1 hn (hA.keep g))
  clear hA hn
  go_enter Try.func43, Try.ntmps43
  go_wp2_with fail
  refine (HS.out _ ((((Grows.refl _).alloc _).alloc _).alloc _)).mono ?_
  rintro e w1 ⟨rfl, hl, ho, hg⟩
  have hc := hg.bc
  have hf := hg.bf
  have hs : w.heap.size + 1 + 1 < w1.heap.size := Nat.lt_of_lt_of_le (by simp) hg.size
  have HL := Lib.hid hl
  have HG := Lib.hid hg
  have HO := Lib.hid ho
  clear hl hg ho
  go_wp2
  refine bodyPost_ret (v := .agg #[.slice (some ⟨w.heap.size + 1 + 1 + 1, 0, none⟩) ls.length ls.length]) (by simp [results, Try.results43, go_sem, hc]) rfl ?_
  have h1 := HL.out
  simp only [World.size_alloc] at h1
  have h2 := (h1.setCell (p := ⟨w.heap.size + 1 + 1, 0, none⟩) (by simp) (Value.slice (some ⟨w.heap.size + 1 + 1 + 1, 0, none⟩) ls.length ls.length)).setCell (p := ⟨w.heap.size + 1, 0, none⟩) (by simp; omega) (Value.slice (some ⟨w.heap.size + 1 + 1 + 1, 0, none⟩) ls.length ls.length)
  have h3 := HO.out
  simp only [World.size_alloc] at h3
  have h4 := (h3.other (p := ⟨w.heap.size + 1 + 1, 0, none⟩) (by simp) (Value.slice (some ⟨w.heap.size + 1 + 1 + 1, 0, none⟩) ls.length ls.length)).other (p := ⟨w.heap.size + 1, 0, none⟩) (by simp; omega) (Value.slice (some ⟨w.heap.size + 1 + 1 + 1, 0, none⟩) ls.length ls.length)
  exact ⟨_, rfl, h2, h4, by omega, ((((((Grows.refl _).alloc _).alloc _).alloc _).trans HG.out).setCell (by simp; omega) _).setCell (by simp) _⟩

set_option maxRecDepth 100000 in
set_option maxHeartbeats 1000000 in
theorem heldStringS_any (v : Value) (base n k0 : Nat) (w : World) (hn : n ≤ 1048576) (hk0 : k0 ≤ 16777216) (h1 : OwnS w base v (marks k0 n)) :
    Calls Try.prog 48 #[v, .int .i64 k0] w fun e w' => e = .returned (.int .i64 ((k0 + n : Nat) : Int)) ∧ Grows w w' := by
  obtain ⟨A, c, hv, hA⟩ := h1.form
  subst hv
  have HA := Lib.hid hA
  have HN := Lib.hid (marks_length k0 n)
  rw [marks_length]
  clear h1 hA
  go_enter Try.func48, Try.ntmps48
  go_wp2
  go_loopw [1, 5] (fun q i wr => ∃ (k : Nat), k ≤ n ∧ i = .int .i64 k ∧ q = .int .i64 ((k0 + k : Nat) : Int) ∧ Grows w wr) (fun _ i _ => n - (intOf i).toNat)
  case atStart => exact ⟨0, Nat.zero_le _, rfl, rfl, Grows.refl _⟩
  case round =>
    obtain ⟨k, hk, rfl, rfl, hg⟩ := hrel
    have HG := Lib.hid hg
    clear hg
    by_cases hlt : k < n
    · obtain ⟨g, rfl, _, hg1, hc, _⟩ := HA.out (by rw [HN.out]; omega)
      have hky : k < (marks k0 n).length := by rw [HN.out]; exact hlt
      have c0 := (HG.out.cell (p := ⟨g, k, none⟩) hg1).trans (hc k hky)
      rw [marks_get] at c0
      have hs := fun w => markText_any (k0 + k) w (by omega)
      rw [show ((k0 + k : Nat) : Int) = (k0 : Int) + k from by omega] at hs
      have hg2 : g < wr.heap.size := Nat.lt_of_lt_of_le hg1 HG.out.size
      obtain ⟨x, hx⟩ : ∃ x, mtext (k0 + k) = x := ⟨_, rfl⟩
      rw [hx] at hs c0
      have HS := Lib.hid hs
      have HG2 := Lib.hid hg2
      clear hs hx hc hky hg1 hg2
      go_wp2_with fail
      first | (go_region_with (go_at_call 85; refine (HS.out _).mono ?_; rintro e w2 ⟨rfl, g2⟩; have d0 := (g2.cell (p := ⟨g, k, none⟩) HG2.out).trans c0)) | skip
      all_goals
        go_wp2
        go_roundw
        case rel => exact ⟨k + 1, by omega, by go_num, by go_num, (HG.out.drew).trans g2⟩
        case measure => simp [intOf]; omega
    · obtain rfl : k = n := by omega
      go_wp2
      go_ret
      exact ⟨rfl, HG.out⟩

theorem gb_set {w a : World} {g : Nat} (h : w.grownBy a (some g)) (i : Nat) (u : Value) : w.grownBy (a.setCell ⟨g, i, none⟩ u) (some g) :=
  ⟨h.os, h.tape, h.output, by simpa [World.setCell] using h.size, fun k hk hne => (Below.heap_setCell a ⟨g, i, none⟩ u k (fun e => hne (by rw [e]))).trans (h.block k hk hne)⟩
theorem gb_grows {w a b : World} {g : Nat} (h : w.grownBy a (some g)) (k : Grows a b) : w.grownBy b (some g) :=
  ⟨k.os.trans h.os, k.tape.trans h.tape, k.output.trans h.output, Nat.le_trans h.size k.size, fun i hi hne => (k.block i (Nat.lt_of_lt_of_le hi h.size)).trans (h.block i hi hne)⟩
theorem gb_of {w a : World} {g : Nat} (h : Grows w a) : w.grownBy a (some g) := ⟨h.os, h.tape, h.output, h.size, fun i hi _ => h.block i hi⟩

set_option maxRecDepth 100000 in
set_option maxHeartbeats 2000000 in
theorem markLineS_any (g n c k0 : Nat) (w : World) (hn : n ≤ 1048576) (hk0 : k0 ≤ 1048576) (h1 : Own6 w g n) :
    Calls Try.prog 84 #[.slice (some ⟨g, 0, none⟩) n c, .int .i64 k0] w fun e w' => e = .returned (.int .i64 ((k0 + n * 6 : Nat) : Int)) ∧ w.grownBy w' (some g) := by
  have H1 := Lib.hid h1
  clear h1
  go_enter Try.func84, Try.ntmps84
  go_wp2
  go_loopw [1, 5] (fun q i wr => ∃ (k : Nat), k ≤ n ∧ i = .int .i64 k ∧ q = .int .i64 ((k0 + k * 6 : Nat) : Int) ∧ Hid (Own6 wr g n) ∧ Hid (w.grownBy wr (some g))) (fun _ i _ => n - (intOf i).toNat)
  case atStart => exact ⟨0, Nat.zero_le _, rfl, rfl, H1.out, World.grownBy.refl _ _⟩
  case round =>
    obtain ⟨k, hk, rfl, rfl, HO, HG⟩ := hrel
    by_cases hlt : k < n
    · obtain ⟨v0, e0⟩ := HO.out.cell (j := k * 6) (by omega)
      have f0 := HO.out.frozen (k * 6)
      have hs1 := fun w => markText_any (k0 + k * 6 + 1) w (by omega)
      rw [show ((k0 + k * 6 + 1 : Nat) : Int) = (k0 : Int) + k * 6 + 1 from by omega] at hs1
      have HS1 := Lib.hid hs1
      clear hs1
      have hs2 := fun w => markText_any (k0 + k * 6 + 2) w (by omega)
      rw [show ((k0 + k * 6 + 2 : Nat) : Int) = (k0 : Int) + k * 6 + 2 from by omega] at hs2
      have HS2 := Lib.hid hs2
      clear hs2
      have hs3 := fun w => markText_any (k0 + k * 6 + 3) w (by omega)
      rw [show ((k0 + k * 6 + 3 : Nat) : Int) = (k0 : Int) + k * 6 + 3 from by omega] at hs3
      have HS3 := Lib.hid hs3
      clear hs3
      have hs4 := fun w => markText_any (k0 + k * 6 + 4) w (by omega)
      rw [show ((k0 + k * 6 + 4 : Nat) : Int) = (k0 : Int) + k * 6 + 4 from by omega] at hs4
      have HS4 := Lib.hid hs4
      clear hs4
      have hs5 := fun w => markText_any (k0 + k * 6 + 5) w (by omega)
      rw [show ((k0 + k * 6 + 5 : Nat) : Int) = (k0 : Int) + k * 6 + 5 from by omega] at hs5
      have HS5 := Lib.hid hs5
      clear hs5
      go_wp2_with fail
      refine (HS1.out _).mono ?_
      rintro e w1 ⟨rfl, g1⟩
      have O1 : Hid (Own6 w1 g n) := (HO.out.set_ _ _).keep g1
      have Y1 : Hid (w.grownBy w1 (some g)) := gb_grows (gb_set HG.out _ _) g1
      obtain ⟨v1, e1⟩ := O1.out.cell (j := k * 6 + 1) (by omega)
      have f1 := O1.out.frozen (k * 6 + 1)
      clear g1
      go_wp2_with fail
      refine (HS2.out _).mono ?_
      rintro e w2 ⟨rfl, g2⟩
      have O2 : Hid (Own6 w2 g n) := (O1.out.set_ _ _).keep g2
      have Y2 : Hid (w.grownBy w2 (some g)) := gb_grows (gb_set Y1.out _ _) g2
      obtain ⟨v2, e2⟩ := O2.out.cell (j := k * 6 + 2) (by omega)
      have f2 := O2.out.frozen (k * 6 + 2)
      clear g2
      go_wp2_with fail
      refine (HS3.out _).mono ?_
      rintro e w3 ⟨rfl, g3⟩
      have O3 : Hid (Own6 w3 g n) := (O2.out.set_ _ _).keep g3
      have Y3 : Hid (w.grownBy w3 (some g)) := gb_grows (gb_set Y2.out _ _) g3
      obtain ⟨v3, e3⟩ := O3.out.cell (j := k * 6 + 3) (by omega)
      have f3 := O3.out.frozen (k * 6 + 3)
      clear g3
      go_wp2_with fail
      refine (HS4.out _).mono ?_
      rintro e w4 ⟨rfl, g4⟩
      have O4 : Hid (Own6 w4 g n) := (O3.out.set_ _ _).keep g4
      have Y4 : Hid (w.grownBy w4 (some g)) := gb_grows (gb_set Y3.out _ _) g4
      obtain ⟨v4, e4⟩ := O4.out.cell (j := k * 6 + 4) (by omega)
      have f4 := O4.out.frozen (k * 6 + 4)
      clear g4
      go_wp2_with fail
      refine (HS5.out _).mono ?_
      rintro e w5 ⟨rfl, g5⟩
      have O5 : Hid (Own6 w5 g n) := (O4.out.set_ _ _).keep g5
      have Y5 : Hid (w.grownBy w5 (some g)) := gb_grows (gb_set Y4.out _ _) g5
      obtain ⟨v5, e5⟩ := O5.out.cell (j := k * 6 + 5) (by omega)
      have f5 := O5.out.frozen (k * 6 + 5)
      clear g5
      go_wp2_with fail
      go_roundw
      case rel => exact ⟨k + 1, by omega, by go_num, by go_num, O5.out.set_ _ _, gb_set Y5.out _ _⟩
      case measure => simp [intOf]; omega
    · obtain rfl : k = n := by omega
      go_wp2
      go_ret
      exact ⟨rfl, HG.out⟩

set_option maxRecDepth 100000 in
set_option maxHeartbeats 1000000 in
theorem markFile_any (g n c k0 : Nat) (w : World) (hn : n ≤ 1048576) (hk0 : k0 ≤ 1048576) (h1 : Own6 w g n) :
    Calls Try.prog 46 #[.agg #[.slice (some ⟨g, 0, none⟩) n c], .int .i64 k0] w fun e w' => e = .returned (.int .i64 ((k0 + n * 6 : Nat) : Int)) ∧ w.grownBy w' (some g) := by
  have HS := Lib.hid (fun w1 (k : Grows w w1) => markLineS_any g n c k0 w1 hn hk0 (h1.keep k))
  clear h1
  go_enter Try.func46, Try.ntmps46
  go_wp2_with fail
  refine (HS.out _ ((Grows.refl _).alloc _)).mono ?_
  rintro e w1 ⟨rfl, g1⟩
  go_wp2
  go_ret
  refine ⟨rfl, ⟨g1.os, g1.tape, g1.output, Nat.le_trans (by simp) g1.size, fun i hi hne => (g1.block i (Nat.lt_of_lt_of_le hi (by simp)) hne).trans (Below.heap_alloc _ _ _ hi)⟩⟩
end Go.Proofs.Yteifcogfnpeahaa
