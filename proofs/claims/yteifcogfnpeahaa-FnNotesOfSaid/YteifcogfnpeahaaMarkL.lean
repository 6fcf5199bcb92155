/-
  Marks on rows of lines that a call has made: markLineS, heldLineS, markFile, heldFile. Condition: at most 1048576 lines.
-/
import Derived.Test.YteifcogfnpeahaaMark2
import Derived.Deep.RegionHeld3
namespace Go.Proofs.Yteifcogfnpeahaa
open Go.RowKit

/-- the slice v owns a row of n lines with the cells xs -/
def OwnR (w : World) (base : Nat) (v : Value) (n : Nat) (xs : List Value) : Prop := w.ownsRow base 43 6 v n xs
/-- the mark of cell j -/
def mcell (k0 j : Nat) : Value := if j % 6 = 0 then .int .i64 ((k0 + j : Nat) : Int) else .string (mtext (k0 + j))
def mcells (k0 n : Nat) : List Value := (List.range (n * 6)).map (mcell k0)
theorem mcells_length (k0 n : Nat) : (mcells k0 n).length = n * 6 := by simp [mcells]
theorem mcells_get (k0 n j : Nat) (h : j < n * 6) : (mcells k0 n)[j]? = some (mcell k0 j) := by simp [mcells, h]
theorem mcell_0 (k0 k : Nat) : mcell k0 (k * 6) = .int .i64 ((k0 : Int) + k * 6) := by
  unfold mcell; rw [if_pos (by omega)]; congr 1
theorem mcell_s (k0 k d : Nat) (h0 : 0 < d) (h6 : d < 6) : mcell k0 (k * 6 + d) = .string (mtext (k0 + k * 6 + d)) := by
  unfold mcell; rw [if_neg (by omega), Nat.add_assoc]

theorem OwnR.form {w : World} {base n : Nat} {v : Value} {xs : List Value} (h : OwnR w base v n xs) : ∃ A c, v = .slice A n c ∧ (0 < n → ∃ g, A = some ⟨g, 0, none⟩ ∧ base ≤ g ∧ g < w.heap.size ∧
    (∀ j, j < n * 6 → w.cell? ⟨g, j, none⟩ = xs[j]?) ∧ ∀ j, w.frozen? ⟨g, j, none⟩ = false) := by
  rcases Nat.eq_zero_or_pos n with h0 | h0
  · rcases h.2 with ⟨rfl, _⟩ | ⟨g, cap, cur, rfl, _⟩
    · exact ⟨none, 0, by rw [h0], fun hh => absurd hh (by omega)⟩
    · exact ⟨_, _, rfl, fun hh => absurd hh (by omega)⟩
  · obtain ⟨g, cap, hv, hb, hlt⟩ := World.ownsRow.form h h0
    subst hv
    exact ⟨_, _, rfl, fun _ => ⟨g, rfl, hb, hlt, fun j hj => World.ownsRow.cellAt h j hj, fun j => World.ownsRow.frozenAt h j⟩⟩
theorem OwnR.size {w : World} {base n : Nat} {v : Value} {xs : List Value} (h : OwnR w base v n xs) : xs.length = n * 6 := h.1
theorem OwnR.keep {w w' : World} {base n : Nat} {v : Value} {xs : List Value} (h : OwnR w base v n xs) (g : Grows w w') : OwnR w' base v n xs := by
  have hlt := World.ownsRow.lt h
  refine World.ownsRow.kept (row := some w.heap.size) h ⟨g.os, g.tape, g.output, g.size, fun i hi _ => g.block i hi⟩ ?_
  rcases hb : v.ownBlock with _ | k
  · exact .inl rfl
  · exact .inr (fun e => by
      have := (hlt k hb).2
      injection e with e
      omega)
theorem OwnR.set_ {w : World} {base g n c : Nat} {xs : List Value} (h : OwnR w base (.slice (some ⟨g, 0, none⟩) n c) n xs) (j : Nat) (u : Value) : OwnR (w.setCell ⟨g, j, none⟩ u) base (.slice (some ⟨g, 0, none⟩) n c) n (xs.set j u) :=
  (World.ownsRow.stored h j u).1
/-- the first j cells bear their marks -/
def MUpto (k0 : Nat) (xs : List Value) (j : Nat) : Prop := ∀ i, i < j → xs[i]? = some (mcell k0 i)
theorem MUpto.zero (k0 : Nat) (xs : List Value) : MUpto k0 xs 0 := fun _ h => absurd h (Nat.not_lt_zero _)
theorem MUpto.succ {k0 j : Nat} {xs : List Value} (h : MUpto k0 xs j) (hj : j < xs.length) {u : Value} (hu : mcell k0 j = u) : MUpto k0 (xs.set j u) (j + 1) := by
  intro i hi
  rw [List.getElem?_set]
  split
  · rename_i e; subst e; rw [hu]
  · exact h i (by omega)
theorem MUpto.all {k0 n : Nat} {xs : List Value} (h : MUpto k0 xs (n * 6)) (hl : xs.length = n * 6) : xs = mcells k0 n := by
  apply List.ext_getElem? 
  intro i
  by_cases hi : i < n * 6
  · rw [h i hi, mcells_get _ _ _ hi]
  · rw [List.getElem?_eq_none (by omega), List.getElem?_eq_none (by rw [mcells_length]; omega)]
/-- a state of the marking: the row with its first j marks -/
def MSt (w0 w : World) (base g n c k0 j : Nat) : Prop := (∃ xs, OwnR w base (.slice (some ⟨g, 0, none⟩) n c) n xs ∧ MUpto k0 xs j) ∧ w0.grownBy w (some g)
theorem MSt.start {w : World} {base g n c : Nat} {xs : List Value} (h : OwnR w base (.slice (some ⟨g, 0, none⟩) n c) n xs) (k0 : Nat) : MSt w w base g n c k0 0 := ⟨⟨xs, h, MUpto.zero _ _⟩, World.grownBy.refl _ _⟩
theorem MSt.grows {w0 a b : World} {base g n c k0 j : Nat} (h : MSt w0 a base g n c k0 j) (k : Grows a b) : MSt w0 b base g n c k0 j := by
  obtain ⟨⟨xs, h1, h2⟩, h3⟩ := h
  exact ⟨⟨xs, h1.keep k, h2⟩, gb_grows h3 k⟩
theorem MSt.put {w0 a : World} {base g n c k0 j : Nat} (h : MSt w0 a base g n c k0 j) (hj : j < n * 6) {u : Value} (hu : mcell k0 j = u) : MSt w0 (a.setCell ⟨g, j, none⟩ u) base g n c k0 (j + 1) := by
  obtain ⟨⟨xs, h1, h2⟩, h3⟩ := h
  exact ⟨⟨xs.set j u, h1.set_ j u, h2.succ (by rw [h1.size]; exact hj) hu⟩, gb_set h3 _ _⟩
theorem MSt.cell {w0 a : World} {base g n c k0 j : Nat} (h : MSt w0 a base g n c k0 j) {i : Nat} (hi : i < n * 6) : ∃ v, a.cell? ⟨g, i, none⟩ = some v := by
  obtain ⟨⟨xs, h1, h2⟩, h3⟩ := h
  rw [World.ownsRow.cellAt h1 i hi]
  exact ⟨_, List.getElem?_eq_getElem (by rw [h1.size]; exact hi)⟩
theorem MSt.frozen {w0 a : World} {base g n c k0 j : Nat} (h : MSt w0 a base g n c k0 j) (i : Nat) : a.frozen? ⟨g, i, none⟩ = false := by
  obtain ⟨⟨xs, h1, h2⟩, h3⟩ := h
  exact World.ownsRow.frozenAt h1 i

set_option maxRecDepth 100000 in
set_option maxHeartbeats 2000000 in
theorem markLineS_own (base g n c k0 : Nat) (xs : List Value) (w : World) (hn : n ≤ 1048576) (hk0 : k0 ≤ 1048576) (h1 : OwnR w base (.slice (some ⟨g, 0, none⟩) n c) n xs) :
    Calls Try.prog 84 #[.slice (some ⟨g, 0, none⟩) n c, .int .i64 k0] w fun e w' => e = .returned (.int .i64 ((k0 + n * 6 : Nat) : Int)) ∧ MSt w w' base g n c k0 (n * 6) := by
  have H1 := Lib.hid (MSt.start h1 k0)
  clear h1
  go_enter Try.func84, Try.ntmps84
  go_wp2
  go_loopw [1, 5] (fun q i wr => ∃ (k : Nat), k ≤ n ∧ i = .int .i64 k ∧ q = .int .i64 ((k0 + k * 6 : Nat) : Int) ∧ Hid (MSt w wr base g n c k0 (k * 6))) (fun _ i _ => n - (intOf i).toNat)
  case atStart => exact ⟨0, Nat.zero_le _, rfl, rfl, by unfold Hid; rw [Nat.zero_mul]; exact H1.out⟩
  case round =>
    obtain ⟨k, hk, rfl, rfl, HO⟩ := hrel
    by_cases hlt : k < n
    · obtain ⟨v0, e0⟩ := HO.out.cell (i := k * 6) (by omega)
      have f0 := HO.out.frozen (k * 6)
      have HS1 : Hid (∀ w, Calls Try.prog 85 #[.int .i64 ((k0 : Int) + k * 6 + 1)] w fun e w' => e = .returned (.string (mtext (k0 + k * 6 + 1))) ∧ Grows w w') := fun w => by
        have h := markText_any (k0 + k * 6 + 1) w (by omega)
        rwa [show ((k0 + k * 6 + 1 : Nat) : Int) = (k0 : Int) + k * 6 + 1 from by omega] at h
      have HS2 : Hid (∀ w, Calls Try.prog 85 #[.int .i64 ((k0 : Int) + k * 6 + 2)] w fun e w' => e = .returned (.string (mtext (k0 + k * 6 + 2))) ∧ Grows w w') := fun w => by
        have h := markText_any (k0 + k * 6 + 2) w (by omega)
        rwa [show ((k0 + k * 6 + 2 : Nat) : Int) = (k0 : Int) + k * 6 + 2 from by omega] at h
      have HS3 : Hid (∀ w, Calls Try.prog 85 #[.int .i64 ((k0 : Int) + k * 6 + 3)] w fun e w' => e = .returned (.string (mtext (k0 + k * 6 + 3))) ∧ Grows w w') := fun w => by
        have h := markText_any (k0 + k * 6 + 3) w (by omega)
        rwa [show ((k0 + k * 6 + 3 : Nat) : Int) = (k0 : Int) + k * 6 + 3 from by omega] at h
      have HS4 : Hid (∀ w, Calls Try.prog 85 #[.int .i64 ((k0 : Int) + k * 6 + 4)] w fun e w' => e = .returned (.string (mtext (k0 + k * 6 + 4))) ∧ Grows w w') := fun w => by
        have h := markText_any (k0 + k * 6 + 4) w (by omega)
        rwa [show ((k0 + k * 6 + 4 : Nat) : Int) = (k0 : Int) + k * 6 + 4 from by omega] at h
      have HS5 : Hid (∀ w, Calls Try.prog 85 #[.int .i64 ((k0 : Int) + k * 6 + 5)] w fun e w' => e = .returned (.string (mtext (k0 + k * 6 + 5))) ∧ Grows w w') := fun w => by
        have h := markText_any (k0 + k * 6 + 5) w (by omega)
        rwa [show ((k0 + k * 6 + 5 : Nat) : Int) = (k0 : Int) + k * 6 + 5 from by omega] at h
      have M0 := Lib.hid (mcell_0 k0 k)
      have M1 := Lib.hid (mcell_s k0 k 1 (by omega) (by omega))
      have M2 := Lib.hid (mcell_s k0 k 2 (by omega) (by omega))
      have M3 := Lib.hid (mcell_s k0 k 3 (by omega) (by omega))
      have M4 := Lib.hid (mcell_s k0 k 4 (by omega) (by omega))
      have M5 := Lib.hid (mcell_s k0 k 5 (by omega) (by omega))
      obtain ⟨t1, ht1⟩ : ∃ t, mtext (k0 + k * 6 + 1) = t := ⟨_, rfl⟩
      obtain ⟨t2, ht2⟩ : ∃ t, mtext (k0 + k * 6 + 2) = t := ⟨_, rfl⟩
      obtain ⟨t3, ht3⟩ : ∃ t, mtext (k0 + k * 6 + 3) = t := ⟨_, rfl⟩
      obtain ⟨t4, ht4⟩ : ∃ t, mtext (k0 + k * 6 + 4) = t := ⟨_, rfl⟩
      obtain ⟨t5, ht5⟩ : ∃ t, mtext (k0 + k * 6 + 5) = t := ⟨_, rfl⟩
      rw [ht1] at HS1 M1
      rw [ht2] at HS2 M2
      rw [ht3] at HS3 M3
      rw [ht4] at HS4 M4
      rw [ht5] at HS5 M5
      clear ht1 ht2 ht3 ht4 ht5
      go_wp2_with fail
      refine (HS1.out _).mono ?_
      rintro e w1 ⟨rfl, g1⟩
      have O1 : Hid (MSt w w1 base g n c k0 (k * 6 + 1)) := (HO.out.put (by omega) M0.out).grows g1
      obtain ⟨v1, e1⟩ := O1.out.cell (i := k * 6 + 1) (by omega)
      have f1 := O1.out.frozen (k * 6 + 1)
      clear g1
      go_wp2_with fail
      refine (HS2.out _).mono ?_
      rintro e w2 ⟨rfl, g2⟩
      have O2 : Hid (MSt w w2 base g n c k0 (k * 6 + 1 + 1)) := (O1.out.put (by omega) M1.out).grows g2
      obtain ⟨v2, e2⟩ := O2.out.cell (i := k * 6 + 2) (by omega)
      have f2 := O2.out.frozen (k * 6 + 2)
      clear g2
      go_wp2_with fail
      refine (HS3.out _).mono ?_
      rintro e w3 ⟨rfl, g3⟩
      have O3 : Hid (MSt w w3 base g n c k0 (k * 6 + 2 + 1)) := (O2.out.put (by omega) M2.out).grows g3
      obtain ⟨v3, e3⟩ := O3.out.cell (i := k * 6 + 3) (by omega)
      have f3 := O3.out.frozen (k * 6 + 3)
      clear g3
      go_wp2_with fail
      refine (HS4.out _).mono ?_
      rintro e w4 ⟨rfl, g4⟩
      have O4 : Hid (MSt w w4 base g n c k0 (k * 6 + 3 + 1)) := (O3.out.put (by omega) M3.out).grows g4
      obtain ⟨v4, e4⟩ := O4.out.cell (i := k * 6 + 4) (by omega)
      have f4 := O4.out.frozen (k * 6 + 4)
      clear g4
      go_wp2_with fail
      refine (HS5.out _).mono ?_
      rintro e w5 ⟨rfl, g5⟩
      have O5 : Hid (MSt w w5 base g n c k0 (k * 6 + 4 + 1)) := (O4.out.put (by omega) M4.out).grows g5
      obtain ⟨v5, e5⟩ := O5.out.cell (i := k * 6 + 5) (by omega)
      have f5 := O5.out.frozen (k * 6 + 5)
      clear g5
      go_wp2_with fail
      go_roundw
      case rel =>
        refine ⟨k + 1, by omega, by go_num, by go_num, ?_⟩
        have h6 := O5.out.put (by omega) M5.out
        unfold Hid
        rw [show (k + 1) * 6 = k * 6 + 4 + 1 + 1 from by omega]
        exact h6
      case measure => simp [intOf]; omega
    · obtain rfl : k = n := by omega
      go_wp2
      go_ret
      exact ⟨rfl, HO.out⟩

/-- the row bears all its marks -/
def Marked (w : World) (g n k0 : Nat) : Prop := g < w.heap.size ∧ ∀ j, j < n * 6 → w.cell? ⟨g, j, none⟩ = some (mcell k0 j)
theorem Marked.keep {a b : World} {g n k0 : Nat} (h : Marked a g n k0) (k : Grows a b) : Marked b g n k0 := ⟨Nat.lt_of_lt_of_le h.1 k.size, fun j hj => (k.cell (p := ⟨g, j, none⟩) h.1).trans (h.2 j hj)⟩
theorem MSt.marked {w0 w : World} {base g n c k0 : Nat} (h : MSt w0 w base g n c k0 (n * 6)) : Marked w g n k0 := by
  obtain ⟨⟨xs, h1, h2⟩, h3⟩ := h
  refine ⟨(World.ownsRow.lt h1 g rfl).2, fun j hj => ?_⟩
  rw [World.ownsRow.cellAt h1 j hj, h2 j hj]

set_option maxRecDepth 100000 in
set_option maxHeartbeats 4000000 in
theorem heldLineS_any (g n c k0 : Nat) (w : World) (hn : n ≤ 1048576) (hk0 : k0 ≤ 1048576) (h1 : Marked w g n k0) :
    Calls Try.prog 89 #[.slice (some ⟨g, 0, none⟩) n c, .int .i64 k0] w fun e w' => e = .returned (.int .i64 ((k0 + n * 6 : Nat) : Int)) ∧ Grows w w' := by
  have H1 := Lib.hid h1
  clear h1
  go_enter Try.func89, Try.ntmps89
  go_wp2
  go_loopw [1, 5] (fun q i wr => ∃ (k : Nat), k ≤ n ∧ i = .int .i64 k ∧ q = .int .i64 ((k0 + k * 6 : Nat) : Int) ∧ Hid (Grows w wr)) (fun _ i _ => n - (intOf i).toNat)
  case atStart => exact ⟨0, Nat.zero_le _, rfl, rfl, Grows.refl _⟩
  case round =>
    obtain ⟨k, hk, rfl, rfl, HG⟩ := hrel
    by_cases hlt : k < n
    · have HM := Lib.hid (H1.out.keep HG.out)
      have c0 := HM.out.2 (k * 6) (by omega)
      rw [mcell_0] at c0
      have HS1 : Hid (∀ w, Calls Try.prog 85 #[.int .i64 ((k0 : Int) + k * 6 + 1)] w fun e w' => e = .returned (.string (mtext (k0 + k * 6 + 1))) ∧ Grows w w') := fun w => by
        have h := markText_any (k0 + k * 6 + 1) w (by omega)
        rwa [show ((k0 + k * 6 + 1 : Nat) : Int) = (k0 : Int) + k * 6 + 1 from by omega] at h
      have C1 : Hid (∀ w2, Grows wr w2 → w2.cell? ⟨g, k * 6 + 1, none⟩ = some (.string (mtext (k0 + k * 6 + 1)))) := fun w2 h => by
        rw [((HM.out.keep h).2 (k * 6 + 1) (by omega)), mcell_s k0 k 1 (by omega) (by omega)]
      obtain ⟨t1, ht1⟩ : ∃ t, mtext (k0 + k * 6 + 1) = t := ⟨_, rfl⟩
      rw [ht1] at HS1 C1
      clear ht1
      have HS2 : Hid (∀ w, Calls Try.prog 85 #[.int .i64 ((k0 : Int) + k * 6 + 1 + 1)] w fun e w' => e = .returned (.string (mtext (k0 + k * 6 + 2))) ∧ Grows w w') := fun w => by
        have h := markText_any (k0 + k * 6 + 2) w (by omega)
        rwa [show ((k0 + k * 6 + 2 : Nat) : Int) = (k0 : Int) + k * 6 + 1 + 1 from by omega] at h
      have C2 : Hid (∀ w2, Grows wr w2 → w2.cell? ⟨g, k * 6 + 2, none⟩ = some (.string (mtext (k0 + k * 6 + 2)))) := fun w2 h => by
        rw [((HM.out.keep h).2 (k * 6 + 2) (by omega)), mcell_s k0 k 2 (by omega) (by omega)]
      obtain ⟨t2, ht2⟩ : ∃ t, mtext (k0 + k * 6 + 2) = t := ⟨_, rfl⟩
      rw [ht2] at HS2 C2
      clear ht2
      have HS3 : Hid (∀ w, Calls Try.prog 85 #[.int .i64 ((k0 : Int) + k * 6 + 1 + 1 + 1)] w fun e w' => e = .returned (.string (mtext (k0 + k * 6 + 3))) ∧ Grows w w') := fun w => by
        have h := markText_any (k0 + k * 6 + 3) w (by omega)
        rwa [show ((k0 + k * 6 + 3 : Nat) : Int) = (k0 : Int) + k * 6 + 1 + 1 + 1 from by omega] at h
      have C3 : Hid (∀ w2, Grows wr w2 → w2.cell? ⟨g, k * 6 + 3, none⟩ = some (.string (mtext (k0 + k * 6 + 3)))) := fun w2 h => by
        rw [((HM.out.keep h).2 (k * 6 + 3) (by omega)), mcell_s k0 k 3 (by omega) (by omega)]
      obtain ⟨t3, ht3⟩ : ∃ t, mtext (k0 + k * 6 + 3) = t := ⟨_, rfl⟩
      rw [ht3] at HS3 C3
      clear ht3
      have HS4 : Hid (∀ w, Calls Try.prog 85 #[.int .i64 ((k0 : Int) + k * 6 + 1 + 1 + 1 + 1)] w fun e w' => e = .returned (.string (mtext (k0 + k * 6 + 4))) ∧ Grows w w') := fun w => by
        have h := markText_any (k0 + k * 6 + 4) w (by omega)
        rwa [show ((k0 + k * 6 + 4 : Nat) : Int) = (k0 : Int) + k * 6 + 1 + 1 + 1 + 1 from by omega] at h
      have C4 : Hid (∀ w2, Grows wr w2 → w2.cell? ⟨g, k * 6 + 4, none⟩ = some (.string (mtext (k0 + k * 6 + 4)))) := fun w2 h => by
        rw [((HM.out.keep h).2 (k * 6 + 4) (by omega)), mcell_s k0 k 4 (by omega) (by omega)]
      obtain ⟨t4, ht4⟩ : ∃ t, mtext (k0 + k * 6 + 4) = t := ⟨_, rfl⟩
      rw [ht4] at HS4 C4
      clear ht4
      have HS5 : Hid (∀ w, Calls Try.prog 85 #[.int .i64 ((k0 : Int) + k * 6 + 1 + 1 + 1 + 1 + 1)] w fun e w' => e = .returned (.string (mtext (k0 + k * 6 + 5))) ∧ Grows w w') := fun w => by
        have h := markText_any (k0 + k * 6 + 5) w (by omega)
        rwa [show ((k0 + k * 6 + 5 : Nat) : Int) = (k0 : Int) + k * 6 + 1 + 1 + 1 + 1 + 1 from by omega] at h
      have C5 : Hid (∀ w2, Grows wr w2 → w2.cell? ⟨g, k * 6 + 5, none⟩ = some (.string (mtext (k0 + k * 6 + 5)))) := fun w2 h => by
        rw [((HM.out.keep h).2 (k * 6 + 5) (by omega)), mcell_s k0 k 5 (by omega) (by omega)]
      obtain ⟨t5, ht5⟩ : ∃ t, mtext (k0 + k * 6 + 5) = t := ⟨_, rfl⟩
      rw [ht5] at HS5 C5
      clear ht5
      go_wp2_with fail
      have b1 := C1.out wr (Grows.refl wr)
      go_region_held3 (fun w' => w'.cell? ⟨g, k * 6 + 1, none⟩ = some (.string t1)) (go_keep) (first | (go_at_call 85; refine (HS1.out _).mono ?_; rintro e w1 ⟨rfl, g1⟩; have d1 := C1.out w1 ((Grows.refl wr).drew.trans g1)))
      have K1 : Hid (Grows wr w1) := (Grows.refl wr).drew.trans g1
      clear g1 b1 d1
      go_wp2_with fail
      have b2 := C2.out w1 (K1.out)
      go_region_held3 (fun w' => w'.cell? ⟨g, k * 6 + 2, none⟩ = some (.string t2)) (go_keep) (first | (go_at_call 85; refine (HS2.out _).mono ?_; rintro e w2 ⟨rfl, g2⟩; have d2 := C2.out w2 ((K1.out).drew.trans g2)))
      have K2 : Hid (Grows wr w2) := (K1.out).drew.trans g2
      clear g2 b2 d2
      go_wp2_with fail
      have b3 := C3.out w2 (K2.out)
      go_region_held3 (fun w' => w'.cell? ⟨g, k * 6 + 3, none⟩ = some (.string t3)) (go_keep) (first | (go_at_call 85; refine (HS3.out _).mono ?_; rintro e w3 ⟨rfl, g3⟩; have d3 := C3.out w3 ((K2.out).drew.trans g3)))
      have K3 : Hid (Grows wr w3) := (K2.out).drew.trans g3
      clear g3 b3 d3
      go_wp2_with fail
      have b4 := C4.out w3 (K3.out)
      go_region_held3 (fun w' => w'.cell? ⟨g, k * 6 + 4, none⟩ = some (.string t4)) (go_keep) (first | (go_at_call 85; refine (HS4.out _).mono ?_; rintro e w4 ⟨rfl, g4⟩; have d4 := C4.out w4 ((K3.out).drew.trans g4)))
      have K4 : Hid (Grows wr w4) := (K3.out).drew.trans g4
      clear g4 b4 d4
      go_wp2_with fail
      have b5 := C5.out w4 (K4.out)
      go_region_held3 (fun w' => w'.cell? ⟨g, k * 6 + 5, none⟩ = some (.string t5)) (go_keep) (first | (go_at_call 85; refine (HS5.out _).mono ?_; rintro e w5 ⟨rfl, g5⟩; have d5 := C5.out w5 ((K4.out).drew.trans g5)))
      have K5 : Hid (Grows wr w5) := (K4.out).drew.trans g5
      clear g5 b5 d5
      go_wp2_with fail
      go_roundw
      case rel => exact ⟨k + 1, by omega, by go_num, by go_num, HG.out.trans K5.out⟩
      case measure => simp [intOf]; omega
    · obtain rfl : k = n := by omega
      go_wp2
      go_ret
      exact ⟨rfl, HG.out⟩

/-- the cells of lines -/
def lcell (l : Ln) : List Value := [.int .i64 l.k, .string l.le, .string l.na, .string l.se, .string l.va, .string l.ta]
def lcells : List Ln → List Value
  | [] => []
  | l :: ls => lcell l ++ lcells ls
theorem lcells_length (ls : List Ln) : (lcells ls).length = ls.length * 6 := by
  induction ls with
  | nil => rfl
  | cons l ls ih => simp [lcells, lcell, ih]; omega
theorem lcells_snoc (ls : List Ln) (l : Ln) : lcells (ls ++ [l]) = lcells ls ++ lcell l := by
  induction ls with
  | nil => simp [lcells]
  | cons x ls ih => simp [lcells, ih, List.append_assoc]
theorem lcells_get (ls : List Ln) : ∀ (i : Nat) (h : i < ls.length) (d : Nat), d < 6 → (lcells ls)[i * 6 + d]? = (lcell ls[i])[d]? := by
  induction ls with
  | nil => intro i h; exact absurd h (by simp)
  | cons l ls ih =>
    intro i h d hd
    have hl : (lcell l).length = 6 := rfl
    cases i with
    | zero => rw [lcells, Nat.zero_mul, Nat.zero_add, List.getElem?_append_left (by rw [hl]; exact hd)]; rfl
    | succ i =>
      rw [lcells, List.getElem?_append_right (by rw [hl]; omega), hl]
      rw [show (i + 1) * 6 + d - 6 = i * 6 + d from by omega, ih i (by simpa using h) d hd]
      rfl
/-- the slice v owns these lines -/
def OwnL (w : World) (base : Nat) (v : Value) (ls : List Ln) : Prop := OwnR w base v ls.length (lcells ls)
theorem OwnL.at {w : World} {base : Nat} {A : Option Addr} {c : Nat} {ls : List Ln} (h : OwnL w base (.slice A ls.length c) ls) : LnsAt w A ls := fun h0 => by
  obtain ⟨A', c', hv, hA⟩ := OwnR.form h
  injection hv with e1 e2 e3
  subst e1
  obtain ⟨g, rfl, hb, hg, hc, _⟩ := hA h0
  refine ⟨g, 0, rfl, hg, fun i hi => ?_⟩
  have hx := fun d (hd : d < 6) => (hc (i * 6 + d) (by omega)).trans (lcells_get ls i hi d hd)
  rw [Nat.zero_add]
  exact ⟨hx 0 (by omega), hx 1 (by omega), hx 2 (by omega), hx 3 (by omega), hx 4 (by omega), hx 5 (by omega)⟩
theorem OwnL.keep {w w' : World} {base : Nat} {v : Value} {ls : List Ln} (h : OwnL w base v ls) (g : Grows w w') : OwnL w' base v ls := OwnR.keep h g
/-- the row of n lines bears its marks, and nothing else has turned -/
def Signed (w w' : World) (base : Nat) (v : Value) (n k0 : Nat) : Prop := OwnR w' base v n (mcells k0 n) ∧ Only v w w'
theorem MSt.signed {w0 w : World} {base g n c k0 : Nat} (h : MSt w0 w base g n c k0 (n * 6)) : Signed w0 w base (.slice (some ⟨g, 0, none⟩) n c) n k0 := by
  obtain ⟨⟨xs, h1, h2⟩, h3⟩ := h
  rw [h2.all h1.size] at h1
  exact ⟨h1, h3⟩
/-- what lies in other blocks stays -/
theorem LnsAt.only {w w' : World} {A : Option Addr} {ls : List Ln} {v : Value} (h : LnsAt w A ls) (k : Only v w w') (hne : ∀ b o, A = some ⟨b, o, none⟩ → v.ownBlock ≠ some b) : LnsAt w' A ls := fun h0 => by
  obtain ⟨b, o, e, hb, hc⟩ := h h0
  refine ⟨b, o, e, Nat.lt_of_lt_of_le hb k.size, fun i hi => ?_⟩
  have hbk : w'.heap[b]? = w.heap[b]? := k.block b hb (by first | exact fun e2 => hne b o e e2 | exact fun e2 => hne b o e e2.symm)
  have hx : ∀ q, w'.cell? ⟨b, q, none⟩ = w.cell? ⟨b, q, none⟩ := fun q => World.cell?_of_block (w := w) hbk
  obtain ⟨h0, h1, h2, h3, h4, h5⟩ := hc i hi
  exact ⟨(hx _).trans h0, (hx _).trans h1, (hx _).trans h2, (hx _).trans h3, (hx _).trans h4, (hx _).trans h5⟩

set_option maxRecDepth 100000 in
set_option maxHeartbeats 1000000 in
theorem markLineS_row (v : Value) (base n k0 : Nat) (xs : List Value) (w : World) (hn : n ≤ 1048576) (hk0 : k0 ≤ 1048576) (h1 : OwnR w base v n xs) :
    Calls Try.prog 84 #[v, .int .i64 k0] w fun e w' => e = .returned (.int .i64 ((k0 + n * 6 : Nat) : Int)) ∧ Signed w w' base v n k0 := by
  obtain ⟨A, c, rfl, hA⟩ := h1.form
  rcases Nat.eq_zero_or_pos n with h0 | h0
  · subst h0
    have hx : xs = [] := List.eq_nil_of_length_eq_zero (by rw [h1.size])
    subst hx
    have HS : Hid (Signed w w base (.slice A 0 c) 0 k0) := ⟨h1, Only.refl _ _⟩
    clear h1 hA
    go_enter Try.func84, Try.ntmps84
    go_wp2
    go_loopw [1, 5] (fun q i wr => i = .int .i64 0 ∧ q = .int .i64 k0 ∧ wr = w) (fun _ _ _ => 0)
    case atStart => exact ⟨rfl, rfl, rfl⟩
    case round =>
      obtain ⟨rfl, rfl, rfl⟩ := hrel
      go_wp2
      go_ret
      exact ⟨by simp, HS.out⟩
  · obtain ⟨g, rfl, _⟩ := hA h0
    exact (markLineS_own base g n c k0 xs w hn hk0 h1).mono (fun e w' ⟨h2, h3⟩ => ⟨h2, h3.signed⟩)

theorem Signed.alloc {w w' : World} {base n k0 : Nat} {v : Value} {o : Obj} (h : Signed (w.alloc o) w' base v n k0) : Signed w w' base v n k0 :=
  ⟨h.1, ⟨h.2.os, h.2.tape, h.2.output, Nat.le_trans (by simp) h.2.size, fun i hi hne => (h.2.block i (Nat.lt_of_lt_of_le hi (by simp)) hne).trans (Below.heap_alloc _ _ _ hi)⟩⟩

set_option maxRecDepth 100000 in
set_option maxHeartbeats 1000000 in
theorem markFile_own (v : Value) (base n k0 : Nat) (xs : List Value) (w : World) (hn : n ≤ 1048576) (hk0 : k0 ≤ 1048576) (h1 : OwnR w base v n xs) :
    Calls Try.prog 46 #[.agg #[v], .int .i64 k0] w fun e w' => e = .returned (.int .i64 ((k0 + n * 6 : Nat) : Int)) ∧ Signed w w' base v n k0 := by
  have HS := Lib.hid (fun w1 (k : Grows w w1) => markLineS_row v base n k0 xs w1 hn hk0 (h1.keep k))
  obtain ⟨A, c, rfl, _⟩ := h1.form
  clear h1
  go_enter Try.func46, Try.ntmps46
  go_wp2_with fail
  refine (HS.out _ ((Grows.refl _).alloc _)).mono ?_
  rintro e w1 ⟨rfl, g1⟩
  have S1 := Lib.hid g1
  clear g1
  go_wp2
  go_ret
  exact ⟨rfl, S1.out.alloc⟩

set_option maxRecDepth 100000 in
set_option maxHeartbeats 1000000 in
theorem heldLineS_row (v : Value) (base n k0 : Nat) (w : World) (hn : n ≤ 1048576) (hk0 : k0 ≤ 1048576) (h1 : OwnR w base v n (mcells k0 n)) :
    Calls Try.prog 89 #[v, .int .i64 k0] w fun e w' => e = .returned (.int .i64 ((k0 + n * 6 : Nat) : Int)) ∧ Grows w w' := by
  obtain ⟨A, c, rfl, hA⟩ := h1.form
  rcases Nat.eq_zero_or_pos n with h0 | h0
  · subst h0
    clear h1 hA
    go_enter Try.func89, Try.ntmps89
    go_wp2
    go_loopw [1, 5] (fun q i wr => i = .int .i64 0 ∧ q = .int .i64 k0 ∧ wr = w) (fun _ _ _ => 0)
    case atStart => exact ⟨rfl, rfl, rfl⟩
    case round =>
      obtain ⟨rfl, rfl, rfl⟩ := hrel
      go_wp2
      go_ret
      exact ⟨by simp, Grows.refl _⟩
  · obtain ⟨g, rfl, _, hg, hc, _⟩ := hA h0
    exact heldLineS_any g n c k0 w hn hk0 ⟨hg, fun j hj => (hc j hj).trans (mcells_get k0 n j hj)⟩

set_option maxRecDepth 100000 in
set_option maxHeartbeats 1000000 in
theorem heldFile_own (v : Value) (base n k0 : Nat) (w : World) (hn : n ≤ 1048576) (hk0 : k0 ≤ 1048576) (h1 : OwnR w base v n (mcells k0 n)) :
    Calls Try.prog 51 #[.agg #[v], .int .i64 k0] w fun e w' => e = .returned (.int .i64 ((k0 + n * 6 : Nat) : Int)) ∧ Grows w w' := by
  have HS := Lib.hid (fun w1 (k : Grows w w1) => heldLineS_row v base n k0 w1 hn hk0 (h1.keep k))
  obtain ⟨A, c, rfl, _⟩ := h1.form
  clear h1
  obtain ⟨m, hm⟩ : ∃ m : Int, ((k0 + n * 6 : Nat) : Int) = m := ⟨_, rfl⟩
  have hm0 : 0 ≤ m := by omega
  rw [hm] at HS ⊢
  clear hm
  go_enter Try.func51, Try.ntmps51
  go_wp2_with fail
  refine (HS.out _ ((Grows.refl _).alloc _)).mono ?_
  rintro e w1 ⟨rfl, g1⟩
  have G1 := Lib.hid (((Grows.refl w).alloc _).trans g1)
  clear g1
  have hd : decide (m < 0) = false := by simp; omega
  go_wp2
  go_ret
  exact ⟨rfl, G1.out⟩
end Go.Proofs.Yteifcogfnpeahaa
