/-
  Marks on rows of entries that a call has made: markEntryS, heldEntryS, markLayer, heldLayer. Condition: at most 1048576 entries.
-/
import Derived.Test.YteifcogfnpeahaaEnt
import Derived.Deep.RegionHeld3
namespace Go.Proofs.Yteifcogfnpeahaa
open Go.RowKit

/-- the slice v owns a row of n lines with the cells xs -/
def OwnQ (w : World) (base : Nat) (v : Value) (n : Nat) (xs : List Value) : Prop := w.ownsRow base 102 4 v n xs
/-- the mark of cell j -/
def qcell (k0 j : Nat) : Value := if j % 4 = 2 then .int .i64 ((k0 + j : Nat) : Int) else .string (mtext (k0 + j))
def qcells (k0 n : Nat) : List Value := (List.range (n * 4)).map (qcell k0)
theorem qcells_length (k0 n : Nat) : (qcells k0 n).length = n * 4 := by simp [qcells]
theorem qcells_get (k0 n j : Nat) (h : j < n * 4) : (qcells k0 n)[j]? = some (qcell k0 j) := by simp [qcells, h]
theorem qcell_i (k0 k : Nat) : qcell k0 (k * 4 + 2) = .int .i64 ((k0 : Int) + k * 4 + 2) := by
  unfold qcell; rw [if_pos (by omega)]; congr 1
theorem qcell_s (k0 k d : Nat) (h0 : d ≠ 2) (h6 : d < 4) : qcell k0 (k * 4 + d) = .string (mtext (k0 + k * 4 + d)) := by
  unfold qcell; rw [if_neg (by omega), Nat.add_assoc]

theorem OwnQ.form {w : World} {base n : Nat} {v : Value} {xs : List Value} (h : OwnQ w base v n xs) : ∃ A c, v = .slice A n c ∧ (0 < n → ∃ g, A = some ⟨g, 0, none⟩ ∧ base ≤ g ∧ g < w.heap.size ∧
    (∀ j, j < n * 4 → w.cell? ⟨g, j, none⟩ = xs[j]?) ∧ ∀ j, w.frozen? ⟨g, j, none⟩ = false) := by
  rcases Nat.eq_zero_or_pos n with h0 | h0
  · rcases h.2 with ⟨rfl, _⟩ | ⟨g, cap, cur, rfl, _⟩
    · exact ⟨none, 0, by rw [h0], fun hh => absurd hh (by omega)⟩
    · exact ⟨_, _, rfl, fun hh => absurd hh (by omega)⟩
  · obtain ⟨g, cap, hv, hb, hlt⟩ := World.ownsRow.form h h0
    subst hv
    exact ⟨_, _, rfl, fun _ => ⟨g, rfl, hb, hlt, fun j hj => World.ownsRow.cellAt h j hj, fun j => World.ownsRow.frozenAt h j⟩⟩
theorem OwnQ.size {w : World} {base n : Nat} {v : Value} {xs : List Value} (h : OwnQ w base v n xs) : xs.length = n * 4 := h.1
theorem OwnQ.keep {w w' : World} {base n : Nat} {v : Value} {xs : List Value} (h : OwnQ w base v n xs) (g : Grows w w') : OwnQ w' base v n xs := by
  have hlt := World.ownsRow.lt h
  refine World.ownsRow.kept (row := some w.heap.size) h ⟨g.os, g.tape, g.output, g.size, fun i hi _ => g.block i hi⟩ ?_
  rcases hb : v.ownBlock with _ | k
  · exact .inl rfl
  · exact .inr (fun e => by
      have := (hlt k hb).2
      injection e with e
      omega)
theorem OwnQ.set_ {w : World} {base g n c : Nat} {xs : List Value} (h : OwnQ w base (.slice (some ⟨g, 0, none⟩) n c) n xs) (j : Nat) (u : Value) : OwnQ (w.setCell ⟨g, j, none⟩ u) base (.slice (some ⟨g, 0, none⟩) n c) n (xs.set j u) :=
  (World.ownsRow.stored h j u).1
/-- the first j cells bear their marks -/
def EUpto (k0 : Nat) (xs : List Value) (j : Nat) : Prop := ∀ i, i < j → xs[i]? = some (qcell k0 i)
theorem EUpto.zero (k0 : Nat) (xs : List Value) : EUpto k0 xs 0 := fun _ h => absurd h (Nat.not_lt_zero _)
theorem EUpto.succ {k0 j : Nat} {xs : List Value} (h : EUpto k0 xs j) (hj : j < xs.length) {u : Value} (hu : qcell k0 j = u) : EUpto k0 (xs.set j u) (j + 1) := by
  intro i hi
  rw [List.getElem?_set]
  split
  · rename_i e; subst e; rw [hu]
  · exact h i (by omega)
theorem EUpto.all {k0 n : Nat} {xs : List Value} (h : EUpto k0 xs (n * 4)) (hl : xs.length = n * 4) : xs = qcells k0 n := by
  apply List.ext_getElem? 
  intro i
  by_cases hi : i < n * 4
  · rw [h i hi, qcells_get _ _ _ hi]
  · rw [List.getElem?_eq_none (by omega), List.getElem?_eq_none (by rw [qcells_length]; omega)]
/-- a state of the marking: the row with its first j marks -/
def ESt (w0 w : World) (base g n c k0 j : Nat) : Prop := (∃ xs, OwnQ w base (.slice (some ⟨g, 0, none⟩) n c) n xs ∧ EUpto k0 xs j) ∧ w0.grownBy w (some g)
theorem ESt.start {w : World} {base g n c : Nat} {xs : List Value} (h : OwnQ w base (.slice (some ⟨g, 0, none⟩) n c) n xs) (k0 : Nat) : ESt w w base g n c k0 0 := ⟨⟨xs, h, EUpto.zero _ _⟩, World.grownBy.refl _ _⟩
theorem ESt.grows {w0 a b : World} {base g n c k0 j : Nat} (h : ESt w0 a base g n c k0 j) (k : Grows a b) : ESt w0 b base g n c k0 j := by
  obtain ⟨⟨xs, h1, h2⟩, h3⟩ := h
  exact ⟨⟨xs, h1.keep k, h2⟩, gb_grows h3 k⟩
theorem ESt.put {w0 a : World} {base g n c k0 j : Nat} (h : ESt w0 a base g n c k0 j) (hj : j < n * 4) {u : Value} (hu : qcell k0 j = u) : ESt w0 (a.setCell ⟨g, j, none⟩ u) base g n c k0 (j + 1) := by
  obtain ⟨⟨xs, h1, h2⟩, h3⟩ := h
  exact ⟨⟨xs.set j u, h1.set_ j u, h2.succ (by rw [h1.size]; exact hj) hu⟩, gb_set h3 _ _⟩
theorem ESt.cell {w0 a : World} {base g n c k0 j : Nat} (h : ESt w0 a base g n c k0 j) {i : Nat} (hi : i < n * 4) : ∃ v, a.cell? ⟨g, i, none⟩ = some v := by
  obtain ⟨⟨xs, h1, h2⟩, h3⟩ := h
  rw [World.ownsRow.cellAt h1 i hi]
  exact ⟨_, List.getElem?_eq_getElem (by rw [h1.size]; exact hi)⟩
theorem ESt.frozen {w0 a : World} {base g n c k0 j : Nat} (h : ESt w0 a base g n c k0 j) (i : Nat) : a.frozen? ⟨g, i, none⟩ = false := by
  obtain ⟨⟨xs, h1, h2⟩, h3⟩ := h
  exact World.ownsRow.frozenAt h1 i

set_option maxRecDepth 100000 in
set_option maxHeartbeats 2000000 in
theorem markEntryS_own (base g n c k0 : Nat) (xs : List Value) (w : World) (hn : n ≤ 1048576) (hk0 : k0 ≤ 16777216) (h1 : OwnQ w base (.slice (some ⟨g, 0, none⟩) n c) n xs) :
    Calls Try.prog 93 #[.slice (some ⟨g, 0, none⟩) n c, .int .i64 k0] w fun e w' => e = .returned (.int .i64 ((k0 + n * 4 : Nat) : Int)) ∧ ESt w w' base g n c k0 (n * 4) := by
  have H1 := Lib.hid (ESt.start h1 k0)
  clear h1
  go_enter Try.func93, Try.ntmps93
  go_wp2
  go_loopw [1, 5] (fun q i wr => ∃ (k : Nat), k ≤ n ∧ i = .int .i64 k ∧ q = .int .i64 ((k0 + k * 4 : Nat) : Int) ∧ Hid (ESt w wr base g n c k0 (k * 4))) (fun _ i _ => n - (intOf i).toNat)
  case atStart => exact ⟨0, Nat.zero_le _, rfl, rfl, by unfold Hid; rw [Nat.zero_mul]; exact H1.out⟩
  case round =>
    obtain ⟨k, hk, rfl, rfl, HO⟩ := hrel
    by_cases hlt : k < n
    · have hz : ((k0 + k * 4 : Nat) : Int) = (k0 : Int) + k * 4 := by omega
      have HS0 : Hid (∀ w, Calls Try.prog 85 #[.int .i64 ((k0 : Int) + k * 4)] w fun e w' => e = .returned (.string (mtext (k0 + k * 4 + 0))) ∧ Grows w w') := fun w => by
        have h := markText_any (k0 + k * 4 + 0) w (by omega)
        rwa [show ((k0 + k * 4 + 0 : Nat) : Int) = (k0 : Int) + k * 4 from by omega] at h
      have HS1 : Hid (∀ w, Calls Try.prog 85 #[.int .i64 ((k0 : Int) + k * 4 + 1)] w fun e w' => e = .returned (.string (mtext (k0 + k * 4 + 1))) ∧ Grows w w') := fun w => by
        have h := markText_any (k0 + k * 4 + 1) w (by omega)
        rwa [show ((k0 + k * 4 + 1 : Nat) : Int) = (k0 : Int) + k * 4 + 1 from by omega] at h
      have HS3 : Hid (∀ w, Calls Try.prog 85 #[.int .i64 ((k0 : Int) + k * 4 + 1 + 1 + 1)] w fun e w' => e = .returned (.string (mtext (k0 + k * 4 + 3))) ∧ Grows w w') := fun w => by
        have h := markText_any (k0 + k * 4 + 3) w (by omega)
        rwa [show ((k0 + k * 4 + 3 : Nat) : Int) = (k0 : Int) + k * 4 + 1 + 1 + 1 from by omega] at h
      have M0 := Lib.hid (qcell_s k0 k 0 (by omega) (by omega))
      have M1 := Lib.hid (qcell_s k0 k 1 (by omega) (by omega))
      have M2 := Lib.hid (qcell_i k0 k)
      have M3 := Lib.hid (qcell_s k0 k 3 (by omega) (by omega))
      obtain ⟨t0, ht0⟩ : ∃ t, mtext (k0 + k * 4 + 0) = t := ⟨_, rfl⟩
      obtain ⟨t1, ht1⟩ : ∃ t, mtext (k0 + k * 4 + 1) = t := ⟨_, rfl⟩
      obtain ⟨t3, ht3⟩ : ∃ t, mtext (k0 + k * 4 + 3) = t := ⟨_, rfl⟩
      rw [ht0] at HS0 M0
      rw [ht1] at HS1 M1
      rw [ht3] at HS3 M3
      clear ht0 ht1 ht3 hz
      go_wp2_with fail
      refine (HS0.out _).mono ?_
      rintro e w1 ⟨rfl, g1⟩
      have O1 : Hid (ESt w w1 base g n c k0 (k * 4)) := HO.out.grows g1
      obtain ⟨v0, e0⟩ := O1.out.cell (i := k * 4) (by omega)
      have f0 := O1.out.frozen (k * 4)
      clear g1
      go_wp2_with fail
      refine (HS1.out _).mono ?_
      rintro e w2 ⟨rfl, g2⟩
      have O2 : Hid (ESt w w2 base g n c k0 (k * 4 + 1)) := (O1.out.put (by omega) M0.out).grows g2
      obtain ⟨v1, e1⟩ := O2.out.cell (i := k * 4 + 1) (by omega)
      have f1 := O2.out.frozen (k * 4 + 1)
      obtain ⟨v2, e2⟩ := O2.out.cell (i := k * 4 + 2) (by omega)
      have f2 := O2.out.frozen (k * 4 + 2)
      clear g2
      go_wp2_with fail
      refine (HS3.out _).mono ?_
      rintro e w4 ⟨rfl, g4⟩
      have O4 : Hid (ESt w w4 base g n c k0 (k * 4 + 2 + 1)) := ((O2.out.put (by omega) M1.out).put (by omega) (M2.out.trans (by congr 1))).grows g4
      obtain ⟨v3, e3⟩ := O4.out.cell (i := k * 4 + 3) (by omega)
      have f3 := O4.out.frozen (k * 4 + 3)
      clear g4
      go_wp2_with fail
      go_roundw
      case rel =>
        refine ⟨k + 1, by omega, by go_num, by go_num, ?_⟩
        have h6 := O4.out.put (by omega) M3.out
        unfold Hid
        rw [show (k + 1) * 4 = k * 4 + 2 + 1 + 1 from by omega]
        exact h6
      case measure => simp [intOf]; omega
    · obtain rfl : k = n := by omega
      go_wp2
      go_ret
      exact ⟨rfl, HO.out⟩

/-- the row bears all its marks -/
def MarkedE (w : World) (g n k0 : Nat) : Prop := g < w.heap.size ∧ ∀ j, j < n * 4 → w.cell? ⟨g, j, none⟩ = some (qcell k0 j)
theorem MarkedE.keep {a b : World} {g n k0 : Nat} (h : MarkedE a g n k0) (k : Grows a b) : MarkedE b g n k0 := ⟨Nat.lt_of_lt_of_le h.1 k.size, fun j hj => (k.cell (p := ⟨g, j, none⟩) h.1).trans (h.2 j hj)⟩
theorem ESt.marked {w0 w : World} {base g n c k0 : Nat} (h : ESt w0 w base g n c k0 (n * 4)) : MarkedE w g n k0 := by
  obtain ⟨⟨xs, h1, h2⟩, h3⟩ := h
  refine ⟨(World.ownsRow.lt h1 g rfl).2, fun j hj => ?_⟩
  rw [World.ownsRow.cellAt h1 j hj, h2 j hj]

set_option maxRecDepth 100000 in
set_option maxHeartbeats 4000000 in
theorem heldEntryS_any (g n c k0 : Nat) (w : World) (hn : n ≤ 1048576) (hk0 : k0 ≤ 16777216) (h1 : MarkedE w g n k0) :
    Calls Try.prog 94 #[.slice (some ⟨g, 0, none⟩) n c, .int .i64 k0] w fun e w' => e = .returned (.int .i64 ((k0 + n * 4 : Nat) : Int)) ∧ Grows w w' := by
  have H1 := Lib.hid h1
  clear h1
  go_enter Try.func94, Try.ntmps94
  go_wp2
  go_loopw [1, 5] (fun q i wr => ∃ (k : Nat), k ≤ n ∧ i = .int .i64 k ∧ q = .int .i64 ((k0 + k * 4 : Nat) : Int) ∧ Hid (Grows w wr)) (fun _ i _ => n - (intOf i).toNat)
  case atStart => exact ⟨0, Nat.zero_le _, rfl, rfl, Grows.refl _⟩
  case round =>
    obtain ⟨k, hk, rfl, rfl, HG⟩ := hrel
    by_cases hlt : k < n
    · have HM := Lib.hid (H1.out.keep HG.out)
      have C2 : Hid (∀ w2, Grows wr w2 → w2.cell? ⟨g, k * 4 + 2, none⟩ = some (.int .i64 ((k0 : Int) + k * 4 + 1 + 1))) := fun w2 h => by
        rw [((HM.out.keep h).2 (k * 4 + 2) (by omega)), qcell_i k0 k]
        congr 2
      have HS0 : Hid (∀ w, Calls Try.prog 85 #[.int .i64 ((k0 : Int) + k * 4)] w fun e w' => e = .returned (.string (mtext (k0 + k * 4 + 0))) ∧ Grows w w') := fun w => by
        have h := markText_any (k0 + k * 4 + 0) w (by omega)
        rwa [show ((k0 + k * 4 + 0 : Nat) : Int) = (k0 : Int) + k * 4 from by omega] at h
      have C0 : Hid (∀ w2, Grows wr w2 → w2.cell? ⟨g, k * 4, none⟩ = some (.string (mtext (k0 + k * 4 + 0)))) := fun w2 h => by
        have h9 := (HM.out.keep h).2 (k * 4 + 0) (by omega)
        rw [qcell_s k0 k 0 (by omega) (by omega)] at h9
        exact h9
      have HS1 : Hid (∀ w, Calls Try.prog 85 #[.int .i64 ((k0 : Int) + k * 4 + 1)] w fun e w' => e = .returned (.string (mtext (k0 + k * 4 + 1))) ∧ Grows w w') := fun w => by
        have h := markText_any (k0 + k * 4 + 1) w (by omega)
        rwa [show ((k0 + k * 4 + 1 : Nat) : Int) = (k0 : Int) + k * 4 + 1 from by omega] at h
      have C1 : Hid (∀ w2, Grows wr w2 → w2.cell? ⟨g, k * 4 + 1, none⟩ = some (.string (mtext (k0 + k * 4 + 1)))) := fun w2 h => by
        have h9 := (HM.out.keep h).2 (k * 4 + 1) (by omega)
        rw [qcell_s k0 k 1 (by omega) (by omega)] at h9
        exact h9
      have HS3 : Hid (∀ w, Calls Try.prog 85 #[.int .i64 ((k0 : Int) + k * 4 + 1 + 1 + 1)] w fun e w' => e = .returned (.string (mtext (k0 + k * 4 + 3))) ∧ Grows w w') := fun w => by
        have h := markText_any (k0 + k * 4 + 3) w (by omega)
        rwa [show ((k0 + k * 4 + 3 : Nat) : Int) = (k0 : Int) + k * 4 + 1 + 1 + 1 from by omega] at h
      have C3 : Hid (∀ w2, Grows wr w2 → w2.cell? ⟨g, k * 4 + 3, none⟩ = some (.string (mtext (k0 + k * 4 + 3)))) := fun w2 h => by
        have h9 := (HM.out.keep h).2 (k * 4 + 3) (by omega)
        rw [qcell_s k0 k 3 (by omega) (by omega)] at h9
        exact h9
      obtain ⟨t0, ht0⟩ : ∃ t, mtext (k0 + k * 4 + 0) = t := ⟨_, rfl⟩
      obtain ⟨t1, ht1⟩ : ∃ t, mtext (k0 + k * 4 + 1) = t := ⟨_, rfl⟩
      obtain ⟨t3, ht3⟩ : ∃ t, mtext (k0 + k * 4 + 3) = t := ⟨_, rfl⟩
      rw [ht0] at HS0 C0
      rw [ht1] at HS1 C1
      rw [ht3] at HS3 C3
      clear ht0 ht1 ht3
      go_wp2_with fail
      have b0 := C0.out wr (Grows.refl wr)
      go_region_held3 (fun w' => w'.cell? ⟨g, k * 4, none⟩ = some (.string t0)) (go_keep) (first | (go_at_call 85; refine (HS0.out _).mono ?_; rintro e w1 ⟨rfl, g1⟩; have d1 := C0.out w1 ((Grows.refl wr).drew.trans g1)))
      have K1 : Hid (Grows wr w1) := (Grows.refl wr).drew.trans g1
      clear g1 b0 d1
      go_wp2_with fail
      have b1 := C1.out w1 (K1.out)
      go_region_held3 (fun w' => w'.cell? ⟨g, k * 4 + 1, none⟩ = some (.string t1)) (go_keep) (first | (go_at_call 85; refine (HS1.out _).mono ?_; rintro e w2 ⟨rfl, g2⟩; have d2 := C1.out w2 ((K1.out).drew.trans g2)))
      have K2 : Hid (Grows wr w2) := (K1.out).drew.trans g2
      have b2 := C2.out w2 K2.out
      clear g2 b1 d2
      go_wp2_with fail
      have b3 := C3.out w2 (K2.out)
      clear b2
      go_region_held3 (fun w' => w'.cell? ⟨g, k * 4 + 3, none⟩ = some (.string t3)) (go_keep) (first | (go_at_call 85; refine (HS3.out _).mono ?_; rintro e w4 ⟨rfl, g4⟩; have d4 := C3.out w4 ((K2.out).drew.trans g4)))
      have K4 : Hid (Grows wr w4) := (K2.out).drew.trans g4
      clear g4 b3 d4
      go_wp2_with fail
      go_roundw
      case rel => exact ⟨k + 1, by omega, by go_num, by go_num, HG.out.trans K4.out⟩
      case measure => simp [intOf]; omega
    · obtain rfl : k = n := by omega
      go_wp2
      go_ret
      exact ⟨rfl, HG.out⟩

/-- the row of n entries bears its marks, and nothing else has turned -/
def SignedE (w w' : World) (base : Nat) (v : Value) (n k0 : Nat) : Prop := OwnQ w' base v n (qcells k0 n) ∧ Only v w w'
theorem ESt.signed {w0 w : World} {base g n c k0 : Nat} (h : ESt w0 w base g n c k0 (n * 4)) : SignedE w0 w base (.slice (some ⟨g, 0, none⟩) n c) n k0 := by
  obtain ⟨⟨xs, h1, h2⟩, h3⟩ := h
  rw [h2.all h1.size] at h1
  exact ⟨h1, h3⟩
set_option maxRecDepth 100000 in
set_option maxHeartbeats 1000000 in
theorem markEntryS_row (v : Value) (base n k0 : Nat) (xs : List Value) (w : World) (hn : n ≤ 1048576) (hk0 : k0 ≤ 16777216) (h1 : OwnQ w base v n xs) :
    Calls Try.prog 93 #[v, .int .i64 k0] w fun e w' => e = .returned (.int .i64 ((k0 + n * 4 : Nat) : Int)) ∧ SignedE w w' base v n k0 := by
  obtain ⟨A, c, rfl, hA⟩ := h1.form
  rcases Nat.eq_zero_or_pos n with h0 | h0
  · subst h0
    have hx : xs = [] := List.eq_nil_of_length_eq_zero (by rw [h1.size])
    subst hx
    have HS : Hid (SignedE w w base (.slice A 0 c) 0 k0) := ⟨h1, Only.refl _ _⟩
    clear h1 hA
    go_enter Try.func93, Try.ntmps93
    go_wp2
    go_loopw [1, 5] (fun q i wr => i = .int .i64 0 ∧ q = .int .i64 k0 ∧ wr = w) (fun _ _ _ => 0)
    case atStart => exact ⟨rfl, rfl, rfl⟩
    case round =>
      obtain ⟨rfl, rfl, rfl⟩ := hrel
      go_wp2
      go_ret
      exact ⟨by simp, HS.out⟩
  · obtain ⟨g, rfl, _⟩ := hA h0
    exact (markEntryS_own base g n c k0 xs w hn hk0 h1).mono (fun e w' ⟨h2, h3⟩ => ⟨h2, h3.signed⟩)

theorem SignedE.alloc {w w' : World} {base n k0 : Nat} {v : Value} {o : Obj} (h : SignedE (w.alloc o) w' base v n k0) : SignedE w w' base v n k0 :=
  ⟨h.1, ⟨h.2.os, h.2.tape, h.2.output, Nat.le_trans (by simp) h.2.size, fun i hi hne => (h.2.block i (Nat.lt_of_lt_of_le hi (by simp)) hne).trans (Below.heap_alloc _ _ _ hi)⟩⟩

set_option maxRecDepth 100000 in
set_option maxHeartbeats 1000000 in
theorem markLayer_own (v : Value) (base n k0 : Nat) (xs : List Value) (w : World) (hn : n ≤ 1048576) (hk0 : k0 ≤ 16777216) (h1 : OwnQ w base v n xs) :
    Calls Try.prog 57 #[.agg #[v], .int .i64 k0] w fun e w' => e = .returned (.int .i64 ((k0 + n * 4 : Nat) : Int)) ∧ SignedE w w' base v n k0 := by
  have HS := Lib.hid (fun w1 (k : Grows w w1) => markEntryS_row v base n k0 xs w1 hn hk0 (h1.keep k))
  obtain ⟨A, c, rfl, _⟩ := h1.form
  clear h1
  go_enter Try.func57, Try.ntmps57
  go_wp2_with fail
  refine (HS.out _ ((Grows.refl _).alloc _)).mono ?_
  rintro e w1 ⟨rfl, g1⟩
  have S1 := Lib.hid g1
  clear g1
  go_wp2
  go_ret
  exact ⟨rfl, S1.out.alloc⟩

set_option maxRecDepth 100000 in
set_option maxHeartbeats 1000000 in
theorem heldEntryS_row (v : Value) (base n k0 : Nat) (w : World) (hn : n ≤ 1048576) (hk0 : k0 ≤ 16777216) (h1 : OwnQ w base v n (qcells k0 n)) :
    Calls Try.prog 94 #[v, .int .i64 k0] w fun e w' => e = .returned (.int .i64 ((k0 + n * 4 : Nat) : Int)) ∧ Grows w w' := by
  obtain ⟨A, c, rfl, hA⟩ := h1.form
  rcases Nat.eq_zero_or_pos n with h0 | h0
  · subst h0
    clear h1 hA
    go_enter Try.func94, Try.ntmps94
    go_wp2
    go_loopw [1, 5] (fun q i wr => i = .int .i64 0 ∧ q = .int .i64 k0 ∧ wr = w) (fun _ _ _ => 0)
    case atStart => exact ⟨rfl, rfl, rfl⟩
    case round =>
      obtain ⟨rfl, rfl, rfl⟩ := hrel
      go_wp2
      go_ret
      exact ⟨by simp, Grows.refl _⟩
  · obtain ⟨g, rfl, _, hg, hc, _⟩ := hA h0
    exact heldEntryS_any g n c k0 w hn hk0 ⟨hg, fun j hj => (hc j hj).trans (qcells_get k0 n j hj)⟩

set_option maxRecDepth 100000 in
set_option maxHeartbeats 1000000 in
theorem heldLayer_own (v : Value) (base n k0 : Nat) (w : World) (hn : n ≤ 1048576) (hk0 : k0 ≤ 16777216) (h1 : OwnQ w base v n (qcells k0 n)) :
    Calls Try.prog 58 #[.agg #[v], .int .i64 k0] w fun e w' => e = .returned (.int .i64 ((k0 + n * 4 : Nat) : Int)) ∧ Grows w w' := by
  have HS := Lib.hid (fun w1 (k : Grows w w1) => heldEntryS_row v base n k0 w1 hn hk0 (h1.keep k))
  obtain ⟨A, c, rfl, _⟩ := h1.form
  clear h1
  obtain ⟨m, hm⟩ : ∃ m : Int, ((k0 + n * 4 : Nat) : Int) = m := ⟨_, rfl⟩
  have hm0 : 0 ≤ m := by omega
  rw [hm] at HS ⊢
  clear hm
  go_enter Try.func58, Try.ntmps58
  go_wp2_with fail
  refine (HS.out _ ((Grows.refl _).alloc _)).mono ?_
  rintro e w1 ⟨rfl, g1⟩
  have G1 := Lib.hid (((Grows.refl w).alloc _).trans g1)
  clear g1
  have hd : decide (m < 0) = false := by simp; omega
  go_wp2
  go_ret
  exact ⟨rfl, G1.out⟩
end Go.Proofs.Yteifcogfnpeahaa
