/-
  Rows of numbers: what they are, their marks, and their comparison. Conditions: at most 1048576 numbers.
-/
import Derived.Test.YtcecjdjfbgmogaaDoorGrow
import Derived.Test.YtcecjdjfbgmogaaDoorRdr
namespace Go.Proofs.YtcecjdjfbgmogaaDoor
open Go.RowKit

/-- texts as cells -/
def ints' (l : List Int) : List Value := l.map (Value.int .i64)
theorem intI_length (l : List Int) : (ints' l).length = l.length := by simp [ints']
theorem intI_get (l : List Int) (i : Nat) (h : i < l.length) : (ints' l)[i]? = some (.int .i64 l[i]) := by simp [ints', h]
theorem intI_snoc (l : List Int) (x : Int) : ints' (l ++ [x]) = ints' l ++ [.int .i64 x] := by simp [ints']
/-- the slice v owns the texts xs -/
def OwnI (w : World) (base : Nat) (v : Value) (xs : List Int) : Prop := w.ownsRow base 3 1 v xs.length (ints' xs)
/-- a slice of texts: nil or at the head of a row -/
theorem OwnI.form {w : World} {base : Nat} {v : Value} {xs : List Int} (h : OwnI w base v xs) : ∃ A c, v = .slice A xs.length c ∧ (0 < xs.length → ∃ g, A = some ⟨g, 0, none⟩ ∧ base ≤ g ∧ g < w.heap.size ∧
    (∀ i (hi : i < xs.length), w.cell? ⟨g, i, none⟩ = some (.int .i64 xs[i])) ∧ ∀ i, w.frozen? ⟨g, i, none⟩ = false) := by
  rcases Nat.eq_zero_or_pos xs.length with h0 | h0
  · rcases h.2 with ⟨rfl, _⟩ | ⟨g, cap, cur, rfl, _⟩
    · exact ⟨none, 0, by rw [h0], fun hh => absurd hh (by omega)⟩
    · exact ⟨_, _, rfl, fun hh => absurd hh (by omega)⟩
  · obtain ⟨g, cap, hv, hb, hlt⟩ := World.ownsRow.form h h0
    subst hv
    refine ⟨_, _, rfl, fun _ => ⟨g, rfl, hb, hlt, fun i hi => ?_, fun i => World.ownsRow.frozenAt h i⟩⟩
    rw [World.ownsRow.cellAt h i (by omega), intI_get _ _ hi]

set_option maxRecDepth 100000 in
set_option maxHeartbeats 1000000 in
theorem eqIntS_any (v u : Value) (b1 b2 : Nat) (xs : List Int) (w : World) (hn : xs.length ≤ 1048576) (h1 : OwnI w b1 v xs) (h2 : OwnI w b2 u xs) :
    Calls Tryd.prog 22 #[v, u] w fun e w' => e = .returned (.bool true) ∧ Grows w w' := by
  obtain ⟨A, c, rfl, hA⟩ := h1.form
  obtain ⟨B, d, rfl, hB⟩ := h2.form
  have HA := Lib.hid hA
  have HB := Lib.hid hB
  clear h1 h2 hA hB
  obtain ⟨n, hnn⟩ : ∃ n, xs.length = n := ⟨_, rfl⟩
  rw [hnn] at hn
  rw [hnn]
  have HN := Lib.hid hnn
  clear hnn
  go_enter Tryd.func22, Tryd.ntmps22
  go_wp2
  go_loopw [5] (fun i wr => ∃ k : Nat, k ≤ n ∧ i = .int .i64 k ∧ Grows w wr) (fun i _ => n - (intOf i).toNat)
  case atStart => exact ⟨0, Nat.zero_le _, rfl, Grows.refl _⟩
  case round =>
    obtain ⟨k, hk, rfl, hg⟩ := hrel
    have HG := Lib.hid hg
    clear hg
    by_cases hlt : k < n
    · have hk2 : k < xs.length := by rw [HN.out]; exact hlt
      obtain ⟨g, rfl, _, hg1, hc, _⟩ := HA.out (by omega)
      obtain ⟨g2, rfl, _, hg2, hc2, _⟩ := HB.out (by omega)
      have c0 := (HG.out.cell (p := ⟨g, k, none⟩) hg1).trans (hc k hk2)
      have c1 := (HG.out.cell (p := ⟨g2, k, none⟩) hg2).trans (hc2 k hk2)
      obtain ⟨x, hx⟩ : ∃ x, xs[k] = x := ⟨_, rfl⟩
      rw [hx] at c0 c1
      clear hx hc hc2
      go_wp2_with fail
      go_quiet (fail)
      go_wp2
      go_roundw
      case rel => exact ⟨k + 1, by omega, by go_num, HG.out.drewN _⟩
      case measure => simp [intOf]; omega
    · go_wp2
      go_ret
      exact ⟨rfl, HG.out⟩

set_option maxRecDepth 100000 in
set_option maxHeartbeats 1000000 in
theorem equalInts_any (v u : Value) (b1 b2 : Nat) (xs : List Int) (w : World) (hn : xs.length ≤ 1048576) (h1 : OwnI w b1 v xs) (h2 : OwnI w b2 u xs) :
    Calls Tryd.prog 28 #[v, u] w fun e w' => e = .returned (.bool true) ∧ Grows w w' := by
  obtain ⟨A, c, rfl, hA⟩ := h1.form
  obtain ⟨B, d, rfl, hB⟩ := h2.form
  have HA := Lib.hid hA
  have HB := Lib.hid hB
  clear h1 h2 hA hB
  obtain ⟨n, hnn⟩ : ∃ n, xs.length = n := ⟨_, rfl⟩
  rw [hnn] at hn
  rw [hnn]
  have HN := Lib.hid hnn
  clear hnn
  go_enter Tryd.func28, Tryd.ntmps28
  go_wp2
  go_loopw [5] (fun i wr => ∃ k : Nat, k ≤ n ∧ i = .int .i64 k ∧ Grows w wr) (fun i _ => n - (intOf i).toNat)
  case atStart => exact ⟨0, Nat.zero_le _, rfl, Grows.refl _⟩
  case round =>
    obtain ⟨k, hk, rfl, hg⟩ := hrel
    have HG := Lib.hid hg
    clear hg
    by_cases hlt : k < n
    · have hk2 : k < xs.length := by rw [HN.out]; exact hlt
      obtain ⟨g, rfl, _, hg1, hc, _⟩ := HA.out (by omega)
      obtain ⟨g2, rfl, _, hg2, hc2, _⟩ := HB.out (by omega)
      have c0 := (HG.out.cell (p := ⟨g, k, none⟩) hg1).trans (hc k hk2)
      have c1 := (HG.out.cell (p := ⟨g2, k, none⟩) hg2).trans (hc2 k hk2)
      obtain ⟨x, hx⟩ : ∃ x, xs[k] = x := ⟨_, rfl⟩
      rw [hx] at c0 c1
      clear hx hc hc2
      go_wp2_with fail
      go_quiet (fail)
      go_wp2
      go_roundw
      case rel => exact ⟨k + 1, by omega, by go_num, HG.out.drewN _⟩
      case measure => simp [intOf]; omega
    · go_wp2
      go_ret
      exact ⟨rfl, HG.out⟩

/-- the marks that a row of n numbers gets from k on -/
def markI (k n : Nat) : List Int := (List.range n).map fun i => ((k + i : Nat) : Int)
theorem markI_length (k n : Nat) : (markI k n).length = n := by simp [markI]
theorem markI_get (k n i : Nat) (h : i < (markI k n).length) : (markI k n)[i] = ((k + i : Nat) : Int) := by simp [markI]
theorem OwnI.keep {w w' : World} {base : Nat} {v : Value} {xs : List Int} (h : OwnI w base v xs) (g : Grows w w') : OwnI w' base v xs := by
  have hlt := World.ownsRow.lt h
  refine World.ownsRow.kept (row := some w.heap.size) h ⟨g.os, g.tape, g.output, g.size, fun i hi _ => g.block i hi⟩ ?_
  rcases hb : v.ownBlock with _ | k
  · exact .inl rfl
  · exact .inr (fun e => by
      have := (hlt k hb).2
      injection e with e
      omega)
theorem OwnI.set_ {w : World} {base g n c : Nat} {xs : List Int} (h : OwnI w base (.slice (some ⟨g, 0, none⟩) n c) xs) (k : Nat) (x : Int) : OwnI (w.setCell ⟨g, k, none⟩ (.int .i64 x)) base (.slice (some ⟨g, 0, none⟩) n c) (xs.set k x) := by
  obtain ⟨A', c', hv, _⟩ := h.form
  injection hv with _ e2 _
  subst e2
  have := (World.ownsRow.stored h k (.int .i64 x)).1
  unfold OwnI
  rw [List.length_set]
  have e : ints' (xs.set k x) = (ints' xs).set k (.int .i64 x) := by simp [ints', List.map_set]
  rw [e]
  exact this


set_option maxRecDepth 100000 in
set_option maxHeartbeats 1000000 in
theorem markIntS_any (v : Value) (base : Nat) (xs : List Int) (k0 : Nat) (w : World) (hn : xs.length ≤ 1048576) (hk0 : k0 ≤ 16777216) (h1 : OwnI w base v xs) :
    Calls Tryd.prog 25 #[v, .int .i64 k0] w fun e w' => e = .returned (.int .i64 ((k0 + xs.length : Nat) : Int)) ∧ OwnI w' base v (markI k0 xs.length) ∧ Only v w w' := by
  obtain ⟨A, c, hv, hA⟩ := h1.form
  subst hv
  have H1 := Lib.hid h1
  clear h1 hA
  obtain ⟨n, hnn⟩ : ∃ n, xs.length = n := ⟨_, rfl⟩
  rw [hnn] at hn H1
  rw [hnn]
  have HN := Lib.hid hnn
  clear hnn
  go_enter Tryd.func25, Tryd.ntmps25
  go_wp2
  go_loopw [1, 5] (fun q i wr => ∃ (k : Nat) (ys : List Int), k ≤ n ∧ i = .int .i64 k ∧ q = .int .i64 ((k0 + k : Nat) : Int) ∧ Hid (ys.length = n) ∧ Hid (OwnI wr base (.slice A n c) ys) ∧ Hid (∀ j (h : j < ys.length), j < k → ys[j] = ((k0 + j : Nat) : Int)) ∧ Hid (Only (.slice A n c) w wr)) (fun _ i _ => n - (intOf i).toNat)
  case atStart => exact ⟨0, xs, Nat.zero_le _, rfl, rfl, HN, H1.out, fun j _ h => absurd h (Nat.not_lt_zero _), Only.refl _ _⟩
  case round =>
    obtain ⟨k, ys, hk, rfl, rfl, HL, HO, HM, HY⟩ := hrel
    by_cases hlt : k < n
    · obtain ⟨A', c', hv', hA'⟩ := HO.out.form
      injection hv' with e1 e2 e3
      subst e1; subst e3
      obtain ⟨g, rfl, hgb, hg1, hc, hfz⟩ := hA' (by rw [HL.out]; omega)
      have hky : k < ys.length := by rw [HL.out]; exact hlt
      have c0 := hc k hky
      have f0 := hfz k
      have HG := Lib.hid hg1
      clear hc hfz e2 hA'
      go_wp2_with fail
      go_roundw
      case rel =>
        refine ⟨k + 1, ys.set k ((k0 + k : Nat) : Int), by omega, by go_num, by go_num, by unfold Hid; rw [List.length_set]; exact HL.out, ?_, ?_, ?_⟩
        · have h1 := HO.out.set_ k ((k0 + k : Nat) : Int)
          first | exact h1 | (rw [show ((k0 + k : Nat) : Int) = (k0 : Int) + k from by omega] at h1 ⊢; exact h1)
        · intro j hj hjk
          rw [List.getElem_set]
          split
          · rename_i e; rw [← e]
          · exact HM.out j (by simpa using hj) (by omega)
        · exact HY.out.set_ rfl k _
      case measure => simp [intOf]; omega
    · obtain rfl : k = n := by omega
      have HYM : Hid (ys = markI k0 k) := by
        unfold Hid
        apply List.ext_getElem (by rw [markI_length, HL.out])
        intro j h1 h2
        rw [markI_get]
        exact HM.out j h1 (by rw [← HL.out]; exact h1)
      go_wp2
      go_ret
      rw [← HYM.out]
      exact ⟨rfl, HO.out, HY.out⟩

set_option maxRecDepth 100000 in
set_option maxHeartbeats 1000000 in
theorem heldIntS_any (v : Value) (base n k0 : Nat) (w : World) (hn : n ≤ 1048576) (hk0 : k0 ≤ 16777216) (h1 : OwnI w base v (markI k0 n)) :
    Calls Tryd.prog 26 #[v, .int .i64 k0] w fun e w' => e = .returned (.int .i64 ((k0 + n : Nat) : Int)) ∧ Grows w w' := by
  obtain ⟨A, c, hv, hA⟩ := h1.form
  subst hv
  have HA := Lib.hid hA
  have HN := Lib.hid (markI_length k0 n)
  rw [markI_length]
  clear h1 hA
  go_enter Tryd.func26, Tryd.ntmps26
  go_wp2
  go_loopw [1, 5] (fun q i wr => ∃ (k : Nat), k ≤ n ∧ i = .int .i64 k ∧ q = .int .i64 ((k0 + k : Nat) : Int) ∧ Grows w wr) (fun _ i _ => n - (intOf i).toNat)
  case atStart => exact ⟨0, Nat.zero_le _, rfl, rfl, Grows.refl _⟩
  case round =>
    obtain ⟨k, hk, rfl, rfl, hg⟩ := hrel
    have HG := Lib.hid hg
    clear hg
    by_cases hlt : k < n
    · obtain ⟨g, rfl, _, hg1, hc, _⟩ := HA.out (by rw [HN.out]; omega)
      have hky : k < (markI k0 n).length := by rw [HN.out]; exact hlt
      have c0 := (HG.out.cell (p := ⟨g, k, none⟩) hg1).trans (hc k hky)
      rw [markI_get] at c0
      clear hc hky
      go_wp2
      all_goals
        go_roundw
        case rel => exact ⟨k + 1, by omega, by go_num, by go_num, HG.out⟩
        case measure => simp [intOf]; omega
    · obtain rfl : k = n := by omega
      go_wp2
      go_ret
      exact ⟨rfl, HG.out⟩
theorem OwnI.nil (w : World) (base : Nat) : OwnI w base (.slice none 0 0) [] := World.ownsRow_nil _ _ _ _
theorem OwnI.empty (w : World) (base : Nat) (hb : base ≤ w.heap.size) : OwnI (w.alloc (.cells #[] 3)) base (.slice (some ⟨w.heap.size, 0, none⟩) 0 0) [] :=
  World.ownsRow_lit w #[] 0 hb (Nat.zero_le _) rfl
theorem OwnI.less {w : World} {base base' : Nat} {v : Value} {xs : List Int} (h : OwnI w base v xs) (hb : base' ≤ base) : OwnI w base' v xs := by
  refine ⟨h.1, ?_⟩
  rcases h.2 with h2 | ⟨g, cap, cur, hv, hg, hr⟩
  · exact .inl h2
  · exact .inr ⟨g, cap, cur, hv, by omega, hr⟩

theorem OwnI.far {a b : World} {base : Nat} {v : Value} {xs : List Int} {row : Option Nat} (h : OwnI a base v xs) (hg : a.grownBy b row) (hne : ∀ k, v.ownBlock = some k → row ≠ some k) : OwnI b base v xs := by
  refine World.ownsRow.kept h hg ?_
  rcases hb : v.ownBlock with _ | k
  · exact .inl rfl
  · exact .inr (fun e => hne k hb e.symm)
theorem OwnI.setFar {w : World} {base : Nat} {v : Value} {K : List Int} (h : OwnI w base v K) {p i : Nat} (hp : v.ownBlock ≠ some p) (u : Value) : OwnI (w.setCell ⟨p, i, none⟩ u) base v K :=
  OwnI.far h (row := some p) (gb_set (World.grownBy.refl _ _) i u) (fun k hk e => by
    injection e with e
    subst e
    exact hp hk)

theorem infoI : (Tryd.prog.info? 3).map (fun i => (i.zero, i.size, i.bytes)) = some (some (.int .i64 0), 1, 8) := by kernel_rfl
/-- append of one number to a row of one's own -/
theorem OwnI.info : ∃ i0, Tryd.prog.info? 3 = some i0 ∧ i0.zero = some (.int .i64 0) ∧ i0.size = 1 ∧ i0.bytes = 8 := info_parts infoI

theorem OwnI.atC {w : World} {base : Nat} {v : Value} {xs : List Int} (h : OwnI w base v xs) : ∃ A c, v = .slice A xs.length c ∧ (0 < xs.length → ∃ g, A = some ⟨g, 0, none⟩ ∧ base ≤ g ∧ g < w.heap.size ∧ ∀ i (hi : i < xs.length), w.cell? ⟨g, i, none⟩ = some (.int .i64 xs[i])) := by
  obtain ⟨A, c, hv, hA⟩ := h.form
  exact ⟨A, c, hv, fun h0 => by obtain ⟨g, h1, h2, h3, h4, _⟩ := hA h0; exact ⟨g, h1, h2, h3, h4⟩⟩
def inI (xs : List Int) (k : Int) : Bool := xs.any (fun x => x == k)
set_option maxRecDepth 100000 in
set_option maxHeartbeats 1000000 in
theorem isIn_any (v : Value) (base : Nat) (xs : List Int) (y : Nat) (w : World) (hn : xs.length ≤ 1048576) (h1 : OwnI w base v xs) :
    Calls Tryd.prog 29 #[v, .int .i64 y] w fun e w' => e = .returned (.bool (inI xs y)) ∧ w = w' := by
  obtain ⟨A, c, rfl, hA⟩ := h1.atC
  have HA := Lib.hid hA
  clear h1 hA
  obtain ⟨n, hnn⟩ : ∃ n, xs.length = n := ⟨_, rfl⟩
  rw [hnn] at hn
  rw [hnn]
  have HN := Lib.hid hnn
  clear hnn
  go_enter Tryd.func29, Tryd.ntmps29
  go_wp2
  go_loop [5] (fun i => ∃ k : Nat, k ≤ n ∧ i = .int .i64 k ∧ Hid (inI (xs.take k) y = false)) (fun i => n - (intOf i).toNat)
  case atStart => exact ⟨0, Nat.zero_le _, rfl, by unfold Hid inI; simp⟩
  case round =>
    obtain ⟨k, hk, rfl, HI⟩ := hrel
    by_cases hlt : k < n
    · have hk2 : k < xs.length := by rw [HN.out]; exact hlt
      obtain ⟨g, rfl, _, hg1, hc⟩ := HA.out (by omega)
      have c0 := hc k hk2
      have HT : Hid (inI (xs.take (k + 1)) y = (inI (xs.take k) y || (xs[k] == (y : Int)))) := by
        unfold Hid inI
        rw [List.take_succ_eq_append_getElem hk2, List.any_append]
        simp
      have HX : Hid (xs[k] ∈ xs) := List.getElem_mem hk2
      obtain ⟨x, hx⟩ : ∃ x, xs[k] = x := ⟨_, rfl⟩
      rw [hx] at c0 HT HX
      clear hx hc
      by_cases he : x = (y : Int)
      · have hb : (x == (y : Int)) = true := by rw [he]; simp
        have HV : Hid (inI xs y = true) := by
          unfold Hid inI
          rw [List.any_eq_true]
          exact ⟨x, HX.out, hb⟩
        subst he
        go_wp2
        go_ret
        exact ⟨ret_bool HV.out.symm, rfl⟩
      · have hb : (x == (y : Int)) = false := beq_eq_false_iff_ne.2 he
        have HV : Hid (inI (xs.take (k + 1)) y = false) := by unfold Hid; rw [HT.out, HI.out, hb]; rfl
        clear he
        go_wp2
        go_round
        case rel => exact ⟨k + 1, by omega, by go_num, HV⟩
        case measure => simp [intOf]; omega
    · obtain rfl : k = n := by omega
      have HV : Hid (inI xs y = false) := by
        have h := HI.out
        rw [List.take_of_length_le (by rw [HN.out]; exact Nat.le_refl _)] at h
        exact h
      go_wp2
      go_ret
      exact ⟨ret_bool HV.out.symm, rfl⟩

/-- each is less than the next one -/
def ascI (xs : List Int) : Prop := ∀ i (h : i + 1 < xs.length), xs[i] < xs[i + 1]
set_option maxRecDepth 100000 in
set_option maxHeartbeats 1000000 in
theorem ascends_any (v : Value) (base : Nat) (xs : List Int) (w : World) (hn : xs.length ≤ 1048576) (hs : ascI xs) (h1 : OwnI w base v xs) :
    Calls Tryd.prog 31 #[v] w fun e w' => e = .returned (.bool true) ∧ Grows w w' := by
  obtain ⟨A, c, rfl, hA⟩ := h1.atC
  have HA := Lib.hid hA
  have HS := Lib.hid hs
  clear h1 hA hs
  obtain ⟨n, hnn⟩ : ∃ n, xs.length = n := ⟨_, rfl⟩
  rw [hnn] at hn
  rw [hnn]
  have HN := Lib.hid hnn
  clear hnn
  go_enter Tryd.func31, Tryd.ntmps31
  go_wp2
  go_loopw [3] (fun i wr => ∃ k : Nat, i = .int .i64 ((k : Int) + 1) ∧ k ≤ n ∧ Grows w wr) (fun i _ => n + 1 - (intOf i).toNat)
  case atStart => exact ⟨0, rfl, Nat.zero_le _, Grows.refl _⟩
  case round =>
    obtain ⟨k, rfl, hk, hg⟩ := hrel
    have HG := Lib.hid hg
    clear hg
    by_cases hlt : k + 1 < n
    · have hk2 : k + 1 < xs.length := by rw [HN.out]; exact hlt
      obtain ⟨g, rfl, _, hg1, hc⟩ := HA.out (by omega)
      have c0 := (HG.out.cell (p := ⟨g, k, none⟩) hg1).trans (hc k (by omega))
      have c1 := (HG.out.cell (p := ⟨g, k + 1, none⟩) hg1).trans (hc (k + 1) hk2)
      have hlx := HS.out k hk2
      obtain ⟨x, hx⟩ : ∃ x, xs[k] = x := ⟨_, rfl⟩
      obtain ⟨y, hy⟩ : ∃ y, xs[k + 1] = y := ⟨_, rfl⟩
      rw [hx] at c0 hlx
      rw [hy] at c1 hlx
      clear hx hy hc
      have hlti : (k : Int) + 1 < (n : Int) := by omega
      have k1 : IntKind.i64.wrap ((k : Int) + 1 - 1) = (k : Int) := by rw [show (k : Int) + 1 - 1 = (k : Int) from by omega]; exact IntWalk.i64_in _ (by omega)
      have k2 : ((k : Int) + 1).toNat = k + 1 := by omega
      have k3 : (0 : Int) ≤ (k : Int) + 1 := by omega
      have hyx : ¬ y ≤ x := by omega
      have hyd : decide (y ≤ x) = false := decide_eq_false hyx
      go_wp2_with fail
      go_quiet (fail)
      clear k1 k2 k3
      go_wp2
      go_roundw
      case rel => exact ⟨k + 1, by go_num, by omega, HG.out.drewN _⟩
      case measure => simp [intOf]; omega
    · have hlti : ¬ (k : Int) + 1 < (n : Int) := by omega
      go_wp2
      go_ret
      exact ⟨rfl, HG.out⟩
end Go.Proofs.YtcecjdjfbgmogaaDoor
