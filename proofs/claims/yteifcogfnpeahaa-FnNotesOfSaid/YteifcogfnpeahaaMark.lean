/-
  The law's own marks: markText. Condition: numbers below 2^62.
-/
import Derived.Test.YteifcogfnpeahaaSec
namespace Go.Proofs.Yteifcogfnpeahaa
open Go.RowKit

/-- decimal digits ahead of a text -/
def dg (k : Nat) (acc : List UInt8) : List UInt8 := if h : k = 0 then acc else dg (k / 10) (UInt8.ofNat (48 + k % 10) :: acc)
termination_by k
decreasing_by omega
def mtext (k : Nat) : ByteArray := ⟨(109 :: (if k = 0 then [48] else dg k [])).toArray⟩

set_option maxRecDepth 100000 in
set_option maxHeartbeats 1000000 in
theorem markText_any (k : Nat) (w : World) (hk : k ≤ 4611686018427387904) :
    Calls Try.prog 85 #[.int .i64 k] w fun e w' => e = .returned (.string (mtext k)) ∧ Grows w w' := by
  by_cases h0 : k = 0
  · subst h0
    have HV : Hid (mtext 0 = ⟨#[109, 48]⟩) := rfl
    go_enter Try.func85, Try.ntmps85
    go_wp2
    go_ret
    exact ⟨ret_str HV.out.symm, Grows.refl _⟩
  · have h1 : 0 < k := by omega
    go_enter Try.func85, Try.ntmps85
    go_wp2
    go_loopw [0, 3] (fun v o wr => ∃ (j : Nat) (t : ByteArray), v = .int .i64 j ∧ o = .string t ∧ j ≤ k ∧ t.size + j ≤ k ∧ Hid (dg k [] = dg j t.data.toList) ∧ Grows w wr) (fun v _ _ => (intOf v).toNat)
    case atStart => exact ⟨k, ⟨#[]⟩, rfl, rfl, Nat.le_refl _, by show 0 + k ≤ k; omega, rfl, Grows.refl _⟩
    case round =>
      obtain ⟨j, t, rfl, rfl, hj, hs, HD, hg⟩ := hrel
      have HG := Lib.hid hg
      clear hg
      by_cases hj0 : 0 < j
      · have hd8 : (UInt8.ofNat (48 + j % 10)).toNat = 48 + j % 10 := by
          rw [UInt8.toNat_ofNat']; omega
        have hcv : (convert 22 9 (.slice (some ⟨wr.heap.size, 0, none⟩) 1 1)).run Try.prog (wr.alloc (.cells #[.int .u8 (48 + (j : Int) % 10)] 5)) = .ok (.string ⟨#[UInt8.ofNat (48 + j % 10)]⟩) (wr.alloc (.cells #[.int .u8 (48 + (j : Int) % 10)] 5)) :=
          run_convert_bytes_back (P := Try.prog) (wr.alloc (.cells #[.int .u8 (48 + (j : Int) % 10)] 5)) 22 9 5 ⟨wr.heap.size, 0, none⟩ 1 [UInt8.ofNat (48 + j % 10)] Try.underlying22 Try.underlying5 Try.underlying9 (fun i hi => by
            obtain rfl : i = 0 := by simpa using hi
            have h9 : ((UInt8.ofNat (48 + j % 10)).toNat : Int) = 48 + (j : Int) % 10 := by rw [hd8]; omega
            simp only [List.getElem_cons_zero, h9]
            simp [Addr.add])
        have HB : Hid (dg k [] = dg (j / 10) (UInt8.ofNat (48 + j % 10) :: t.data.toList)) := by
          have e : dg j t.data.toList = dg (j / 10) (UInt8.ofNat (48 + j % 10) :: t.data.toList) := by rw [dg, dif_neg (by omega)]
          exact HD.out.trans e
        obtain ⟨d, hd⟩ : ∃ d, UInt8.ofNat (48 + j % 10) = d := ⟨_, rfl⟩
        rw [hd] at hcv HB
        clear hd hd8
        have h64 : t.size ≤ 4611686018427387904 := by omega
        have HT : Hid ((⟨#[d]⟩ ++ t : ByteArray).data.toList = d :: t.data.toList) := by unfold Hid; rw [ByteArray.data_append]; simp
        have HZ : Hid ((⟨#[d]⟩ ++ t : ByteArray).size = 1 + t.size) := by unfold Hid; rw [ByteArray.size_append]; rfl
        go_wp2
        go_roundw
        case rel => exact ⟨j / 10, ⟨#[d]⟩ ++ t, by simp, rfl, by omega, by rw [HZ.out]; omega, by unfold Hid; rw [HT.out]; exact HB.out, HG.out.alloc _⟩
        case measure => simp [intOf]; omega
      · obtain rfl : j = 0 := by omega
        have HV : Hid (mtext k = ⟨#[109]⟩ ++ t) := by
          unfold Hid mtext
          have h2 : dg k [] = t.data.toList := HD.out.trans (by rw [dg, dif_pos rfl])
          rw [if_neg (by omega), h2]
          apply ByteArray.ext
          rw [ByteArray.data_append]
          simp
        go_wp2
        go_ret
        exact ⟨ret_str HV.out.symm, HG.out⟩

/-- texts as cells -/
def strs' (l : List ByteArray) : List Value := l.map Value.string
theorem strs_length (l : List ByteArray) : (strs' l).length = l.length := by simp [strs']
theorem strs_get (l : List ByteArray) (i : Nat) (h : i < l.length) : (strs' l)[i]? = some (.string l[i]) := by simp [strs', h]
theorem strs_snoc (l : List ByteArray) (x : ByteArray) : strs' (l ++ [x]) = strs' l ++ [.string x] := by simp [strs']
/-- the slice v owns the texts xs -/
def OwnS (w : World) (base : Nat) (v : Value) (xs : List ByteArray) : Prop := w.ownsRow base 9 1 v xs.length (strs' xs)
/-- a slice of texts: nil or at the head of a row -/
theorem OwnS.form {w : World} {base : Nat} {v : Value} {xs : List ByteArray} (h : OwnS w base v xs) : ∃ A c, v = .slice A xs.length c ∧ (0 < xs.length → ∃ g, A = some ⟨g, 0, none⟩ ∧ base ≤ g ∧ g < w.heap.size ∧
    (∀ i (hi : i < xs.length), w.cell? ⟨g, i, none⟩ = some (.string xs[i])) ∧ ∀ i, w.frozen? ⟨g, i, none⟩ = false) := by
  rcases Nat.eq_zero_or_pos xs.length with h0 | h0
  · rcases h.2 with ⟨rfl, _⟩ | ⟨g, cap, cur, rfl, _⟩
    · exact ⟨none, 0, by rw [h0], fun hh => absurd hh (by omega)⟩
    · exact ⟨_, _, rfl, fun hh => absurd hh (by omega)⟩
  · obtain ⟨g, cap, hv, hb, hlt⟩ := World.ownsRow.form h h0
    subst hv
    refine ⟨_, _, rfl, fun _ => ⟨g, rfl, hb, hlt, fun i hi => ?_, fun i => World.ownsRow.frozenAt h i⟩⟩
    rw [World.ownsRow.cellAt h i (by omega), strs_get _ _ hi]

set_option maxRecDepth 100000 in
set_option maxHeartbeats 1000000 in
theorem eqStringS_any (v u : Value) (b1 b2 : Nat) (xs : List ByteArray) (w : World) (hn : xs.length ≤ 1048576) (h1 : OwnS w b1 v xs) (h2 : OwnS w b2 u xs) :
    Calls Try.prog 44 #[v, u] w fun e w' => e = .returned (.bool true) ∧ Grows w w' := by
  obtain ⟨A, c, rfl, hA⟩ := h1.form
  obtain ⟨B, d, rfl, hB⟩ := h2.form
  have HA := Lib.hid hA
  have HB := Lib.hid hB
  clear h1 h2 hA hB
  obtain ⟨n, hnn⟩ : ∃ n, xs.length = n := ⟨_, rfl⟩
  rw [hnn] at hn
  rw [hnn]
  have HN := Lib.hid hnn
  clear hnn
  go_enter Try.func44, Try.ntmps44
  go_wp2
  go_loopw [5] (fun i wr => ∃ k : Nat, k ≤ n ∧ i = .int .i64 k ∧ Grows w wr) (fun i _ => n - (intOf i).toNat)
  case atStart => exact ⟨0, Nat.zero_le _, rfl, Grows.refl _⟩
  case round =>
    obtain ⟨k, hk, rfl, hg⟩ := hrel
    have HG := Lib.hid hg
    clear hg
    by_cases hlt : k < n
    · have hk2 : k < xs.length := by rw [HN.out]; exact hlt
      obtain ⟨g, rfl, _, hg1, hc, _⟩ := HA.out (by omega)
      obtain ⟨g2, rfl, _, hg2, hc2, _⟩ := HB.out (by omega)
      have c0 := (HG.out.cell (p := ⟨g, k, none⟩) hg1).trans (hc k hk2)
      have c1 := (HG.out.cell (p := ⟨g2, k, none⟩) hg2).trans (hc2 k hk2)
      obtain ⟨x, hx⟩ : ∃ x, xs[k] = x := ⟨_, rfl⟩
      rw [hx] at c0 c1
      clear hx hc hc2
      go_wp2_with fail
      go_quiet (fail)
      go_wp2
      go_roundw
      case rel => exact ⟨k + 1, by omega, by go_num, HG.out.drewN _⟩
      case measure => simp [intOf]; omega
    · go_wp2
      go_ret
      exact ⟨rfl, HG.out⟩

/-- the marks that a row of n texts gets from k on -/
def marks (k n : Nat) : List ByteArray := (List.range n).map fun i => mtext (k + i)
theorem marks_length (k n : Nat) : (marks k n).length = n := by simp [marks]
theorem marks_get (k n i : Nat) (h : i < (marks k n).length) : (marks k n)[i] = mtext (k + i) := by simp [marks]
/-- only block g has turned -/
def Only (v : Value) (w w' : World) : Prop := w.grownBy w' v.ownBlock
theorem Only.refl (v : Value) (w : World) : Only v w w := World.grownBy.refl w _
theorem Only.grows {v : Value} {a b c : World} (h : Only v a b) (k : Grows b c) : Only v a c :=
  ⟨k.os.trans h.os, k.tape.trans h.tape, k.output.trans h.output, Nat.le_trans h.size k.size, fun i hi hne => (k.block i (Nat.lt_of_lt_of_le hi h.size)).trans (h.block i hi hne)⟩
theorem Only.set_ {A : Option Addr} {n c g : Nat} {a b : World} (h : Only (.slice A n c) a b) (hA : A = some ⟨g, 0, none⟩) (i : Nat) (u : Value) : Only (.slice A n c) a (b.setCell ⟨g, i, none⟩ u) := by
  subst hA
  exact ⟨h.os, h.tape, h.output, by simpa [World.setCell] using h.size, fun k hk hne => (Below.heap_setCell b ⟨g, i, none⟩ u k (fun e => hne (by rw [e]; rfl))).trans (h.block k hk hne)⟩

theorem OwnS.keep {w w' : World} {base : Nat} {v : Value} {xs : List ByteArray} (h : OwnS w base v xs) (g : Grows w w') : OwnS w' base v xs := by
  have hlt := World.ownsRow.lt h
  refine World.ownsRow.kept (row := some w.heap.size) h ⟨g.os, g.tape, g.output, g.size, fun i hi _ => g.block i hi⟩ ?_
  rcases hb : v.ownBlock with _ | k
  · exact .inl rfl
  · exact .inr (fun e => by
      have := (hlt k hb).2
      injection e with e
      omega)
theorem OwnS.set_ {w : World} {base g n c : Nat} {xs : List ByteArray} (h : OwnS w base (.slice (some ⟨g, 0, none⟩) n c) xs) (k : Nat) (x : ByteArray) : OwnS (w.setCell ⟨g, k, none⟩ (.string x)) base (.slice (some ⟨g, 0, none⟩) n c) (xs.set k x) := by
  obtain ⟨A', c', hv, _⟩ := h.form
  injection hv with _ e2 _
  subst e2
  have := (World.ownsRow.stored h k (.string x)).1
  unfold OwnS
  rw [List.length_set]
  have e : strs' (xs.set k x) = (strs' xs).set k (.string x) := by simp [strs', List.map_set]
  rw [e]
  exact this

set_option maxRecDepth 100000 in
set_option maxHeartbeats 1000000 in
theorem markStringS_any (v : Value) (base : Nat) (xs : List ByteArray) (k0 : Nat) (w : World) (hn : xs.length ≤ 1048576) (hk0 : k0 ≤ 16777216) (h1 : OwnS w base v xs) :
    Calls Try.prog 47 #[v, .int .i64 k0] w fun e w' => e = .returned (.int .i64 ((k0 + xs.length : Nat) : Int)) ∧ OwnS w' base v (marks k0 xs.length) ∧ Only v w w' := by
  obtain ⟨A, c, hv, hA⟩ := h1.form
  subst hv
  have H1 := Lib.hid h1
  clear h1 hA
  obtain ⟨n, hnn⟩ : ∃ n, xs.length = n := ⟨_, rfl⟩
  rw [hnn] at hn H1
  rw [hnn]
  have HN := Lib.hid hnn
  clear hnn
  go_enter Try.func47, Try.ntmps47
  go_wp2
  go_loopw [1, 5] (fun q i wr => ∃ (k : Nat) (ys : List ByteArray), k ≤ n ∧ i = .int .i64 k ∧ q = .int .i64 ((k0 + k : Nat) : Int) ∧ Hid (ys.length = n) ∧ Hid (OwnS wr base (.slice A n c) ys) ∧ Hid (∀ j (h : j < ys.length), j < k → ys[j] = mtext (k0 + j)) ∧ Hid (Only (.slice A n c) w wr)) (fun _ i _ => n - (intOf i).toNat)
  case atStart => exact ⟨0, xs, Nat.zero_le _, rfl, rfl, HN, H1.out, fun j _ h => absurd h (Nat.not_lt_zero _), Only.refl _ _⟩
  case round =>
    obtain ⟨k, ys, hk, rfl, rfl, HL, HO, HM, HY⟩ := hrel
    by_cases hlt : k < n
    · obtain ⟨A', c', hv', hA'⟩ := HO.out.form
      injection hv' with e1 e2 e3
      subst e1; subst e3
      obtain ⟨g, rfl, hgb, hg1, hc, hfz⟩ := hA' (by rw [HL.out]; omega)
      have hky : k < ys.length := by rw [HL.out]; exact hlt
      have hs := fun w => markText_any (k0 + k) w (by omega)
      rw [show ((k0 + k : Nat) : Int) = (k0 : Int) + k from by omega] at hs
      have HS := Lib.hid hs
      clear hs
      obtain ⟨x, hx⟩ : ∃ x, mtext (k0 + k) = x := ⟨_, rfl⟩
      rw [hx] at HS
      have HX := Lib.hid hx
      have c0 := hc k hky
      have f0 := hfz k
      have HG := Lib.hid hg1
      clear hx hc hfz e2 hA'
      go_wp2_with fail
      refine (HS.out _).mono ?_
      rintro e w1 ⟨rfl, g1⟩
      have c1 := (g1.cell (p := ⟨g, k, none⟩) HG.out).trans c0
      have f1 := (Below.frozen (p := ⟨g, k, none⟩) g1 HG.out).trans f0
      have HG1 := Lib.hid g1
      clear g1 c0 f0
      go_wp2_with fail
      go_roundw
      case rel =>
        refine ⟨k + 1, ys.set k x, by omega, by go_num, by go_num, by unfold Hid; rw [List.length_set]; exact HL.out, ?_, ?_, ?_⟩
        · have h1 := (HO.out.keep HG1.out).set_ k x
          exact h1
        · intro j hj hjk
          rw [List.getElem_set]
          split
          · rename_i e; rw [← e]; exact HX.out.symm
          · exact HM.out j (by simpa using hj) (by omega)
        · exact (HY.out.grows HG1.out).set_ rfl k _
      case measure => simp [intOf]; omega
    · obtain rfl : k = n := by omega
      have HYM : Hid (ys = marks k0 k) := by
        unfold Hid
        apply List.ext_getElem (by rw [marks_length, HL.out])
        intro j h1 h2
        rw [marks_get]
        exact HM.out j h1 (by rw [← HL.out]; exact h1)
      go_wp2
      go_ret
      rw [← HYM.out]
      exact ⟨rfl, HO.out, HY.out⟩
end Go.Proofs.Yteifcogfnpeahaa
