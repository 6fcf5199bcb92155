/-
  Lists of texts that have each text once: addOnce of the program, hasText and addText of the specification. Condition: at most 1048576 texts.
-/
import Derived.Test.YtdedidcjbocicaaMark2
namespace Go.Proofs.Ytdedidcjbocicaa
open Go.RowKit

/-- a text is in a list -/
def hasT (xs : List ByteArray) (s : ByteArray) : Bool := xs.any fun x => x.toList == s.toList
/-- a list with one text more, once -/
def addT (xs : List ByteArray) (s : ByteArray) : List ByteArray := if hasT xs s = true then xs else xs ++ [s]
theorem addT_yes {xs : List ByteArray} {s : ByteArray} (h : hasT xs s = true) : addT xs s = xs := by rw [addT, if_pos h]
theorem addT_no {xs : List ByteArray} {s : ByteArray} (h : hasT xs s = false) : addT xs s = xs ++ [s] := by rw [addT, if_neg (by rw [h]; simp)]
theorem addT_le (xs : List ByteArray) (s : ByteArray) : (addT xs s).length ≤ xs.length + 1 := by
  unfold addT
  split
  · omega
  · simp
theorem hasT_yes {xs : List ByteArray} {s : ByteArray} {k : Nat} (hk : k < xs.length) (h : (xs[k].toList == s.toList) = true) : hasT xs s = true := by
  unfold hasT
  rw [List.any_eq_true]
  exact ⟨xs[k], List.getElem_mem hk, h⟩
/-- none of the first k texts is s -/
def NoneT (xs : List ByteArray) (s : ByteArray) (k : Nat) : Prop := ∀ j (h : j < xs.length), j < k → (xs[j].toList == s.toList) = false
theorem NoneT.zero (xs : List ByteArray) (s : ByteArray) : NoneT xs s 0 := fun _ _ h => absurd h (Nat.not_lt_zero _)
theorem NoneT.succ {xs : List ByteArray} {s : ByteArray} {k : Nat} (h : NoneT xs s k) (hk : k < xs.length) (hl : (xs[k].toList == s.toList) = false) : NoneT xs s (k + 1) := by
  intro j hj hjk
  by_cases e : j = k
  · subst e; exact hl
  · exact h j hj (by omega)
theorem NoneT.all {xs : List ByteArray} {s : ByteArray} (h : NoneT xs s xs.length) : hasT xs s = false := by
  unfold hasT
  rw [← Bool.not_eq_true, List.any_eq_true]
  rintro ⟨x, hx, e⟩
  obtain ⟨j, hj, rfl⟩ := List.getElem_of_mem hx
  rw [h j hj hj] at e
  cases e

theorem infoStr : (Try.prog.info? 9).map (fun i => (i.zero, i.size, i.bytes)) = some (some (.string ⟨#[]⟩), 1, 16) := by kernel_rfl

/-- a call's end: it returns a list of texts that lies in rows from base on -/
def AddRet (base : Nat) (xs : List ByteArray) (w : World) (e : Ending) (w' : World) : Prop := ∃ v, e = .returned v ∧ OwnS w' base v xs ∧ Below base w w'

set_option maxRecDepth 100000 in
set_option maxHeartbeats 1000000 in
theorem hasText_any (v : Value) (base : Nat) (xs : List ByteArray) (s : ByteArray) (w : World) (hn : xs.length ≤ 1048576) (h1 : OwnS w base v xs) :
    Calls Try.prog 65 #[v, .string s] w fun e w' => e = .returned (.bool (hasT xs s)) ∧ w = w' := by
  obtain ⟨A, c, rfl, hA⟩ := h1.form
  have HA := Lib.hid hA
  clear h1 hA
  obtain ⟨n, hnn⟩ : ∃ n, xs.length = n := ⟨_, rfl⟩
  rw [hnn] at hn
  rw [hnn]
  have HN := Lib.hid hnn
  clear hnn
  go_enter Try.func65, Try.ntmps65
  go_wp2
  go_loop [5] (fun i => ∃ k : Nat, k ≤ n ∧ i = .int .i64 k ∧ NoneT xs s k) (fun i => n - (intOf i).toNat)
  case atStart => exact ⟨0, Nat.zero_le _, rfl, NoneT.zero _ _⟩
  case round =>
    obtain ⟨k, hk, rfl, hL⟩ := hrel
    have HL := Lib.hid hL
    clear hL
    by_cases hlt : k < n
    · have hk2 : k < xs.length := by rw [HN.out]; exact hlt
      obtain ⟨g, rfl, _, hg1, hc, _⟩ := HA.out (by omega)
      have c0 := hc k hk2
      by_cases he : (xs[k].toList == s.toList) = true
      · have HV : Hid (hasT xs s = true) := hasT_yes hk2 he
        obtain ⟨x, hx⟩ : ∃ x, xs[k] = x := ⟨_, rfl⟩
        rw [hx] at c0 he
        clear hx hc
        go_wp2
        go_ret
        exact ⟨ret_bool HV.out.symm, rfl⟩
      · have he' : (xs[k].toList == s.toList) = false := by simpa using he
        have HS : Hid (NoneT xs s (k + 1)) := HL.out.succ hk2 he'
        obtain ⟨x, hx⟩ : ∃ x, xs[k] = x := ⟨_, rfl⟩
        rw [hx] at c0 he'
        clear hx hc he
        go_wp2
        go_round
        case rel => exact ⟨k + 1, by omega, by go_num, HS.out⟩
        case measure => simp [intOf]; omega
    · obtain rfl : k = n := by omega
      have HV : Hid (hasT xs s = false) := NoneT.all (by rw [HN.out]; exact HL.out)
      go_wp2
      go_ret
      exact ⟨ret_bool HV.out.symm, rfl⟩

theorem below_keep {base : Nat} {w w' : World} {e : TypeId} {size n : Nat} {v : Value} {xs : List Value} (ho : w.ownsRow base e size v n xs) (hb : base ≤ w.heap.size) (hg : w.grownBy w' v.ownBlock) : Below base w w' :=
  (Below.refl base w).grown hg hb (own_base ho)

set_option maxRecDepth 100000 in
set_option maxHeartbeats 1000000 in
theorem addText_any (v : Value) (base : Nat) (xs : List ByteArray) (s : ByteArray) (w : World) (hn : xs.length ≤ 1048576) (hb : base ≤ w.heap.size) (h1 : OwnS w base v xs) :
    Calls Try.prog 55 #[v, .string s] w (AddRet base (addT xs s) w) := by
  have HF := Lib.hid (hasText_any v base xs s w hn h1)
  have HO : Hid (w.ownsRow base 9 1 v xs.length (strs' xs)) := h1
  have HB := Lib.hid hb
  obtain ⟨i0, hi, hz0, hz1, hz2⟩ := info_parts infoStr
  have HI : Hid (Try.prog.info? 9 = some i0) := hi
  have HZ0 : Hid (i0.zero = some (.string ⟨#[]⟩)) := hz0
  have HZ1 : Hid (i0.size = 1) := hz1
  have HZ2 : Hid (i0.bytes = 16) := hz2
  clear hi hz0 hz1 hz2 hb
  by_cases hh : hasT xs s = true
  · rw [hh] at HF
    have HV := Lib.hid (addT_yes hh)
    have H1 := Lib.hid h1
    clear hh h1
    go_enter Try.func55, Try.ntmps55
    go_wp2_with fail
    refine (HF.out).mono ?_
    rintro e w1 ⟨rfl, rfl⟩
    go_wp2
    go_ret
    rw [HV.out]
    exact ⟨_, rfl, H1.out, Below.refl _ _⟩
  · have hh' : hasT xs s = false := by simpa using hh
    rw [hh'] at HF
    have HV := Lib.hid (addT_no hh')
    clear hh hh' h1
    go_enter Try.func55, Try.ntmps55
    go_wp2_with fail
    refine (HF.out).mono ?_
    rintro e w1 ⟨rfl, rfl⟩
    go_wp2_with (at_builtin; refine wpList_append_own _ rfl _ _ 35 rfl base 9 i0 (.string ⟨#[]⟩) 1 16 Try.underlying35 HI.out HZ0.out HZ1.out HZ2.out rfl (by decide) _ _ _ rfl (HO.out.alloc _) ⟨w.heap.size, 0, none⟩ 1 1 [.string s] rfl rfl ?c1 ?c2 ?c3 ?c4 ?c5 ?_)
    case c1 =>
      intro j u hj
      match j, hj with
      | 0, hj => simp at hj; subst hj; simp [Addr.add]
    case c2 => intro u hu; simp at hu; subst hu; rfl
    case c3 => unfold maxLen; omega
    case c4 => omega
    case c5 => have := HB.out; simp; omega
    · intro v' w2 hown' hgrow _
      have HO2 : Hid (OwnS w2 base v' (xs ++ [s])) := by unfold Hid OwnS; rw [strs_snoc, List.length_append]; first | exact hown' | (rw [HN.out]; exact hown')
      have HB2 : Hid (Below base w w2) := ((Below.refl base w).alloc HB.out _).trans (below_keep (HO.out.alloc _) (Nat.le_trans HB.out (by simp)) hgrow)
      clear hown' hgrow
      go_wp2
      go_ret
      rw [HV.out]
      exact ⟨_, rfl, HO2.out, HB2.out⟩

set_option maxRecDepth 100000 in
set_option maxHeartbeats 1000000 in
theorem indexG_any (v : Value) (base : Nat) (xs : List ByteArray) (s : ByteArray) (w : World) (hn : xs.length ≤ 1048576) (h1 : OwnS w base v xs) :
    Calls Try.prog 66 #[v, .string s] w fun e w' => (∃ i : Int, e = .returned (.int .i64 i) ∧ Hid (hasT xs s = decide (0 ≤ i))) ∧ w = w' := by
  obtain ⟨A, c, rfl, hA⟩ := h1.form
  have HA := Lib.hid hA
  clear h1 hA
  obtain ⟨n, hnn⟩ : ∃ n, xs.length = n := ⟨_, rfl⟩
  rw [hnn] at hn
  rw [hnn]
  have HN := Lib.hid hnn
  clear hnn
  go_enter Try.func66, Try.ntmps66
  go_wp2
  go_loop [8] (fun i => ∃ k : Nat, k ≤ n ∧ i = .int .i64 k ∧ NoneT xs s k) (fun i => n - (intOf i).toNat)
  case atStart => exact ⟨0, Nat.zero_le _, rfl, NoneT.zero _ _⟩
  case round =>
    obtain ⟨k, hk, rfl, hL⟩ := hrel
    have HL := Lib.hid hL
    clear hL
    by_cases hlt : k < n
    · have hk2 : k < xs.length := by rw [HN.out]; exact hlt
      obtain ⟨g, rfl, _, hg1, hc, _⟩ := HA.out (by omega)
      have c0 := hc k hk2
      by_cases he : (s.toList == xs[k].toList) = true
      · have he2 : (xs[k].toList == s.toList) = true := by rw [beq_iff_eq] at he ⊢; exact he.symm
        have HV : Hid (hasT xs s = decide (0 ≤ (k : Int))) := by unfold Hid; rw [hasT_yes hk2 he2]; simp
        obtain ⟨x, hx⟩ : ∃ x, xs[k] = x := ⟨_, rfl⟩
        rw [hx] at c0 he
        clear hx hc he2
        go_wp2
        go_ret
        exact ⟨⟨k, rfl, HV⟩, rfl⟩
      · have he' : (s.toList == xs[k].toList) = false := by simpa using he
        have he2 : (xs[k].toList == s.toList) = false := by rw [beq_eq_false_iff_ne] at he' ⊢; exact he'.symm
        have HS : Hid (NoneT xs s (k + 1)) := HL.out.succ hk2 he2
        obtain ⟨x, hx⟩ : ∃ x, xs[k] = x := ⟨_, rfl⟩
        rw [hx] at c0 he'
        clear hx hc he he2
        go_wp2
        go_round
        case rel => exact ⟨k + 1, by omega, by go_num, HS.out⟩
        case measure => simp [intOf]; omega
    · obtain rfl : k = n := by omega
      have HV : Hid (hasT xs s = decide (0 ≤ (-1 : Int))) := by unfold Hid; rw [NoneT.all (by rw [HN.out]; exact HL.out)]; rfl
      go_wp2
      go_ret
      exact ⟨⟨-1, rfl, HV⟩, rfl⟩

set_option maxRecDepth 100000 in
set_option maxHeartbeats 1000000 in
theorem containsG_any (v : Value) (base : Nat) (xs : List ByteArray) (s : ByteArray) (w : World) (hn : xs.length ≤ 1048576) (h1 : OwnS w base v xs) :
    Calls Try.prog 56 #[v, .string s] w fun e w' => e = .returned (.bool (hasT xs s)) ∧ w = w' := by
  have HI := Lib.hid (indexG_any v base xs s w hn h1)
  clear h1
  go_enter Try.func56, Try.ntmps56
  go_wp2_with fail
  refine (HI.out).mono ?_
  rintro e w1 ⟨⟨i, rfl, HV⟩, rfl⟩
  go_wp2
  go_ret
  exact ⟨ret_bool HV.out.symm, rfl⟩

set_option maxRecDepth 100000 in
set_option maxHeartbeats 1000000 in
theorem addOnce_any (v : Value) (base : Nat) (xs : List ByteArray) (s : ByteArray) (w : World) (hn : xs.length ≤ 1048576) (hb : base ≤ w.heap.size) (h1 : OwnS w base v xs) :
    Calls Try.prog 43 #[v, .string s] w (AddRet base (addT xs s) w) := by
  have HF := Lib.hid (containsG_any v base xs s w hn h1)
  have HO : Hid (w.ownsRow base 9 1 v xs.length (strs' xs)) := h1
  have HB := Lib.hid hb
  obtain ⟨i0, hi, hz0, hz1, hz2⟩ := info_parts infoStr
  have HI : Hid (Try.prog.info? 9 = some i0) := hi
  have HZ0 : Hid (i0.zero = some (.string ⟨#[]⟩)) := hz0
  have HZ1 : Hid (i0.size = 1) := hz1
  have HZ2 : Hid (i0.bytes = 16) := hz2
  clear hi hz0 hz1 hz2 hb
  by_cases hh : hasT xs s = true
  · rw [hh] at HF
    have HV := Lib.hid (addT_yes hh)
    have H1 := Lib.hid h1
    clear hh h1
    go_enter Try.func43, Try.ntmps43
    go_wp2_with fail
    refine (HF.out).mono ?_
    rintro e w1 ⟨rfl, rfl⟩
    go_wp2
    go_ret
    rw [HV.out]
    exact ⟨_, rfl, H1.out, Below.refl _ _⟩
  · have hh' : hasT xs s = false := by simpa using hh
    rw [hh'] at HF
    have HV := Lib.hid (addT_no hh')
    clear hh hh' h1
    go_enter Try.func43, Try.ntmps43
    go_wp2_with fail
    refine (HF.out).mono ?_
    rintro e w1 ⟨rfl, rfl⟩
    go_wp2_with (at_builtin; refine wpList_append_own _ rfl _ _ 35 rfl base 9 i0 (.string ⟨#[]⟩) 1 16 Try.underlying35 HI.out HZ0.out HZ1.out HZ2.out rfl (by decide) _ _ _ rfl (HO.out.alloc _) ⟨w.heap.size, 0, none⟩ 1 1 [.string s] rfl rfl ?c1 ?c2 ?c3 ?c4 ?c5 ?_)
    case c1 =>
      intro j u hj
      match j, hj with
      | 0, hj => simp at hj; subst hj; simp [Addr.add]
    case c2 => intro u hu; simp at hu; subst hu; rfl
    case c3 => unfold maxLen; omega
    case c4 => omega
    case c5 => have := HB.out; simp; omega
    · intro v' w2 hown' hgrow _
      have HO2 : Hid (OwnS w2 base v' (xs ++ [s])) := by unfold Hid OwnS; rw [strs_snoc, List.length_append]; first | exact hown' | (rw [HN.out]; exact hown')
      have HB2 : Hid (Below base w w2) := ((Below.refl base w).alloc HB.out _).trans (below_keep (HO.out.alloc _) (Nat.le_trans HB.out (by simp)) hgrow)
      clear hown' hgrow
      go_wp2
      go_ret
      rw [HV.out]
      exact ⟨_, rfl, HO2.out, HB2.out⟩

end Go.Proofs.Ytdedidcjbocicaa
