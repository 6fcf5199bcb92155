/-
  The drawn laws' own helpers: lists of texts and files that are equal, a text in a list, texts that are all different. Condition: at most 1048576 of each.
-/
import Derived.Test.YtgjineoiebokhaaDoorFile
import Derived.Test.YtgjineoiebokhaaDoorMark
import Derived.Test.YtgjineoiebokhaaDoorQP
import Derived.Test.YtgjineoiebokhaaDoorGrow
namespace Go.Proofs.YtgjineoiebokhaaDoor
open Go.RowKit

set_option maxRecDepth 100000 in
set_option maxHeartbeats 1000000 in
theorem equalTexts_any (v u : Value) (b1 b2 : Nat) (xs : List ByteArray) (w : World) (hn : xs.length ≤ 1048576) (h1 : OwnS w b1 v xs) (h2 : OwnS w b2 u xs) :
    Calls Tryd.prog 16 #[v, u] w fun e w' => e = .returned (.bool true) ∧ Grows w w' := by
  obtain ⟨A, c, rfl, hA⟩ := h1.form
  obtain ⟨B, d, rfl, hB⟩ := h2.form
  have HA := Lib.hid hA
  have HB := Lib.hid hB
  clear h1 h2 hA hB
  obtain ⟨n, hnn⟩ : ∃ n, xs.length = n := ⟨_, rfl⟩
  rw [hnn] at hn
  rw [hnn]
  have HN := Lib.hid hnn
  clear hnn
  go_enter Tryd.func16, Tryd.ntmps16
  go_wp2
  go_loopw [5] (fun i wr => ∃ k : Nat, k ≤ n ∧ i = .int .i64 k ∧ Grows w wr) (fun i _ => n - (intOf i).toNat)
  case atStart => exact ⟨0, Nat.zero_le _, rfl, Grows.refl _⟩
  case round =>
    obtain ⟨k, hk, rfl, hg⟩ := hrel
    have HG := Lib.hid hg
    clear hg
    by_cases hlt : k < n
    · have hk2 : k < xs.length := by rw [HN.out]; exact hlt
      obtain ⟨g, rfl, _, hg1, hc, _⟩ := HA.out (by omega)
      obtain ⟨g2, rfl, _, hg2, hc2, _⟩ := HB.out (by omega)
      have c0 := (HG.out.cell (p := ⟨g, k, none⟩) hg1).trans (hc k hk2)
      have c1 := (HG.out.cell (p := ⟨g2, k, none⟩) hg2).trans (hc2 k hk2)
      obtain ⟨x, hx⟩ : ∃ x, xs[k] = x := ⟨_, rfl⟩
      rw [hx] at c0 c1
      clear hx hc hc2
      go_wp2_with fail
      go_quiet (fail)
      go_wp2
      go_roundw
      case rel => exact ⟨k + 1, by omega, by go_num, HG.out.drewN _⟩
      case measure => simp [intOf]; omega
    · go_wp2
      go_ret
      exact ⟨rfl, HG.out⟩

theorem quiet_left2 {P : Program} {f : FuncId} {args : Array Value} {w : World} {n : Nat} {v : Value}
    (h : Calls P f args (w.drewN n) fun e w' => e = .returned v ∧ w.drewN n = w') : Calls P f args (w.drewN n) fun e w'' => e = .returned v ∧ ∃ m, w'' = w.drewN m :=
  h.mono fun _ _ ⟨he, hm⟩ => ⟨he, n, hm.symm⟩
theorem OwnS.vals {w : World} {base : Nat} {v : Value} {xs : List ByteArray} (h : OwnS w base v xs) : ∃ A c, v = .slice A xs.length c ∧ ValsAt w A (strs' xs) := by
  obtain ⟨A, c, rfl, hA⟩ := h.form
  refine ⟨A, c, rfl, fun h0 => ?_⟩
  rw [strs_length] at h0
  obtain ⟨g, e, _, hg, hc, _⟩ := hA h0
  refine ⟨g, 0, e, hg, fun i hi => ?_⟩
  rw [strs_length] at hi
  have := hc i hi
  rw [Nat.zero_add, this]
  simp [strs']
set_option maxRecDepth 100000 in
set_option maxHeartbeats 1000000 in
theorem hasTextV_any (A : Option Addr) (c : Nat) (xs : List ByteArray) (s : ByteArray) (w : World) (hn : xs.length ≤ 1048576) (h1 : ValsAt w A (strs' xs)) :
    Calls Tryd.prog 51 #[.slice A xs.length c, .string s] w fun e w' => e = .returned (.bool (hasT xs s)) ∧ w = w' := by
  have HA := Lib.hid h1
  clear h1
  obtain ⟨n, hnn⟩ : ∃ n, xs.length = n := ⟨_, rfl⟩
  rw [hnn] at hn
  rw [hnn]
  have HN := Lib.hid hnn
  clear hnn
  go_enter Tryd.func51, Tryd.ntmps51
  go_wp2
  go_loop [5] (fun i => ∃ k : Nat, k ≤ n ∧ i = .int .i64 k ∧ NoneT xs s k) (fun i => n - (intOf i).toNat)
  case atStart => exact ⟨0, Nat.zero_le _, rfl, NoneT.zero _ _⟩
  case round =>
    obtain ⟨k, hk, rfl, hL⟩ := hrel
    have HL := Lib.hid hL
    clear hL
    by_cases hlt : k < n
    · have hk2 : k < xs.length := by rw [HN.out]; exact hlt
      obtain ⟨b, o, rfl, hb, hc⟩ := HA.out (by rw [strs_length]; omega)
      have c0 := hc k (by rw [strs_length]; exact hk2)
      have hix : (strs' xs)[k]'(by rw [strs_length]; exact hk2) = Value.string xs[k] := by simp [strs']
      rw [hix] at c0
      clear hix
      by_cases he : (xs[k].toList == s.toList) = true
      · have HV : Hid (hasT xs s = true) := hasT_yes hk2 he
        obtain ⟨x, hx⟩ : ∃ x, xs[k] = x := ⟨_, rfl⟩
        rw [hx] at c0 he
        clear hx hc
        go_wp2
        go_ret
        exact ⟨ret_bool HV.out.symm, rfl⟩
      · have he' : (xs[k].toList == s.toList) = false := by simpa using he
        have HS : Hid (NoneT xs s (k + 1)) := HL.out.succ hk2 he'
        obtain ⟨x, hx⟩ : ∃ x, xs[k] = x := ⟨_, rfl⟩
        rw [hx] at c0 he'
        clear hx hc he
        go_wp2
        go_round
        case rel => exact ⟨k + 1, by omega, by go_num, HS.out⟩
        case measure => simp [intOf]; omega
    · obtain rfl : k = n := by omega
      have HV : Hid (hasT xs s = false) := NoneT.all (by rw [HN.out]; exact HL.out)
      go_wp2
      go_ret
      exact ⟨ret_bool HV.out.symm, rfl⟩
theorem hasTextL_any (v : Value) (base : Nat) (xs : List ByteArray) (s : ByteArray) (w : World) (hn : xs.length ≤ 1048576) (h1 : OwnS w base v xs) :
    Calls Tryd.prog 51 #[v, .string s] w fun e w' => e = .returned (.bool (hasT xs s)) ∧ w = w' := by
  obtain ⟨A, c, rfl, hA⟩ := h1.vals
  exact hasTextV_any A c xs s w hn hA

theorem ValsAt.take {w : World} {A : Option Addr} {xs : List Value} (h : ValsAt w A xs) (k : Nat) : ValsAt w A (xs.take k) := fun h0 => by
  have hl : (xs.take k).length ≤ xs.length := by rw [List.length_take]; omega
  obtain ⟨b, o, e, hb, hc⟩ := h (by omega)
  refine ⟨b, o, e, hb, fun i hi => ?_⟩
  rw [hc i (by omega), List.getElem_take]
theorem strs_take (xs : List ByteArray) (k : Nat) : strs' (xs.take k) = (strs' xs).take k := by simp [strs', List.map_take]
theorem nodup_take {xs : List ByteArray} (h : xs.Nodup) {k : Nat} (hk : k < xs.length) : hasT (xs.take k) xs[k] = false := by
  rcases hh : hasT (xs.take k) xs[k] with _ | _
  · rfl
  · exfalso
    have h1 := hasT_mem.1 hh
    obtain ⟨i, hi, e⟩ := List.getElem_of_mem h1
    have hi2 : i < k := by simp at hi; omega
    rw [List.getElem_take] at e
    have := (List.getElem_inj h).1 e
    omega
set_option maxRecDepth 100000 in
set_option maxHeartbeats 1000000 in
theorem textsApart_any (v : Value) (base : Nat) (xs : List ByteArray) (w : World) (hn : xs.length ≤ 1048576) (hd : xs.Nodup) (h1 : OwnS w base v xs) :
    Calls Tryd.prog 19 #[v] w fun e w' => e = .returned (.bool true) ∧ Grows w w' := by
  obtain ⟨A, c, rfl, hA⟩ := h1.vals
  have HA := Lib.hid hA
  have HD := Lib.hid hd
  have hcc : xs.length ≤ c := by
    rcases h1.2 with ⟨h2, _⟩ | ⟨g, cap, cur, h2, _, _, h3, _⟩
    · injection h2 with _ h4 h5; omega
    · injection h2 with _ _ h5; omega
  clear hA hd h1
  obtain ⟨n, hnn⟩ : ∃ n, xs.length = n := ⟨_, rfl⟩
  rw [hnn] at hn hcc
  rw [hnn]
  have HN := Lib.hid hnn
  clear hnn
  go_enter Tryd.func19, Tryd.ntmps19
  go_wp2
  go_loopw [3] (fun i wr => ∃ k : Nat, k ≤ n ∧ i = .int .i64 k ∧ Hid (Grows w wr)) (fun i _ => n - (intOf i).toNat)
  case atStart => exact ⟨0, Nat.zero_le _, rfl, Grows.refl _⟩
  case round =>
    obtain ⟨k, hk, rfl, HG⟩ := hrel
    by_cases hlt : k < n
    · have hk2 : k < xs.length := by rw [HN.out]; exact hlt
      obtain ⟨b, o, rfl, hb, hc⟩ := HA.out (by rw [strs_length]; omega)
      have c0 := (HG.out.cell (p := ⟨b, o + k, none⟩) hb).trans (hc k (by rw [strs_length]; exact hk2))
      have hix : (strs' xs)[k]'(by rw [strs_length]; exact hk2) = Value.string xs[k] := by simp [strs']
      rw [hix] at c0
      have HT := Lib.hid (fun w1 (g : Grows w w1) => hasTextV_any (some ⟨b, o, none⟩) c (xs.take k) xs[k] w1 (by have := List.length_take_le k xs; omega) (by rw [strs_take]; exact (HA.out.take k).keep g))
      rw [nodup_take HD.out hk2, List.length_take, Nat.min_eq_left (by omega)] at HT
      obtain ⟨x, hx⟩ : ∃ x, xs[k] = x := ⟨_, rfl⟩
      rw [hx] at c0 HT
      clear hx hix hc
      have hkc : k ≤ c := by omega
      go_wp2_with fail
      go_quiet ((go_at_call 51; exact quiet_left2 (HT.out _ (HG.out.drewN _))))
      go_wp2
      go_roundw
      case rel => exact ⟨k + 1, by omega, by go_num, HG.out.drewN _⟩
      case measure => simp [intOf]; omega
    · go_wp2
      go_ret
      exact ⟨rfl, HG.out⟩
end Go.Proofs.YtgjineoiebokhaaDoor
