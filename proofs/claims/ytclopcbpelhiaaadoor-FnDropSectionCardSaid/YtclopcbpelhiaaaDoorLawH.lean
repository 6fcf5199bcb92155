/-
  The drawn laws' own helpers: lists of texts and files that are equal, a text in a list, texts that are all different. Condition: at most 1048576 of each.
-/
import Derived.Test.YtclopcbpelhiaaaDoorFile
import Derived.Test.YtclopcbpelhiaaaDoorMark
import Derived.Test.YtclopcbpelhiaaaDoorQP
import Derived.Test.YtclopcbpelhiaaaDoorGrow
namespace Go.Proofs.YtclopcbpelhiaaaDoor
open Go.RowKit

theorem neLn (a b : Ln) (w : World) : (binOp .neq 60 a.agg b.agg).run Tryd.prog w = .ok (.bool (!a.same b)) w := by
  unfold Ln.agg
  go_simp
  unfold Ln.same
  repeat' split
  all_goals simp_all
theorem quiet_left2 {P : Program} {f : FuncId} {args : Array Value} {w : World} {n : Nat} {v : Value}
    (h : Calls P f args (w.drewN n) fun e w' => e = .returned v ∧ w.drewN n = w') : Calls P f args (w.drewN n) fun e w'' => e = .returned v ∧ ∃ m, w'' = w.drewN m :=
  h.mono fun _ _ ⟨he, hm⟩ => ⟨he, n, hm.symm⟩
set_option maxRecDepth 100000 in
set_option maxHeartbeats 1000000 in
theorem equalFile_any (A B : Option Addr) (c d : Nat) (ls : List Ln) (w : World) (hn : ls.length ≤ maxLen) (hA : LnsAt w A ls) (hB : LnsAt w B ls) :
    Calls Tryd.prog 9 #[.agg #[.slice A ls.length c], .agg #[.slice B ls.length d]] w fun e w' => e = .returned (.bool true) ∧ Grows w w' := by
  have HA := Lib.hid hA
  have HB := Lib.hid hB
  clear hA hB
  obtain ⟨n, hnn⟩ : ∃ n, ls.length = n := ⟨_, rfl⟩
  rw [hnn] at hn
  rw [hnn]
  have HN := Lib.hid hnn
  clear hnn
  unfold maxLen at hn
  go_enter Tryd.func9, Tryd.ntmps9
  go_wp2
  go_loopw [5] (fun i wr => ∃ (k : Nat), k ≤ n ∧ i = .int .i64 k ∧ Hid (Grows ((w.alloc (fbox A n c)).alloc (fbox B n d)) wr)) (fun i _ => n - (intOf i).toNat)
  case atStart => exact ⟨0, Nat.zero_le _, rfl, Grows.refl _⟩
  case round =>
    obtain ⟨k, hk, rfl, HG⟩ := hrel
    have hx : wr.cell? ⟨w.heap.size, 0, none⟩ = some (.slice A n c) := (HG.out.cell (p := ⟨w.heap.size, 0, none⟩) (by simp; omega)).trans (by simp [fbox])
    have hy : wr.cell? ⟨w.heap.size + 1, 0, none⟩ = some (.slice B n d) := (HG.out.cell (p := ⟨w.heap.size + 1, 0, none⟩) (by simp)).trans (by simp [fbox])
    have HGw : Hid (Grows w wr) := (((Grows.refl _).alloc _).alloc _).trans HG.out
    by_cases hlt : k < n
    · obtain ⟨b, o, rfl, hb, hc⟩ := HA.out (by rw [HN.out]; omega)
      obtain ⟨b2, o2, rfl, hb2, hc2⟩ := HB.out (by rw [HN.out]; omega)
      have hk2 : k < ls.length := by rw [HN.out]; exact hlt
      obtain ⟨l, hl⟩ : ∃ l, ls[k] = l := ⟨_, rfl⟩
      have hat := (hc k hk2).keep hb HGw.out
      have hat2 := (hc2 k hk2).keep hb2 HGw.out
      rw [hl] at hat hat2
      obtain ⟨c0, c1, c2, c3, c4, c5⟩ := hat
      obtain ⟨d0, d1, d2, d3, d4, d5⟩ := hat2
      have hs := neLn l l
      rw [Ln.same_self] at hs
      unfold Ln.agg at hs
      clear hl hc hc2
      go_wp2_with fail
      go_quiet (fail)
      clear hs
      go_wp2
      go_roundw
      case rel => exact ⟨k + 1, by omega, by go_num, HG.out.drewN _⟩
      case measure => simp [intOf]; omega
    · go_wp2
      go_ret
      exact ⟨rfl, HGw.out⟩

theorem equalFile_own (v u : Value) (b1 b2 : Nat) (xs : List Ln) (w : World) (hn : xs.length ≤ 1048576) (h1 : OwnL w b1 v xs) (h2 : OwnL w b2 u xs) :
    Calls Tryd.prog 9 #[.agg #[v], .agg #[u]] w fun e w' => e = .returned (.bool true) ∧ Grows w w' := by
  obtain ⟨A, c, rfl, hA⟩ := h1.form
  obtain ⟨B, d, rfl, hB⟩ := h2.form
  exact equalFile_any A B c d xs w (by unfold maxLen; omega) hA hB

theorem OwnS.vals {w : World} {base : Nat} {v : Value} {xs : List ByteArray} (h : OwnS w base v xs) : ∃ A c, v = .slice A xs.length c ∧ ValsAt w A (strs' xs) := by
  obtain ⟨A, c, rfl, hA⟩ := h.form
  refine ⟨A, c, rfl, fun h0 => ?_⟩
  rw [strs_length] at h0
  obtain ⟨g, e, _, hg, hc, _⟩ := hA h0
  refine ⟨g, 0, e, hg, fun i hi => ?_⟩
  rw [strs_length] at hi
  have := hc i hi
  rw [Nat.zero_add, this]
  simp [strs']
set_option maxRecDepth 100000 in
set_option maxHeartbeats 1000000 in
theorem hasTextV_any (A : Option Addr) (c : Nat) (xs : List ByteArray) (s : ByteArray) (w : World) (hn : xs.length ≤ 1048576) (h1 : ValsAt w A (strs' xs)) :
    Calls Tryd.prog 19 #[.slice A xs.length c, .string s] w fun e w' => e = .returned (.bool (hasT xs s)) ∧ w = w' := by
  have HA := Lib.hid h1
  clear h1
  obtain ⟨n, hnn⟩ : ∃ n, xs.length = n := ⟨_, rfl⟩
  rw [hnn] at hn
  rw [hnn]
  have HN := Lib.hid hnn
  clear hnn
  go_enter Tryd.func19, Tryd.ntmps19
  go_wp2
  go_loop [5] (fun i => ∃ k : Nat, k ≤ n ∧ i = .int .i64 k ∧ NoneT xs s k) (fun i => n - (intOf i).toNat)
  case atStart => exact ⟨0, Nat.zero_le _, rfl, NoneT.zero _ _⟩
  case round =>
    obtain ⟨k, hk, rfl, hL⟩ := hrel
    have HL := Lib.hid hL
    clear hL
    by_cases hlt : k < n
    · have hk2 : k < xs.length := by rw [HN.out]; exact hlt
      obtain ⟨b, o, rfl, hb, hc⟩ := HA.out (by rw [strs_length]; omega)
      have c0 := hc k (by rw [strs_length]; exact hk2)
      have hix : (strs' xs)[k]'(by rw [strs_length]; exact hk2) = Value.string xs[k] := by simp [strs']
      rw [hix] at c0
      clear hix
      by_cases he : (xs[k].toList == s.toList) = true
      · have HV : Hid (hasT xs s = true) := hasT_yes hk2 he
        obtain ⟨x, hx⟩ : ∃ x, xs[k] = x := ⟨_, rfl⟩
        rw [hx] at c0 he
        clear hx hc
        go_wp2
        go_ret
        exact ⟨ret_bool HV.out.symm, rfl⟩
      · have he' : (xs[k].toList == s.toList) = false := by simpa using he
        have HS : Hid (NoneT xs s (k + 1)) := HL.out.succ hk2 he'
        obtain ⟨x, hx⟩ : ∃ x, xs[k] = x := ⟨_, rfl⟩
        rw [hx] at c0 he'
        clear hx hc he
        go_wp2
        go_round
        case rel => exact ⟨k + 1, by omega, by go_num, HS.out⟩
        case measure => simp [intOf]; omega
    · obtain rfl : k = n := by omega
      have HV : Hid (hasT xs s = false) := NoneT.all (by rw [HN.out]; exact HL.out)
      go_wp2
      go_ret
      exact ⟨ret_bool HV.out.symm, rfl⟩
theorem hasTextL_any (v : Value) (base : Nat) (xs : List ByteArray) (s : ByteArray) (w : World) (hn : xs.length ≤ 1048576) (h1 : OwnS w base v xs) :
    Calls Tryd.prog 19 #[v, .string s] w fun e w' => e = .returned (.bool (hasT xs s)) ∧ w = w' := by
  obtain ⟨A, c, rfl, hA⟩ := h1.vals
  exact hasTextV_any A c xs s w hn hA

theorem ValsAt.take {w : World} {A : Option Addr} {xs : List Value} (h : ValsAt w A xs) (k : Nat) : ValsAt w A (xs.take k) := fun h0 => by
  have hl : (xs.take k).length ≤ xs.length := by rw [List.length_take]; omega
  obtain ⟨b, o, e, hb, hc⟩ := h (by omega)
  refine ⟨b, o, e, hb, fun i hi => ?_⟩
  rw [hc i (by omega), List.getElem_take]
theorem strs_take (xs : List ByteArray) (k : Nat) : strs' (xs.take k) = (strs' xs).take k := by simp [strs', List.map_take]
theorem nodup_take {xs : List ByteArray} (h : xs.Nodup) {k : Nat} (hk : k < xs.length) : hasT (xs.take k) xs[k] = false := by
  rcases hh : hasT (xs.take k) xs[k] with _ | _
  · rfl
  · exfalso
    have h1 := hasT_mem.1 hh
    obtain ⟨i, hi, e⟩ := List.getElem_of_mem h1
    have hi2 : i < k := by simp at hi; omega
    rw [List.getElem_take] at e
    have := (List.getElem_inj h).1 e
    omega
end Go.Proofs.YtclopcbpelhiaaaDoor
