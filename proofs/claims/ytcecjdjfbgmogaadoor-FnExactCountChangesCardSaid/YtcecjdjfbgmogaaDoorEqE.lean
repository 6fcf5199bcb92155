/-
  The law's comparison of layers. Condition: at most 1048576 entries.
-/
import Derived.Test.YtcecjdjfbgmogaaDoorMeanP
namespace Go.Proofs.YtcecjdjfbgmogaaDoor
open Go.RowKit

set_option maxHeartbeats 1000000 in
theorem eqEntry_any (l m : Ent) (w : World) :
    Calls Tryd.prog 86 #[l.agg, m.agg] w fun e w' => e = .returned (.bool (l.same m)) ∧ Grows w w' := by
  unfold Ent.agg
  go_enter Tryd.func86, Tryd.ntmps86
  go_wp2
  all_goals
    go_ret
    exact ⟨ret_bool (by unfold Ent.same; simp_all), ((Grows.refl _).alloc _).alloc _⟩
theorem Ent.same_self (l : Ent) : l.same l = true := by simp [Ent.same]

set_option maxHeartbeats 1000000 in
theorem eqEntryS_any (A B : Option Addr) (c d : Nat) (es : List Ent) (w : World) (hn : es.length ≤ maxLen) (hA : EntsAt w A es) (hB : EntsAt w B es) :
    Calls Tryd.prog 64 #[.slice A es.length c, .slice B es.length d] w fun e w' => e = .returned (.bool true) ∧ Grows w w' := by
  have HA := Lib.hid hA
  have HB := Lib.hid hB
  clear hA hB
  obtain ⟨n, hnn⟩ : ∃ n, es.length = n := ⟨_, rfl⟩
  rw [hnn] at hn
  rw [hnn]
  have HN := Lib.hid hnn
  clear hnn
  unfold maxLen at hn
  go_enter Tryd.func64, Tryd.ntmps64
  go_wp2
  go_loopw [5] (fun i wr => ∃ (k : Nat), k ≤ n ∧ i = .int .i64 k ∧ Grows w wr) (fun i _ => n - (intOf i).toNat)
  case atStart => exact ⟨0, Nat.zero_le _, rfl, Grows.refl _⟩
  case round =>
    obtain ⟨k, hk, rfl, hg⟩ := hrel
    have HG := Lib.hid hg
    clear hg
    by_cases hlt : k < n
    · obtain ⟨b, o, rfl, hb, hc⟩ := HA.out (by rw [HN.out]; omega)
      obtain ⟨b2, o2, rfl, hb2, hc2⟩ := HB.out (by rw [HN.out]; omega)
      have hk2 : k < es.length := by rw [HN.out]; exact hlt
      obtain ⟨l, hl⟩ : ∃ l, es[k] = l := ⟨_, rfl⟩
      have hat := (hc k hk2).keep hb HG.out
      have hat2 := (hc2 k hk2).keep hb2 HG.out
      rw [hl] at hat hat2
      obtain ⟨c0, c1, c2, c3⟩ := hat
      obtain ⟨d0, d1, d2, d3⟩ := hat2
      have hs := fun w => eqEntry_any l l w
      rw [Ent.same_self] at hs
      have HS := Lib.hid hs
      clear hl hc hc2 hs
      unfold Ent.agg at HS
      go_wp2_with fail
      first | (go_region_with (go_at_call 86; refine (HS.out _).mono ?_; rintro e w1 ⟨rfl, hg1⟩)) | skip
      all_goals
        go_wp2
        go_roundw
        case rel => exact ⟨k + 1, by omega, by go_num, (HG.out.drew).trans hg1⟩
        case measure => simp [intOf]; omega
    · go_wp2
      go_ret
      exact ⟨rfl, HG.out⟩

set_option maxHeartbeats 1000000 in
theorem eqLayer_any (A B : Option Addr) (c d : Nat) (es : List Ent) (w : World) (hn : es.length ≤ maxLen) (hA : EntsAt w A es) (hB : EntsAt w B es) :
    Calls Tryd.prog 36 #[.agg #[.slice A es.length c], .agg #[.slice B es.length d]] w fun e w' => e = .returned (.bool true) ∧ Grows w w' := by
  have HS := Lib.hid (fun w1 (g : Grows w w1) => eqEntryS_any A B c d es w1 hn (hA.keep g) (hB.keep g))
  clear hA hB hn
  go_enter Tryd.func36, Tryd.ntmps36
  go_wp2_with (go_at_call 64; refine (HS.out _ ?_).mono ?_; exact ((Grows.refl _).alloc _).alloc _; rintro e w1 ⟨rfl, hg⟩)
  go_ret
  exact ⟨rfl, (((Grows.refl _).alloc _).alloc _).trans hg⟩
theorem eqLayer_own (v u : Value) (b1 b2 : Nat) (xs : List Ent) (w : World) (hn : xs.length ≤ 1048576) (h1 : OwnE w b1 v xs) (h2 : OwnE w b2 u xs) :
    Calls Tryd.prog 36 #[.agg #[v], .agg #[u]] w fun e w' => e = .returned (.bool true) ∧ Grows w w' := by
  obtain ⟨A, c, rfl, hA⟩ := h1.form
  obtain ⟨B, d, rfl, hB⟩ := h2.form
  exact eqLayer_any A B c d xs w (by unfold maxLen; omega) hA hB
end Go.Proofs.YtcecjdjfbgmogaaDoor
