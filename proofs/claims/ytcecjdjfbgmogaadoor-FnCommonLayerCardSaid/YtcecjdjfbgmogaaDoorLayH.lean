/-
  What the drawn laws of layers compare: equalLayer. Condition: at most 1048576 entries.
-/
import Derived.Test.YtcecjdjfbgmogaaDoorLawH
import Derived.Test.YtcecjdjfbgmogaaDoorEqE
import Derived.Test.YtcecjdjfbgmogaaDoorLayX
namespace Go.Proofs.YtcecjdjfbgmogaaDoor
open Go.RowKit

set_option maxRecDepth 100000 in
set_option maxHeartbeats 1000000 in
theorem equalLayer_any (A B : Option Addr) (c d : Nat) (ls : List Ent) (w : World) (hn : ls.length ≤ maxLen) (hA : EntsAt w A ls) (hB : EntsAt w B ls) :
    Calls Tryd.prog 11 #[.agg #[.slice A ls.length c], .agg #[.slice B ls.length d]] w fun e w' => e = .returned (.bool true) ∧ Grows w w' := by
  have HA := Lib.hid hA
  have HB := Lib.hid hB
  clear hA hB
  obtain ⟨n, hnn⟩ : ∃ n, ls.length = n := ⟨_, rfl⟩
  rw [hnn] at hn
  rw [hnn]
  have HN := Lib.hid hnn
  clear hnn
  unfold maxLen at hn
  go_enter Tryd.func11, Tryd.ntmps11
  go_wp2
  go_loopw [5] (fun i wr => ∃ (k : Nat), k ≤ n ∧ i = .int .i64 k ∧ Hid (Grows ((w.alloc (lbox A n c)).alloc (lbox B n d)) wr)) (fun i _ => n - (intOf i).toNat)
  case atStart => exact ⟨0, Nat.zero_le _, rfl, Grows.refl _⟩
  case round =>
    obtain ⟨k, hk, rfl, HG⟩ := hrel
    have hx : wr.cell? ⟨w.heap.size, 0, none⟩ = some (.slice A n c) := (HG.out.cell (p := ⟨w.heap.size, 0, none⟩) (by simp; omega)).trans (by simp [lbox])
    have hy : wr.cell? ⟨w.heap.size + 1, 0, none⟩ = some (.slice B n d) := (HG.out.cell (p := ⟨w.heap.size + 1, 0, none⟩) (by simp)).trans (by simp [lbox])
    have HGw : Hid (Grows w wr) := (((Grows.refl _).alloc _).alloc _).trans HG.out
    by_cases hlt : k < n
    · obtain ⟨b, o, rfl, hb, hc⟩ := HA.out (by rw [HN.out]; omega)
      obtain ⟨b2, o2, rfl, hb2, hc2⟩ := HB.out (by rw [HN.out]; omega)
      have hk2 : k < ls.length := by rw [HN.out]; exact hlt
      obtain ⟨l, hl⟩ : ∃ l, ls[k] = l := ⟨_, rfl⟩
      have hat := (hc k hk2).keep hb HGw.out
      have hat2 := (hc2 k hk2).keep hb2 HGw.out
      rw [hl] at hat hat2
      obtain ⟨c0, c1, c2, c3⟩ := hat
      obtain ⟨d0, d1, d2, d3⟩ := hat2
      have hs := neEnt l l
      rw [Ent.same_self] at hs
      unfold Ent.agg at hs
      clear hl hc hc2
      go_wp2_with fail
      go_quiet (fail)
      clear hs
      go_wp2
      go_roundw
      case rel => exact ⟨k + 1, by omega, by go_num, HG.out.drewN _⟩
      case measure => simp [intOf]; omega
    · go_wp2
      go_ret
      exact ⟨rfl, HGw.out⟩

theorem equalLayer_own (v u : Value) (b1 b2 : Nat) (xs : List Ent) (w : World) (hn : xs.length ≤ 1048576) (h1 : OwnE w b1 v xs) (h2 : OwnE w b2 u xs) :
    Calls Tryd.prog 11 #[.agg #[v], .agg #[u]] w fun e w' => e = .returned (.bool true) ∧ Grows w w' := by
  obtain ⟨A, c, rfl, hA⟩ := h1.form
  obtain ⟨B, d, rfl, hB⟩ := h2.form
  exact equalLayer_any A B c d xs w (by unfold maxLen; omega) hA hB
end Go.Proofs.YtcecjdjfbgmogaaDoor
