/-
  The law's own marks on files: copies that are known to be new, markLineS, markFile, heldStringS. Condition: at most 1048576 lines.
-/
import Derived.Test.YtkeiaenacpmilaaDoorMark
namespace Go.Proofs.YtkeiaenacpmilaaDoor
open Go.RowKit

set_option maxRecDepth 100000 in
set_option maxHeartbeats 1000000 in
theorem heldStringS_any (v : Value) (base n k0 : Nat) (w : World) (hn : n ≤ 1048576) (hk0 : k0 ≤ 16777216) (h1 : OwnS w base v (marks k0 n)) :
    Calls Tryd.prog 39 #[v, .int .i64 k0] w fun e w' => e = .returned (.int .i64 ((k0 + n : Nat) : Int)) ∧ Grows w w' := by
  obtain ⟨A, c, hv, hA⟩ := h1.form
  subst hv
  have HA := Lib.hid hA
  have HN := Lib.hid (marks_length k0 n)
  rw [marks_length]
  clear h1 hA
  go_enter Tryd.func39, Tryd.ntmps39
  go_wp2
  go_loopw [1, 5] (fun q i wr => ∃ (k : Nat), k ≤ n ∧ i = .int .i64 k ∧ q = .int .i64 ((k0 + k : Nat) : Int) ∧ Grows w wr) (fun _ i _ => n - (intOf i).toNat)
  case atStart => exact ⟨0, Nat.zero_le _, rfl, rfl, Grows.refl _⟩
  case round =>
    obtain ⟨k, hk, rfl, rfl, hg⟩ := hrel
    have HG := Lib.hid hg
    clear hg
    by_cases hlt : k < n
    · obtain ⟨g, rfl, _, hg1, hc, _⟩ := HA.out (by rw [HN.out]; omega)
      have hky : k < (marks k0 n).length := by rw [HN.out]; exact hlt
      have c0 := (HG.out.cell (p := ⟨g, k, none⟩) hg1).trans (hc k hky)
      rw [marks_get] at c0
      have hs := fun w => markText_any (k0 + k) w (by omega)
      rw [show ((k0 + k : Nat) : Int) = (k0 : Int) + k from by omega] at hs
      have hg2 : g < wr.heap.size := Nat.lt_of_lt_of_le hg1 HG.out.size
      obtain ⟨x, hx⟩ : ∃ x, mtext (k0 + k) = x := ⟨_, rfl⟩
      rw [hx] at hs c0
      have HS := Lib.hid hs
      have HG2 := Lib.hid hg2
      clear hs hx hc hky hg1 hg2
      go_wp2_with fail
      first | (go_region_with (go_at_call 72; refine (HS.out _).mono ?_; rintro e w2 ⟨rfl, g2⟩; have d0 := (g2.cell (p := ⟨g, k, none⟩) HG2.out).trans c0)) | skip
      all_goals
        go_wp2
        go_roundw
        case rel => exact ⟨k + 1, by omega, by go_num, by go_num, (HG.out.drew).trans g2⟩
        case measure => simp [intOf]; omega
    · obtain rfl : k = n := by omega
      go_wp2
      go_ret
      exact ⟨rfl, HG.out⟩

theorem gb_set {w a : World} {g : Nat} (h : w.grownBy a (some g)) (i : Nat) (u : Value) : w.grownBy (a.setCell ⟨g, i, none⟩ u) (some g) :=
  ⟨h.os, h.tape, h.output, by simpa [World.setCell] using h.size, fun k hk hne => (Below.heap_setCell a ⟨g, i, none⟩ u k (fun e => hne (by rw [e]))).trans (h.block k hk hne)⟩
theorem gb_grows {w a b : World} {g : Nat} (h : w.grownBy a (some g)) (k : Grows a b) : w.grownBy b (some g) :=
  ⟨k.os.trans h.os, k.tape.trans h.tape, k.output.trans h.output, Nat.le_trans h.size k.size, fun i hi hne => (k.block i (Nat.lt_of_lt_of_le hi h.size)).trans (h.block i hi hne)⟩
theorem gb_of {w a : World} {g : Nat} (h : Grows w a) : w.grownBy a (some g) := ⟨h.os, h.tape, h.output, h.size, fun i hi _ => h.block i hi⟩

end Go.Proofs.YtkeiaenacpmilaaDoor
