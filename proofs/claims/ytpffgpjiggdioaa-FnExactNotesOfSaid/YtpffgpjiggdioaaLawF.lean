/-
  The law of ValidFile: whatever the file, it returns true. Conditions: parts no longer than a text may be.
-/
import Derived.Test.YtpffgpjiggdioaaFile
import Derived.Test.YtpffgpjiggdioaaMake
namespace Go.Proofs.Ytpffgpjiggdioaa
open Go.RowKit

set_option maxHeartbeats 1000000 in
theorem eqFile_any (A B : Option Addr) (c d : Nat) (ls : List Ln) (w : World) (hn : ls.length ≤ maxLen) (hA : LnsAt w A ls) (hB : LnsAt w B ls) :
    Calls Try.prog 19 #[.agg #[.slice A ls.length c], .agg #[.slice B ls.length d]] w fun e w' => e = .returned (.bool true) ∧ Grows w w' := by
  have HS := Lib.hid (fun w1 (g : Grows w w1) => eqLineS_any A B c d ls w1 hn (hA.keep g) (hB.keep g))
  clear hA hB hn
  go_enter Try.func19, Try.ntmps19
  go_wp2_with (go_at_call 46; refine (HS.out _ ?_).mono ?_; exact ((Grows.refl _).alloc _).alloc _; rintro e w1 ⟨rfl, hg⟩)
  go_ret
  exact ⟨rfl, (((Grows.refl _).alloc _).alloc _).trans hg⟩

set_option maxHeartbeats 1000000 in
theorem specValidFile_any (A : Option Addr) (c : Nat) (ls : List Ln) (w : World) (hf : AllFit ls) (hA : LnsAt w A ls) :
    Calls Try.prog 16 #[.agg #[.slice A ls.length c]] w fun e w' => e = .returned (.bool (vfile ls)) ∧ Grows w w' := by
  have HS := Lib.hid (fun w1 (g : Grows w w1) => specFile_any A c ls w1 hf (hA.keep g))
  clear hA hf
  go_enter Try.func16, Try.ntmps16
  go_wp2_with fail
  refine (HS.out _ ((Grows.refl _).alloc _)).mono ?_
  rintro e w1 ⟨rfl, hg⟩
  go_wp2
  go_ret
  exact ⟨rfl, ((Grows.refl _).alloc _).trans hg⟩

theorem part_le {ls : List Ln} {i : Nat} (h : i < ls.length) : ls[i].size ≤ wsum ls ls.length := by
  have h1 := wsum_succ h
  have h2 := wsum_le ls (i + 1)
  omega
theorem fits_of {ls : List Ln} (h : (wlines ls : Int) ≤ 1048576) : AllFit ls := by
  have hw : wlines ls = ls.length + wsum ls ls.length := rfl
  refine ⟨by omega, fun i hi => ?_⟩
  have h1 := part_le hi
  have h2 : ls[i].size = ls[i].le.size + ls[i].na.size + ls[i].se.size + ls[i].va.size + ls[i].ta.size := rfl
  unfold Ln.fits maxLen
  omega

set_option maxRecDepth 100000 in
set_option maxHeartbeats 1000000 in
theorem lawFile_any (A : Option Addr) (c : Nat) (ls : List Ln) (w : World) (hn : ls.length ≤ maxLen) (hr : ∀ i (h : i < ls.length), ls[i].inReach) (hA : LnsAt w A ls) :
    Calls Try.prog 4 #[.agg #[.slice A ls.length c]] w fun e w' => e = .returned (.bool true) ∧ Below w.heap.size w w' := by
  have HZ := Lib.hid (fun w1 (g : Grows w w1) => szFile_any A c ls 1048576 w1 (by omega) (by omega) hn hr (hA.keep g))
  by_cases hw : (wlines ls : Int) ≤ 1048576
  · have hf := fits_of hw
    rw [less_of hw] at HZ
    have HT := Lib.hid (fun w1 (g : Grows w w1) => toFile_any A c ls w1 hf.1 (hA.keep g))
    have HV := Lib.hid (fun (B : Option Addr) (d : Nat) w1 (h : LnsAt w1 B ls) => specValidFile_any B d ls w1 hf h)
    have HI := Lib.hid (fun (B : Option Addr) (d : Nat) w1 (h : LnsAt w1 B ls) => implFile_any B d ls w1 hf h)
    have HE := Lib.hid (fun (B C : Option Addr) (d e : Nat) w1 (h : LnsAt w1 B ls) (h2 : LnsAt w1 C ls) => eqFile_any B C d e ls w1 hn h h2)
    obtain ⟨m, hm⟩ : ∃ m, (1048576 : Int) - (wlines ls : Int) = m := ⟨_, rfl⟩
    rw [hm] at HZ
    have hm0 : 0 ≤ m := by omega
    clear hA hr hw hf hn hm
    obtain ⟨n, hnn⟩ : ∃ n, ls.length = n := ⟨_, rfl⟩
    unfold FileRet at HT
    rw [hnn] at HZ HT HV HI HE ⊢
    clear hnn
    go_enter Try.func4, Try.ntmps4
    go_wp2_with fail
    refine (HZ.out _ ((Grows.refl _).alloc _)).mono ?_
    rintro e w1 ⟨rfl, g1⟩
    have G1 : Grows (w.alloc (.cells #[.slice A n c] 25)) w1 := g1
    have hx1 : w1.cell? ⟨w.heap.size, 0, none⟩ = some (.slice A n c) := (G1.cell (p := ⟨w.heap.size, 0, none⟩) (by simp)).trans (by simp)
    clear g1
    go_wp2_with fail
    refine (HT.out _ (((Grows.refl _).alloc _).trans G1)).mono ?_
    rintro e w2 ⟨B, rfl, hB, g2⟩
    have G2 : Grows (w.alloc (.cells #[.slice A n c] 25)) w2 := G1.trans g2
    have hx2 : w2.cell? ⟨w.heap.size, 0, none⟩ = some (.slice A n c) := (G2.cell (p := ⟨w.heap.size, 0, none⟩) (by simp)).trans (by simp)
    clear g2
    go_wp2_with fail
    refine (HV.out _ _ _ hB).mono ?_
    rintro e w3 ⟨rfl, g3⟩
    have G3 : Grows (w.alloc (.cells #[.slice A n c] 25)) w3 := G2.trans g3
    have hx3 : w3.cell? ⟨w.heap.size, 0, none⟩ = some (.slice A n c) := (G3.cell (p := ⟨w.heap.size, 0, none⟩) (by simp)).trans (by simp)
    clear g3 hB
    go_wp2_with fail
    refine (HT.out _ (((Grows.refl _).alloc _).trans G3)).mono ?_
    rintro e w4 ⟨C, rfl, hC, g4⟩
    have G4 : Grows (w.alloc (.cells #[.slice A n c] 25)) w4 := G3.trans g4
    have hx4 : w4.cell? ⟨w.heap.size, 0, none⟩ = some (.slice A n c) := (G4.cell (p := ⟨w.heap.size, 0, none⟩) (by simp)).trans (by simp)
    clear g4
    go_wp2_with fail
    refine (HI.out _ _ _ (hC.keep ((Grows.refl _).alloc _))).mono ?_
    rintro e w5 ⟨rfl, g5⟩
    have G5 : Grows (w.alloc (.cells #[.slice A n c] 25)) w5 := (G4.alloc _).trans g5
    have hx5 : w5.cell? ⟨w.heap.size, 0, none⟩ = some (.slice A n c) := (G5.cell (p := ⟨w.heap.size, 0, none⟩) (by simp)).trans (by simp)
    have hy5 : w5.cell? ⟨w4.heap.size, 0, none⟩ = some (.slice (some C) n n) := (g5.cell (p := ⟨w4.heap.size, 0, none⟩) (by simp)).trans (by simp)
    have hC5 := (hC.keep ((Grows.refl _).alloc _)).keep g5
    clear g5 hC
    have hs5 : w4.heap.size < w5.heap.size := by
      rcases Nat.lt_or_ge w4.heap.size w5.heap.size with h | h
      · exact h
      · exfalso
        have : w5.cell? ⟨w4.heap.size, 0, none⟩ = none := by
          unfold World.cell?
          rw [Array.getElem?_eq_none h]
        rw [this] at hy5
        cases hy5
    have hs0 : w.heap.size < w5.heap.size := Nat.lt_of_lt_of_le (by simp) G5.size
    have HC5 : Hid (LnsAt w5.drew (some C) ls) := hC5
    have HG5 : Hid (Grows w w5.drew) := ((((Grows.refl _).alloc _).trans G5).drew)
    clear hC5
    go_wp2_with fail
    first | (go_region_with (first | (go_at_call 17; refine (HT.out _ HG5.out).mono ?_; rintro e w6 ⟨D, rfl, hD, g6⟩; have hx6 : w6.cell? ⟨w.heap.size, 0, none⟩ = some (.slice A n c) := (g6.cell (p := ⟨w.heap.size, 0, none⟩) hs0).trans hx5; have hy6 : w6.cell? ⟨w4.heap.size, 0, none⟩ = some (.slice (some C) n n) := (g6.cell (p := ⟨w4.heap.size, 0, none⟩) hs5).trans hy5; have HC6 := Lib.hid (HC5.out.keep g6); have HD6 := Lib.hid hD; have HG6 := Lib.hid g6; clear hD g6) | (go_at_call 19; refine (HE.out _ _ _ _ _ HC6.out HD6.out).mono ?_; rintro e w7 ⟨rfl, g7⟩))) | skip

    all_goals
      go_wp2
      go_ret
      exact ⟨rfl, (HG5.out.trans (HG6.out.trans g7)).below⟩
  · rw [less_no (by omega)] at HZ
    clear hA hr hw hn
    go_enter Try.func4, Try.ntmps4
    go_wp2_with fail
    refine (HZ.out _ ((Grows.refl _).alloc _)).mono ?_
    rintro e w1 ⟨rfl, g1⟩
    go_wp2
    go_ret
    exact ⟨rfl, (((Grows.refl _).alloc _).trans g1).below⟩
end Go.Proofs.Ytpffgpjiggdioaa
