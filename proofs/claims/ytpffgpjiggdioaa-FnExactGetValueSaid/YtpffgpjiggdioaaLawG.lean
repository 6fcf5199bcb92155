/-
  The law of GetValue: whatever its arguments, it returns true. Conditions: parts no longer than a text may be.
-/
import Derived.Test.YtpffgpjiggdioaaGet
namespace Go.Proofs.Ytpffgpjiggdioaa
open Go.RowKit

set_option maxRecDepth 100000 in
set_option maxHeartbeats 2000000 in
theorem lawGet_any (A : Option Addr) (c : Nat) (ls : List Ln) (s1 : ByteArray) (s2 : ByteArray) (w : World) (hb1 : s1.size ≤ maxLen) (hb2 : s2.size ≤ maxLen) (hn : ls.length ≤ maxLen) (hr : ∀ i (h : i < ls.length), ls[i].inReach) (hA : LnsAt w A ls) :
    Calls Try.prog 8 #[.agg #[.slice A ls.length c], .string s1, .string s2] w fun e w' => e = .returned (.bool true) ∧ Below w.heap.size w w' := by
  by_cases q1 : s1.size ≤ 1048576
  · by_cases q2 : s2.size ≤ 1048576
    · have HZ := Lib.hid (fun w1 (g : Grows w w1) => szFile_any A c ls 1048576 w1 (by omega) (by omega) hn hr (hA.keep g))
      by_cases hw : (wlines ls : Int) ≤ 1048576
      · have hf := fits_of hw
        have hw2 : wlines ls ≤ 1048576 := by omega
        rw [less_of hw] at HZ
        have HT := Lib.hid (fun w1 (g : Grows w w1) => toFile_any A c ls w1 hf.1 (hA.keep g))
        have HV := Lib.hid (fun (B : Option Addr) (d : Nat) w1 (h : LnsAt w1 B ls) => specGet_w B d ls s1 s2 w1 hf hw2 hb1 hb2 h)
        have HI := Lib.hid (fun (B : Option Addr) (d : Nat) w1 (h : LnsAt w1 B ls) => implGet_w B d ls s1 s2 w1 hf hw2 hb1 hb2 h)
        have HE := Lib.hid (fun (B C : Option Addr) (d e : Nat) w1 (h : LnsAt w1 B ls) (h2 : LnsAt w1 C ls) => eqFile_any B C d e ls w1 hn h h2)
        obtain ⟨m, hm⟩ : ∃ m, (1048576 : Int) - (wlines ls : Int) = m := ⟨_, rfl⟩
        rw [hm] at HZ
        have hm0 : 0 ≤ m := by omega
        clear hb1 hb2 hA hr hw hw2 hf hn hm
        obtain ⟨n, hnn⟩ : ∃ n, ls.length = n := ⟨_, rfl⟩
        unfold FileRet at HT
        rw [hnn] at HZ HT HV HI HE ⊢
        clear hnn
        obtain ⟨z1, hz1⟩ : ∃ z, getV ls s1 s2 = z := ⟨_, rfl⟩
        obtain ⟨z2, hz2⟩ : ∃ z, getB ls s1 s2 = z := ⟨_, rfl⟩
        rw [hz1, hz2] at HV HI
        clear hz1 hz2
        go_enter Try.func8, Try.ntmps8
        go_wp2_with fail
        refine (HZ.out _ ((Grows.refl _).alloc _)).mono ?_
        rintro e w1 ⟨rfl, g1⟩
        have G1 : Grows (w.alloc (.cells #[.slice A n c] 25)) w1 := g1
        have hx1 : w1.cell? ⟨w.heap.size, 0, none⟩ = some (.slice A n c) := (G1.cell (p := ⟨w.heap.size, 0, none⟩) (by simp)).trans (by simp)
        clear g1
        go_wp2_with fail
        refine (HT.out _ (((Grows.refl _).alloc _).trans G1)).mono ?_
        rintro e w2 ⟨B, rfl, hB, g2⟩
        have G2 : Grows (w.alloc (.cells #[.slice A n c] 25)) w2 := G1.trans g2
        have hx2 : w2.cell? ⟨w.heap.size, 0, none⟩ = some (.slice A n c) := (G2.cell (p := ⟨w.heap.size, 0, none⟩) (by simp)).trans (by simp)
        clear g2
        go_wp2_with fail
        refine (HV.out _ _ _ hB).mono ?_
        rintro e w3 ⟨rfl, g3⟩
        have G3 : Grows (w.alloc (.cells #[.slice A n c] 25)) w3 := G2.trans g3
        have hx3 : w3.cell? ⟨w.heap.size, 0, none⟩ = some (.slice A n c) := (G3.cell (p := ⟨w.heap.size, 0, none⟩) (by simp)).trans (by simp)
        clear g3 hB
        go_wp2_with fail
        refine (HT.out _ (((Grows.refl _).alloc _).trans G3)).mono ?_
        rintro e w4 ⟨C, rfl, hC, g4⟩
        have G4 : Grows (w.alloc (.cells #[.slice A n c] 25)) w4 := G3.trans g4
        have hx4 : w4.cell? ⟨w.heap.size, 0, none⟩ = some (.slice A n c) := (G4.cell (p := ⟨w.heap.size, 0, none⟩) (by simp)).trans (by simp)
        clear g4
        go_wp2_with fail
        refine (HI.out _ _ _ (hC.keep ((Grows.refl _).alloc _))).mono ?_
        rintro e w5 ⟨rfl, g5⟩
        have G5 : Grows (w.alloc (.cells #[.slice A n c] 25)) w5 := (G4.alloc _).trans g5
        have hx5 : w5.cell? ⟨w.heap.size, 0, none⟩ = some (.slice A n c) := (G5.cell (p := ⟨w.heap.size, 0, none⟩) (by simp)).trans (by simp)
        have hy5 : w5.cell? ⟨w4.heap.size, 0, none⟩ = some (.slice (some C) n n) := (g5.cell (p := ⟨w4.heap.size, 0, none⟩) (by simp)).trans (by simp)
        have hC5 := (hC.keep ((Grows.refl _).alloc _)).keep g5
        have hs5 : w4.heap.size < w5.heap.size := Nat.lt_of_lt_of_le (by simp) g5.size
        clear g5 hC
        have hs0 : w.heap.size < w5.heap.size := Nat.lt_of_lt_of_le (by simp) G5.size
        have HC5 : Hid (LnsAt w5.drew (some C) ls) := hC5
        have HG5 : Hid (Grows w w5.drew) := ((((Grows.refl _).alloc _).trans G5).drew)
        clear hC5
        go_wp2_with fail
        first | (go_region_with (first | (go_at_call 17; refine (HT.out _ HG5.out).mono ?_; rintro e w6 ⟨D, rfl, hD, g6⟩; have hx6 : w6.cell? ⟨w.heap.size, 0, none⟩ = some (.slice A n c) := (g6.cell (p := ⟨w.heap.size, 0, none⟩) hs0).trans hx5; have hy6 : w6.cell? ⟨w4.heap.size, 0, none⟩ = some (.slice (some C) n n) := (g6.cell (p := ⟨w4.heap.size, 0, none⟩) hs5).trans hy5; have HC6 := Lib.hid (HC5.out.keep g6); have HD6 := Lib.hid hD; have HG6 := Lib.hid g6; clear hD g6) | (go_at_call 19; refine (HE.out _ _ _ _ _ HC6.out HD6.out).mono ?_; rintro e w7 ⟨rfl, g7⟩))) | skip
        all_goals
          go_wp2
          go_ret
          exact ⟨rfl, (HG5.out.trans (HG6.out.trans g7)).below⟩
      · rw [less_no (by omega)] at HZ
        clear hb1 hb2 hA hr hw hn
        go_enter Try.func8, Try.ntmps8
        go_wp2_with fail
        refine (HZ.out _ ((Grows.refl _).alloc _)).mono ?_
        rintro e w1 ⟨rfl, g1⟩
        go_wp2
        go_ret
        exact ⟨rfl, (((Grows.refl _).alloc _).trans g1).below⟩
    · clear hA hr hn
      unfold maxLen at hb1
      unfold maxLen at hb2
      go_enter Try.func8, Try.ntmps8
      go_wp2
      go_ret
      exact ⟨rfl, ((Grows.refl _).alloc _).below⟩
  · clear hA hr hn
    unfold maxLen at hb1
    unfold maxLen at hb2
    go_enter Try.func8, Try.ntmps8
    go_wp2
    go_ret
    exact ⟨rfl, ((Grows.refl _).alloc _).below⟩
end Go.Proofs.Ytpffgpjiggdioaa
