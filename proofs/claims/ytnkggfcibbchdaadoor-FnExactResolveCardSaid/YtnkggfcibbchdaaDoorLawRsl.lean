/-
  The law of Resolve, its own body walked. Conditions: sizes that an int holds.
-/
import Derived.Test.YtnkggfcibbchdaaDoorStkH
namespace Go.Proofs.YtnkggfcibbchdaaDoor
open Go.RowKit

set_option maxRecDepth 100000 in
set_option maxHeartbeats 4000000 in
theorem lawRsl_any (A : Option Addr) (c : Nat) (sl : List (List Ent)) (s key : ByteArray) (w : World) (hn : sl.length ≤ maxLen) (hr : ∀ i (h : i < sl.length), Reach1 sl[i]) (hA : RawAt w A sl) (hs : s.size ≤ maxLen) (hk : key.size ≤ maxLen) :
    Calls Tryd.prog 6 #[.slice A sl.length c, .string s, .string key] w fun e w' => e = .returned (.bool true) ∧ Below w.heap.size w w' := by
  have HZ := Lib.hid (fun w1 (g : Grows w w1) => szLayerS_any A c sl 1048576 w1 (by omega) (by omega) hn hr (hA.keep g))
  unfold maxLen at hs hk
  by_cases h1 : 1048576 < s.size
  · clear hA hr hn HZ
    go_enter Tryd.func6, Tryd.ntmps6
    go_wp2
    go_ret
    exact ⟨rfl, (Grows.refl _).below⟩
  by_cases h2 : 1048576 < key.size
  · clear hA hr hn HZ
    go_enter Tryd.func6, Tryd.ntmps6
    go_wp2
    go_ret
    exact ⟨rfl, (Grows.refl _).below⟩
  by_cases hw : (wstk sl : Int) ≤ 1048576
  · obtain ⟨hn2, hf⟩ := sfits_of hw (by omega)
    rw [less_of hw] at HZ
    have HT := Lib.hid (fun w1 (g : Grows w w1) => toLayerS_any A c sl w1 hn2 hf (hA.keep g))
    have HV := Lib.hid (fun (g d : Nat) w1 (h : StackAt w1 (some ⟨g, 0, none⟩) sl) => specResolve_any (some ⟨g, 0, none⟩) d sl s key w1 hn2 hf h)
    have HI := Lib.hid (fun (g d : Nat) w1 (h : StackAt w1 (some ⟨g, 0, none⟩) sl) => implResolve_any (some ⟨g, 0, none⟩) d sl s key w1 hn2 hf h (by omega) (by omega))
    have HE := Lib.hid (fun (g g2 d d2 : Nat) w1 (h : StackAt w1 (some ⟨g, 0, none⟩) sl) (k : StackAt w1 (some ⟨g2, 0, none⟩) sl) => eqLayerS_any (some ⟨g, 0, none⟩) (some ⟨g2, 0, none⟩) d d2 sl w1 hn2 hf h k)
    obtain ⟨τ, hτ⟩ : ∃ τ, tellS sl s key = τ := ⟨_, rfl⟩
    obtain ⟨π, hπ⟩ : ∃ π, tellB sl s key = π := ⟨_, rfl⟩
    rw [hτ, hπ] at HV HI
    obtain ⟨m, hm⟩ : ∃ m, (1048576 : Int) - (wstk sl : Int) = m := ⟨_, rfl⟩
    rw [hm] at HZ
    have hm0 : 0 ≤ m := by omega
    clear hA hr hw hf hn hm hτ hπ
    obtain ⟨n, hnn⟩ : ∃ n, sl.length = n := ⟨_, rfl⟩
    rw [hnn] at HZ HT HV HI HE ⊢
    clear hnn
    go_enter Tryd.func6, Tryd.ntmps6
    go_wp2_with fail
    refine (HZ.out _ (Grows.refl _)).mono ?_
    rintro e w1 ⟨rfl, g1⟩
    have G1 := Lib.hid g1
    clear g1
    go_wp2_with fail
    refine (HT.out _ G1.out).mono ?_
    rintro e w2 ⟨rfl, st2, g2⟩
    have G2 : Hid (Grows w w2) := G1.out.trans g2
    clear g2
    go_wp2_with fail
    refine (HV.out _ _ _ st2).mono ?_
    rintro e w3 ⟨rfl, g3⟩
    have G3 : Hid (Grows w w3) := G2.out.trans g3
    clear g3 st2
    go_wp2_with fail
    refine (HT.out _ G3.out).mono ?_
    rintro e w4 ⟨rfl, st4, g4⟩
    have G4 : Hid (Grows w w4) := G3.out.trans g4
    have ST4 := Lib.hid st4
    clear g4 st4
    go_wp2_with fail
    refine (HI.out _ _ _ ST4.out).mono ?_
    rintro e w5 ⟨rfl, g5⟩
    have G5 : Hid (Grows w w5) := G4.out.trans g5
    have ST5 := Lib.hid (ST4.out.keep g5)
    clear g5
    have hpp : (π != π) = false := bne_self_eq_false π
    go_wp2_with fail
    refine (HT.out _ G5.out).mono ?_
    rintro e w6 ⟨rfl, st6, g6⟩
    have G6 : Hid (Grows w w6) := G5.out.trans g6
    have ST6 := Lib.hid (ST5.out.keep g6)
    clear g6
    go_wp2_with fail
    refine (HE.out _ _ _ _ _ ST6.out st6).mono ?_
    rintro e w7 ⟨rfl, g7⟩
    go_wp2
    go_ret
    exact ⟨rfl, (G6.out.trans g7).below⟩
  · rw [less_no (by omega)] at HZ
    clear hA hr hw hn
    go_enter Tryd.func6, Tryd.ntmps6
    go_wp2_with fail
    refine (HZ.out _ (Grows.refl _)).mono ?_
    rintro e w1 ⟨rfl, g1⟩
    go_wp2
    go_ret
    exact ⟨rfl, g1.below⟩
end Go.Proofs.YtnkggfcibbchdaaDoor
