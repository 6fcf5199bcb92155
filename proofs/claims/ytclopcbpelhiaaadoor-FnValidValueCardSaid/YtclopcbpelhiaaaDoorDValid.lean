/-
  The drawn law of ValidValue: whatever its bytes, it returns true. Condition: no more bytes than a slice may have.
-/
import Derived.Test.YtclopcbpelhiaaaDoorDWhere
import Derived.Test.YtclopcbpelhiaaaDoorLawV
import Derived.Test.YtclopcbpelhiaaaDoorSetR
import Derived.Test.YtclopcbpelhiaaaDoorTidyQ
namespace Go.Proofs.YtclopcbpelhiaaaDoor
open Go.RowKit

theorem set_nil {v : ByteArray} (h : vvalue v = true) : setB [] ⟨#[97]⟩ ⟨#[120]⟩ v = true := by
  have h1 : vname ⟨#[97]⟩ = true := by decide
  have h2 : vname ⟨#[120]⟩ = true := by decide
  have h3 : whereOf [] ⟨#[97]⟩ ⟨#[120]⟩ = -1 := by decide
  have h4 : (⟨#[97]⟩ : ByteArray).toList.isEmpty = false ∧ headsOf' [] ⟨#[97]⟩ = [] := ⟨isEmpty_ne (by decide), by decide⟩
  have e : setR [] ⟨#[97]⟩ ⟨#[120]⟩ v = [headL ⟨#[97]⟩, pairL ⟨#[120]⟩ v] := by
    unfold setR
    rw [h3, if_neg (by decide), if_pos h4]
    rfl
  unfold setB
  rw [e]
  unfold vfile vlines
  rw [Bool.and_eq_true, List.all_eq_true, decide_eq_true_iff]
  refine ⟨fun l hl => ?_, by simp⟩
  rw [List.mem_cons, List.mem_singleton] at hl
  rcases hl with rfl | rfl
  · exact vline_headL h1
  · exact vline_pairL h2 h
set_option maxRecDepth 100000 in
set_option maxHeartbeats 2000000 in
theorem DrawValidValue_any (A : Option Addr) (n c : Nat) (w : World) (hn : n ≤ maxLen) (hc : n ≤ c) (h : BytesAt w A n) :
    Calls Tryd.prog 20 #[.slice A n c] w fun e w' => ∃ s : ByteArray, e = .returned (.string s) ∧ s.size ≤ 41 ∧ Grows w w' := by
  have HB := Lib.hid h
  clear h
  go_enter Tryd.func20, Tryd.ntmps20
  go_wp2_with fail
  refine (newReader_any A n c _ hn hc HB.out).mono ?_
  rintro e w1 ⟨A1, n1, c1, g, rfl, hn1, hg, r1, k1⟩
  have R1 := Lib.hid r1
  have G1 := Lib.hid k1
  clear r1 k1 HB
  go_wp2_with fail
  refine (anyValue_any g A1 n1 c1 0 _ (by omega) hn1 R1.out).mono ?_
  rintro e w2 ⟨s, rfl, hs, q2, a2, b2, r2, k2⟩
  have HS := Lib.hid hs
  have G2 : Hid (Grows w w2) := G1.out.mark k2 (fun i hi => by injection hi with hi; omega)
  clear r2 k2 hs
  go_wp2
  go_ret
  exact ⟨s, rfl, HS.out, G2.out⟩

set_option maxRecDepth 100000 in
set_option maxHeartbeats 4000000 in
theorem dValid_any (A : Option Addr) (n c : Nat) (w : World) (hn : n ≤ maxLen) (hc : n ≤ c) (h : BytesAt w A n) :
    Calls Tryd.prog 5 #[.slice A n c] w fun e w' => e = .returned (.bool true) ∧ Below w.heap.size w w' := by
  by_cases hbig : 1048576 < n
  · clear h
    unfold maxLen at hn
    go_enter Tryd.func5, Tryd.ntmps5
    go_wp2
    go_ret
    exact ⟨rfl, (Grows.refl _).below⟩
  · have HD := Lib.hid (DrawValidValue_any A n c w hn hc h)
    clear h
    unfold maxLen at hn
    go_enter Tryd.func5, Tryd.ntmps5
    go_wp2_with fail
    refine (HD.out).mono ?_
    rintro e w1 ⟨s, rfl, hs, g1⟩
    have HVI := Lib.hid (fun w2 => implValue_any s w2 (show s.size ≤ maxLen by unfold maxLen; omega))
    have HVS := Lib.hid (fun w2 => specValidValue_any s w2 (show s.size ≤ maxLen by unfold maxLen; omega))
    have HG1 := Lib.hid g1
    have HSE := Lib.hid (fun w2 => implSet_any none [] ⟨#[97]⟩ ⟨#[120]⟩ s w2 ⟨by simp, fun i h => absurd h (by simp)⟩ (by decide) (by decide) (by omega) (LnsAt.nil w2 none))
    have HT0 := Lib.hid (fun hb : vvalue s = true => setT_of (K := []) ⟨by simp, fun i h => absurd h (by simp)⟩ (show (⟨#[97]⟩ : ByteArray).size ≤ 1048576 by decide) (show (⟨#[120]⟩ : ByteArray).size ≤ 1048576 by decide) (show s.size ≤ 1048576 by omega) (set_nil hb))
    have HB0 := Lib.hid (fun hb : vvalue s = true => set_nil hb)
    unfold ResLB at HSE
    clear g1 hs HD
    obtain ⟨vb, hvb⟩ : ∃ vb, vvalue s = vb := ⟨_, rfl⟩
    rw [hvb] at HVI HVS HT0 HB0
    clear hvb
    obtain ⟨R, hR⟩ : ∃ R, setL [] ⟨#[97]⟩ ⟨#[120]⟩ s = R := ⟨_, rfl⟩
    rw [hR] at HSE HT0
    clear hR
    have hl0 : ([] : List Ln).length = 0 := rfl
    rw [hl0] at HSE
    clear hl0
    go_wp2_with fail
    refine (HVI.out _).mono ?_
    rintro e w2 ⟨rfl, g2⟩
    have GW : Hid (Grows w1 w2) := g2
    clear g2
    go_wp2_with fail
    refine (HVS.out _).mono ?_
    rintro e w2' ⟨rfl, rfl⟩
    rcases vb with _ | _
    · go_wp2_with fail
      refine (HVS.out _).mono ?_
      rintro e w2' ⟨rfl, rfl⟩
      go_wp2
      go_ret
      exact ⟨rfl, (HG1.out.trans GW.out).below⟩
    · have HT := Lib.hid (HT0.out rfl)
      rw [HB0.out rfl] at HSE
      clear HT0 HB0
      go_wp2_with fail
      refine (HSE.out _).mono ?_
      rintro e w3 ⟨u3, rfl, hu3, g3⟩
      have U3 := Lib.hid hu3
      have G3 : Hid (Grows w1 w3) := GW.out.trans g3
      clear hu3 g3 GW HSE
      obtain ⟨A3, c3, hu3, hA3⟩ := U3.out.form
      subst hu3
      have HA3 := Lib.hid hA3
      have HG3 := Lib.hid (fun w2 (h : LnsAt w2 A3 R) => implGet_any A3 c3 R ⟨#[97]⟩ ⟨#[120]⟩ w2 HT.out.fits h)
      rw [HT.out.get.1, HT.out.get.2] at HG3
      clear hA3 HT
      go_wp2_with fail
      refine (HG3.out _ (HA3.out.keep ((Grows.refl _).alloc _))).mono ?_
      rintro e w4 ⟨rfl, g4⟩
      have G4 : Hid (Grows w1 w4) := (G3.out.alloc _).trans g4
      clear g4
      go_wp2
      go_ret
      exact ⟨rfl, (HG1.out.trans G4.out).below⟩
end Go.Proofs.YtclopcbpelhiaaaDoor
