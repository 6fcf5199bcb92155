/-
  The drawn law of WhereIs: whatever its bytes, it returns true. Condition: no more bytes than a slice may have.
-/
import Derived.Test.YteifcogfnpeahaaDrw
import Derived.Test.YteifcogfnpeahaaLawH
import Derived.Test.YteifcogfnpeahaaQP
import Derived.Test.YteifcogfnpeahaaGet
namespace Go.Proofs.Yteifcogfnpeahaa
open Go.RowKit

theorem ShortL.fit {K : List Ln} (h : ShortL K) (hK : K.length ≤ 100) : AllFit K := by
  refine ⟨by omega, fun i hi => ?_⟩
  obtain ⟨_, h1, h2, h3, h4, h5⟩ := h K[i] (List.getElem_mem hi)
  unfold Ln.fits maxLen
  omega

set_option maxRecDepth 100000 in
set_option maxHeartbeats 2000000 in
theorem dWhere_any (A : Option Addr) (n c : Nat) (w : World) (hn : n ≤ maxLen) (hc : n ≤ c) (h : BytesAt w A n) :
    Calls Try.prog 8 #[.slice A n c] w fun e w' => e = .returned (.bool true) ∧ Below w.heap.size w w' := by
  by_cases hbig : 1048576 < n
  · clear h
    unfold maxLen at hn
    go_enter Try.func8, Try.ntmps8
    go_wp2
    go_ret
    exact ⟨rfl, (Grows.refl _).below⟩
  · have HD := Lib.hid (DrawWhereIs_any A n c w hn hc h)
    clear h
    unfold maxLen at hn
    go_enter Try.func8, Try.ntmps8
    go_wp2_with fail
    refine (HD.out).mono ?_
    rintro e w1 ⟨v, K, s, key, rfl, ⟨hS, hK⟩, hO, ⟨hs, hk⟩, g1⟩
    obtain ⟨A0, c0, rfl, hA⟩ := hO.form
    have hf := hS.fit hK
    have HA := Lib.hid hA
    have HWI := Lib.hid (fun w2 (g : Grows w1 w2) => implWhere_any A0 c0 K s key w2 hf (hA.keep g))
    have HWS := Lib.hid (fun w2 (g : Grows w1 w2) => specWhere_any A0 c0 K s key w2 hf (hA.keep g))
    have HGI := Lib.hid (fun w2 (g : Grows w1 w2) => implGet_any A0 c0 K s key w2 hf (hA.keep g))
    have HG1 := Lib.hid g1
    have hz := where_lt K s key
    clear hS hO hs hk g1 hA hf HD
    obtain ⟨m, hm⟩ : ∃ m, K.length = m := ⟨_, rfl⟩
    rw [hm] at HWI HWS HGI hz hK ⊢
    have HM := Lib.hid hm
    clear hm
    obtain ⟨z, hzz⟩ : ∃ z, whereOf K s key = z := ⟨_, rfl⟩
    rw [hzz] at HWI HWS hz
    have HZ := Lib.hid hzz
    clear hzz
    go_wp2_with fail
    refine (HWI.out _ ((Grows.refl _).alloc _)).mono ?_
    rintro e w2 ⟨rfl, g2⟩
    have G2 : Hid (Grows (w1.alloc (fbox A0 m c0)) w2) := g2
    have G2' : Hid (Grows w1 w2) := ((Grows.refl _).alloc _).trans g2
    have hx2 : w2.cell? ⟨w1.heap.size, 0, none⟩ = some (.slice A0 m c0) := (G2.out.cell (p := ⟨w1.heap.size, 0, none⟩) (by simp)).trans (by simp [fbox])
    clear g2
    go_wp2_with fail
    refine (HWS.out _ G2'.out).mono ?_
    rintro e w3 ⟨rfl, g3⟩
    have G3 : Hid (Grows (w1.alloc (fbox A0 m c0)) w3) := G2.out.trans g3
    have G3' : Hid (Grows w1 w3) := ((Grows.refl _).alloc _).trans G3.out
    have hx3 : w3.cell? ⟨w1.heap.size, 0, none⟩ = some (.slice A0 m c0) := (G3.out.cell (p := ⟨w1.heap.size, 0, none⟩) (by simp)).trans (by simp [fbox])
    clear g3 hx2
    by_cases hneg : z < 0
    · go_wp2_with fail
      refine (HWS.out _ G3'.out).mono ?_
      rintro e w4 ⟨rfl, g4⟩
      go_wp2
      go_ret
      exact ⟨rfl, (HG1.out.trans (G3'.out.trans g4)).below⟩
    · obtain ⟨i, rfl⟩ := Int.eq_ofNat_of_zero_le (show 0 ≤ z by omega)
      have him : i < m := by omega
      have hiK : i < K.length := by rw [HM.out]; exact him
      obtain ⟨e1, e2⟩ := get_yes HZ.out hiK
      obtain ⟨e3, e4⟩ := where_line HZ.out hiK
      rw [e1, e2] at HGI
      obtain ⟨l, hl⟩ : ∃ l, K[i] = l := ⟨_, rfl⟩
      rw [hl] at HGI e3 e4
      have HKL := Lib.hid hl
      have hk3 : (l.k == 3) = true := by rw [e3]; rfl
      obtain ⟨va, hva⟩ : ∃ va, l.va = va := ⟨_, rfl⟩
      rw [hva] at HGI
      have HVA := Lib.hid hva
      have HNA := Lib.hid e4
      clear e1 e2 e3 e4 hl hva
      go_wp2_with fail
      refine (HGI.out _ G3'.out).mono ?_
      rintro e w4 ⟨rfl, g4⟩
      have G4 : Hid (Grows (w1.alloc (fbox A0 m c0)) w4) := G3.out.trans g4
      have G4' : Hid (Grows w1 w4) := ((Grows.refl _).alloc _).trans G4.out
      have hx4 : w4.cell? ⟨w1.heap.size, 0, none⟩ = some (.slice A0 m c0) := (G4.out.cell (p := ⟨w1.heap.size, 0, none⟩) (by simp)).trans (by simp [fbox])
      clear g4 hx3
      obtain ⟨b, o, rfl, hb, hcc⟩ := HA.out (by rw [HM.out]; omega)
      obtain ⟨d0, d1, d2, d3, d4, d5⟩ := (hcc i hiK).keep hb G4'.out
      rw [HKL.out] at d0 d1 d2 d3 d4 d5
      rw [HNA.out] at d2
      rw [HVA.out] at d4
      clear hcc
      go_wp2
      go_ret
      exact ⟨rfl, ((HG1.out.trans G4'.out).alloc _).below⟩
end Go.Proofs.Yteifcogfnpeahaa
