/-
  The drawn law of GetValue: whatever its bytes, it returns true. Condition: no more bytes than a slice may have.
-/
import Derived.Test.YteifcogfnpeahaaDWhere
import Derived.Test.YteifcogfnpeahaaKeys
import Derived.Test.YteifcogfnpeahaaTidyP
import Derived.Deep.RegionHeld3
namespace Go.Proofs.Yteifcogfnpeahaa
open Go.RowKit

set_option maxRecDepth 100000 in
set_option maxHeartbeats 4000000 in
theorem dGet_any (A : Option Addr) (n c : Nat) (w : World) (hn : n ≤ maxLen) (hc : n ≤ c) (h : BytesAt w A n) :
    Calls Try.prog 5 #[.slice A n c] w fun e w' => e = .returned (.bool true) ∧ Below w.heap.size w w' := by
  by_cases hbig : 1048576 < n
  · clear h
    unfold maxLen at hn
    go_enter Try.func5, Try.ntmps5
    go_wp2
    go_ret
    exact ⟨rfl, (Grows.refl _).below⟩
  · have HD := Lib.hid (DrawGetValue_any A n c w hn hc h)
    clear h
    unfold maxLen at hn
    go_enter Try.func5, Try.ntmps5
    go_wp2_with fail
    refine (HD.out).mono ?_
    rintro e w1 ⟨v, K, s, key, rfl, ⟨hS, hK⟩, hO, ⟨hs, hk⟩, g1⟩
    obtain ⟨A0, c0, rfl, hA⟩ := hO.form
    have hf := hS.fit hK
    have HA := Lib.hid hA
    have HGI := Lib.hid (fun w2 (g : Grows w1 w2) => implGet_any A0 c0 K s key w2 hf (hA.keep g))
    have HGS := Lib.hid (fun w2 (g : Grows w1 w2) => specGet_any A0 c0 K s key w2 hf (hA.keep g))
    have HVF := Lib.hid (fun w2 (g : Grows w1 w2) => implFile_any A0 c0 K w2 hf (hA.keep g))
    have HKI := Lib.hid (fun w2 (g : Grows w1 w2) => implKeys_any A0 c0 K s w2 hf (hA.keep g))
    have HWI := Lib.hid (fun w2 (g : Grows w1 w2) => implWhere_any A0 c0 K s key w2 hf (hA.keep g))
    have HG1 := Lib.hid g1
    have hz := where_lt K s key
    have HKL := Lib.hid (fun hv : vfile K = true => keys_has hv s key)
    have hkl : (keysOf' K s).length ≤ 1048576 := by have := keys_20 K s; omega
    unfold StrsRet at HKI
    clear hs hk
    clear hS hO g1 hA hf HD
    obtain ⟨m, hm⟩ : ∃ m, K.length = m := ⟨_, rfl⟩
    rw [hm] at HGI HGS HVF HKI HWI hz hK ⊢
    have HM := Lib.hid hm
    clear hm
    have HZB : Hid (getB K s key = !decide (whereOf K s key < 0)) := rfl
    have HZV : ∀ i (h : i < K.length), whereOf K s key = i → getV K s key = K[i].va := fun i h e => (get_yes e h).1
    have HZV := Lib.hid HZV
    obtain ⟨gv, hgv⟩ : ∃ gv, getV K s key = gv := ⟨_, rfl⟩
    obtain ⟨gb, hgb⟩ : ∃ gb, getB K s key = gb := ⟨_, rfl⟩
    obtain ⟨z, hzz⟩ : ∃ z, whereOf K s key = z := ⟨_, rfl⟩
    rw [hgv, hgb] at HGI HGS
    rw [hzz] at HWI hz HZB
    have HZB2 : Hid (gb = !decide (z < 0)) := by unfold Hid; rw [← hgb]; exact HZB.out
    have HZV2 : Hid (∀ i (h : i < K.length), z = (i : Int) → gv = K[i].va) := by
      intro i h e
      rw [← hgv]
      exact HZV.out i h (hzz.trans e)
    have HKL2 : Hid (∀ hv : vfile K = true, hasT (keysOf' K s) key = gb) := by intro hv; rw [← hgb]; exact HKL.out hv
    clear hgv hgb hzz HZB HZV HKL
    go_wp2_with fail
    refine (HGI.out _ ((Grows.refl _).alloc _)).mono ?_
    rintro e w2 ⟨rfl, g2⟩
    have G2 : Hid (Grows (w1.alloc (fbox A0 m c0)) w2) := g2
    have G2' : Hid (Grows w1 w2) := ((Grows.refl _).alloc _).trans G2.out
    have hx2 : w2.cell? ⟨w1.heap.size, 0, none⟩ = some (.slice A0 m c0) := (G2.out.cell (p := ⟨w1.heap.size, 0, none⟩) (by simp)).trans (by simp [fbox])
    clear g2
    go_wp2_with fail
    refine (HGS.out _ G2'.out).mono ?_
    rintro e w3 ⟨rfl, g3⟩
    have G3 : Hid (Grows (w1.alloc (fbox A0 m c0)) w3) := G2.out.trans g3
    have G3' : Hid (Grows w1 w3) := ((Grows.refl _).alloc _).trans G3.out
    have hx3 : w3.cell? ⟨w1.heap.size, 0, none⟩ = some (.slice A0 m c0) := (G3.out.cell (p := ⟨w1.heap.size, 0, none⟩) (by simp)).trans (by simp [fbox])
    clear g3 hx2
    by_cases hv : vfile K = true
    · have HV := Lib.hid hv
      rw [hv] at HVF
      clear hv
      go_wp2_with fail
      refine (HVF.out _ G3'.out).mono ?_
      rintro e w4 ⟨rfl, g4⟩
      have G4 : Hid (Grows (w1.alloc (fbox A0 m c0)) w4) := G3.out.trans g4
      have G4' : Hid (Grows w1 w4) := ((Grows.refl _).alloc _).trans G4.out
      have hx4 : w4.cell? ⟨w1.heap.size, 0, none⟩ = some (.slice A0 m c0) := (G4.out.cell (p := ⟨w1.heap.size, 0, none⟩) (by simp)).trans (by simp [fbox])
      clear g4 hx3
      go_wp2_with fail
      refine (HKI.out _ G4'.out).mono ?_
      rintro e w5 ⟨kv, rfl, hkv, g5⟩
      have HKV := Lib.hid hkv
      have G5 : Hid (Grows (w1.alloc (fbox A0 m c0)) w5) := G4.out.trans g5
      have G5' : Hid (Grows w1 w5) := ((Grows.refl _).alloc _).trans G5.out
      have hx5 : w5.cell? ⟨w1.heap.size, 0, none⟩ = some (.slice A0 m c0) := (G5.out.cell (p := ⟨w1.heap.size, 0, none⟩) (by simp)).trans (by simp [fbox])
      have HHT := Lib.hid (hasTextL_any kv _ _ key w5 hkl hkv)
      rw [HKL2.out HV.out] at HHT
      clear hkv g5 hx4
      go_wp2_with fail
      refine (HHT.out).mono ?_
      rintro e w6 ⟨rfl, rfl⟩
      by_cases hneg : z < 0
      · have hgb : gb = false := by rw [HZB2.out]; simpa using hneg
        subst hgb
        go_wp2_with fail
        first | go_quiet (fail) | skip
        go_wp2
        go_ret
        exact ⟨rfl, (HG1.out.trans (G5'.out.drewN _)).below⟩
      · have hgb : gb = true := by rw [HZB2.out]; simpa using hneg
        subst hgb
        obtain ⟨i, rfl⟩ := Int.eq_ofNat_of_zero_le (show 0 ≤ z by omega)
        have him : i < m := by omega
        have hiK : i < K.length := by rw [HM.out]; exact him
        have HVA := Lib.hid (HZV2.out i hiK rfl)
        obtain ⟨b, o, rfl, hb, hcc⟩ := HA.out (by rw [HM.out]; omega)
        have hd4 := ((hcc i hiK).keep hb G5'.out).2.2.2.2.1
        rw [← HVA.out] at hd4
        have HD4 := Lib.hid hd4
        have HX5 := Lib.hid hx5
        have hbs := Nat.lt_of_lt_of_le hb G5'.out.size
        clear hcc hneg
        go_wp2_with fail
        go_region_held3 (fun w' => w'.cell? ⟨w1.heap.size, 0, none⟩ = some (.slice (some ⟨b, o, none⟩) m c0) ∧ w'.cell? ⟨b, o + i * 6 + 4, none⟩ = some (.string gv)) (first | exact ⟨hx5, hd4⟩ | exact ⟨x1, x2⟩) (first | (go_at_call 29; refine (HWI.out _ G5'.out.drew).mono ?_; rintro e w6 ⟨rfl, g6'⟩; have g6 : Hid (Grows w5 w6) := (Grows.refl w5).drew.trans g6'; clear g6'; have x1 := (g6.out.cell (p := ⟨w1.heap.size, 0, none⟩) (World.block_lt_of_cell? w5 _ HX5.out)).trans HX5.out; have x2 := (g6.out.cell (p := ⟨b, o + i * 6 + 4, none⟩) hbs).trans HD4.out))
        go_wp2
        go_ret
        exact ⟨rfl, (HG1.out.trans (G5'.out.trans g6.out)).below⟩
    · have hv' : vfile K = false := by simpa using hv
      rw [hv'] at HVF
      clear hv hv'
      go_wp2_with fail
      refine (HVF.out _ G3'.out).mono ?_
      rintro e w4 ⟨rfl, g4⟩
      have G4 : Hid (Grows (w1.alloc (fbox A0 m c0)) w4) := G3.out.trans g4
      have G4' : Hid (Grows w1 w4) := ((Grows.refl _).alloc _).trans G4.out
      have hx4 : w4.cell? ⟨w1.heap.size, 0, none⟩ = some (.slice A0 m c0) := (G4.out.cell (p := ⟨w1.heap.size, 0, none⟩) (by simp)).trans (by simp [fbox])
      clear g4 hx3
      go_wp2
      go_ret
      exact ⟨rfl, (HG1.out.trans G4'.out).below⟩
end Go.Proofs.Yteifcogfnpeahaa
