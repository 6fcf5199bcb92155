/-
  The drawn law of NotesOf: whatever its bytes, it returns true. Condition: no more bytes than a slice may have.
-/
import Derived.Test.YteifcogfnpeahaaDWhere
import Derived.Test.YteifcogfnpeahaaDrwN
import Derived.Test.YteifcogfnpeahaaQN
namespace Go.Proofs.Yteifcogfnpeahaa
open Go.RowKit

set_option maxRecDepth 100000 in
set_option maxHeartbeats 4000000 in
theorem dNotes_any (A : Option Addr) (n c : Nat) (w : World) (hn : n ≤ maxLen) (hc : n ≤ c) (h : BytesAt w A n) :
    Calls Try.prog 9 #[.slice A n c] w fun e w' => e = .returned (.bool true) ∧ Below w.heap.size w w' := by
  by_cases hbig : 1048576 < n
  · clear h
    unfold maxLen at hn
    go_enter Try.func9, Try.ntmps9
    go_wp2
    go_ret
    exact ⟨rfl, (Grows.refl _).below⟩
  · have HD := Lib.hid (DrawNotesOf_any A n c w hn hc h)
    clear h
    unfold maxLen at hn
    go_enter Try.func9, Try.ntmps9
    go_wp2_with fail
    refine (HD.out).mono ?_
    rintro e w1 ⟨v, K, s, key, rfl, ⟨hS, hK⟩, hO, ⟨hs, hk⟩, g1⟩
    obtain ⟨A0, c0, rfl, hA⟩ := hO.form
    have hf := hS.fit hK
    have HA := Lib.hid hA
    have HNI := Lib.hid (fun w2 (g : Grows w1 w2) => implNotes_any A0 c0 K s key w2 hf (hA.keep g))
    have HNS := Lib.hid (fun w2 (g : Grows w1 w2) => specNotes_any A0 c0 K s key w2 hf (hA.keep g))
    have HWI := Lib.hid (fun w2 (g : Grows w1 w2) => implWhere_any A0 c0 K s key w2 hf (hA.keep g))
    have HG1 := Lib.hid g1
    have hO' := Lib.hid hO
    have hnl : (notesOf' K s key).length ≤ 1048576 := by have := notesOf_le K s key; omega
    have hz := where_lt K s key
    unfold StrsRet at HNI HNS
    clear hs hk
    clear hS hO g1 hA hf HD
    obtain ⟨m, hm⟩ : ∃ m, K.length = m := ⟨_, rfl⟩
    rw [hm] at HNI HNS HWI hz hK hO' ⊢
    have HM := Lib.hid hm
    clear hm
    obtain ⟨ns, hns⟩ : ∃ ns, notesOf' K s key = ns := ⟨_, rfl⟩
    rw [hns] at HNI HNS hnl
    have HNSD := Lib.hid hns
    clear hns
    have GW : Hid (Grows w1 w1) := Grows.refl _
    have X0 : Hid (Box (w1.alloc (.cells #[.slice A0 m c0] 25)) w1.heap.size (.slice A0 m c0) 25) := heap_alloc_new w1 _
    have hO'' := Lib.hid (hO'.out.keep ((Grows.refl w1).alloc (.cells #[.slice A0 m c0] 25)))
    clear hO'
    have hO' := hO''
    clear hO''
    have GA : Hid (Grows w1 (w1.alloc (.cells #[.slice A0 m c0] 25))) := GW.out.alloc _
    clear GW
    have GW := GA
    clear GA
    have cX0 := X0.out.cell
    go_wp2_with fail
    refine (HNI.out _ GW.out).mono ?_
    rintro e w2 ⟨nv, rfl, hnv, g2⟩
    clear cX0
    have X0' := Lib.hid (X0.out.keep g2)
    clear X0
    have X0 := X0'
    clear X0'
    have hO'' := Lib.hid (hO'.out.keep g2)
    clear hO'
    have hO' := hO''
    clear hO''
    have GA : Hid (Grows w1 w2) := GW.out.trans g2
    clear GW
    have GW := GA
    clear GA
    clear g2
    have NV := Lib.hid hnv
    clear hnv
    have cX0 := X0.out.cell
    go_wp2_with fail
    refine (HNS.out _ GW.out).mono ?_
    rintro e w3 ⟨nu, rfl, hnu, g3⟩
    clear cX0
    have X0' := Lib.hid (X0.out.keep g3)
    clear X0
    have X0 := X0'
    clear X0'
    have hO'' := Lib.hid (hO'.out.keep g3)
    clear hO'
    have hO' := hO''
    clear hO''
    have NV' := Lib.hid (NV.out.keep g3)
    clear NV
    have NV := NV'
    clear NV'
    have GA : Hid (Grows w1 w3) := GW.out.trans g3
    clear GW
    have GW := GA
    clear GA
    clear g3
    have NU := Lib.hid hnu
    clear hnu
    have cX0 := X0.out.cell
    go_wp2_with fail
    refine (equalTexts_any _ _ _ _ ns _ hnl NV.out NU.out).mono ?_
    rintro e w4 ⟨rfl, g4⟩
    clear cX0
    have X0' := Lib.hid (X0.out.keep g4)
    clear X0
    have X0 := X0'
    clear X0'
    have hO'' := Lib.hid (hO'.out.keep g4)
    clear hO'
    have hO' := hO''
    clear hO''
    have NV' := Lib.hid (NV.out.keep g4)
    clear NV
    have NV := NV'
    clear NV'
    have NU' := Lib.hid (NU.out.keep g4)
    clear NU
    have NU := NU'
    clear NU'
    have GA : Hid (Grows w1 w4) := GW.out.trans g4
    clear GW
    have GW := GA
    clear GA
    clear g4
    obtain ⟨An, cn, hnf, _⟩ := NV.out.form
    subst hnf
    by_cases hemp : ns = []
    · subst hemp
      have cX0 := X0.out.cell
      go_wp2_with fail
      refine (HNS.out _ GW.out).mono ?_
      rintro e w5 ⟨nu2, rfl, hnu, g5⟩
      clear cX0
      have X0' := Lib.hid (X0.out.keep g5)
      clear X0
      have X0 := X0'
      clear X0'
      have hO'' := Lib.hid (hO'.out.keep g5)
      clear hO'
      have hO' := hO''
      clear hO''
      have NV' := Lib.hid (NV.out.keep g5)
      clear NV
      have NV := NV'
      clear NV'
      have NU' := Lib.hid (NU.out.keep g5)
      clear NU
      have NU := NU'
      clear NU'
      have GA : Hid (Grows w1 w5) := GW.out.trans g5
      clear GW
      have GW := GA
      clear GA
      clear g5
      have NU2 := Lib.hid hnu
      clear hnu
      have cX0 := X0.out.cell
      go_wp2_with fail
      refine (equalTexts_any _ _ _ _ [] _ (by simp) NV.out NU2.out).mono ?_
      rintro e w6 ⟨rfl, g6⟩
      clear cX0
      have X0' := Lib.hid (X0.out.keep g6)
      clear X0
      have X0 := X0'
      clear X0'
      have hO'' := Lib.hid (hO'.out.keep g6)
      clear hO'
      have hO' := hO''
      clear hO''
      have NV' := Lib.hid (NV.out.keep g6)
      clear NV
      have NV := NV'
      clear NV'
      have NU' := Lib.hid (NU.out.keep g6)
      clear NU
      have NU := NU'
      clear NU'
      have GA : Hid (Grows w1 w6) := GW.out.trans g6
      clear GW
      have GW := GA
      clear GA
      clear g6
      have cX0 := X0.out.cell
      go_wp2
      go_ret
      exact ⟨rfl, (HG1.out.trans GW.out).below⟩
    · have hwn : ¬ whereOf K s key < 0 := fun h => hemp (by rw [← HNSD.out]; exact notesOf_no h)
      obtain ⟨i, hi⟩ : ∃ i : Nat, whereOf K s key = i := ⟨(whereOf K s key).toNat, by omega⟩
      have hN2 := notesOf_yes hi
      rw [HNSD.out] at hN2
      have hle := noteFrom_le K i
      have hlen : ns.length = i - noteFrom K i := by rw [hN2, valsFrom_length]
      have hiK : i < K.length := (where_pair hi).1
      have HNOTE := Lib.hid (noteFrom_notes K i)
      have HABOVE := Lib.hid (noteFrom_above K i)
      obtain ⟨a, ha⟩ : ∃ a, noteFrom K i = a := ⟨_, rfl⟩
      rw [ha] at hN2 hle hlen HNOTE
      have HAB2 : Hid (∀ b, a = b + 1 → K[b]!.k ≠ 1) := fun b hb => HABOVE.out b (ha.trans hb)
      have HNV : Hid (∀ k (h : k < ns.length), ns[k] = K[a + k]!.va) := by subst hN2; exact fun k h => valsFrom_get K a i k h
      obtain ⟨q, hq⟩ : ∃ q, ns.length = q := ⟨_, rfl⟩
      have hq0 : 0 < q := by rw [← hq]; exact Nat.pos_of_ne_zero (fun h => hemp (List.eq_nil_of_length_eq_zero h))
      have hiq : whereOf K s key = (a : Int) + (q : Int) := by omega
      have haq : a + q < m := by have := HM.out; omega
      have haq2 : i = a + q := by omega
      rw [hiq] at HWI
      have HQ := Lib.hid hq
      have hm9 := hK
      rw [hq] at NV hnl ⊢
      have HNE : Hid (ns ≠ []) := hemp
      clear hwn hi hN2 hle hlen hiK ha hiq hq hemp HABOVE hz HNI HNS NU
      have cX0 := X0.out.cell
      go_wp2_with fail
      refine (HWI.out _ GW.out).mono ?_
      rintro e w5 ⟨rfl, g5⟩
      clear cX0
      have X0' := Lib.hid (X0.out.keep g5)
      clear X0
      have X0 := X0'
      clear X0'
      have hO'' := Lib.hid (hO'.out.keep g5)
      clear hO'
      have hO' := hO''
      clear hO''
      have NV' := Lib.hid (NV.out.keep g5)
      clear NV
      have NV := NV'
      clear NV'
      have GA : Hid (Grows w1 w5) := GW.out.trans g5
      clear GW
      have GW := GA
      clear GA
      clear g5
      obtain ⟨bb, oo, rfl, hbb, hcc⟩ := HA.out (by rw [HM.out]; omega)
      have HCC := Lib.hid hcc
      clear hcc
      have hak : (a : Int) + (q : Int) - (q : Int) = (a : Int) := by omega
      have d0 : decide ((a : Int) < 0) = false := by simp
      have GJ := Lib.hid GW.out
      have hbs := Nat.lt_of_lt_of_le hbb GW.out.size
      go_wp2_with fail
      go_loopw [8] (fun i wr => ∃ k : Nat, k ≤ q ∧ i = .int .i64 k ∧ Hid (Grows w5 wr)) (fun i _ => q - (intOf i).toNat)
      case atStart => exact ⟨0, Nat.zero_le _, rfl, Grows.refl _⟩
      case round =>
        obtain ⟨k, hk, rfl, HG⟩ := hrel
        have hx6 := (X0.out.keep HG.out).cell
        by_cases hlt : k < q
        · have hk2 : k < ns.length := by rw [HQ.out]; exact hlt
          have hakK : a + k < K.length := by rw [HM.out]; omega
          have hnk := HNV.out k hk2
          have hkd := HNOTE.out (a + k) (by omega) (by omega)
          rw [get_bang hakK] at hnk hkd
          obtain ⟨d0', d1', d2', d3', d4', d5'⟩ := ((HCC.out (a + k) hakK).keep hbb (GJ.out.trans HG.out))
          rw [hkd] at d0'
          rw [← hnk] at d4'
          have HOF := NV.out.keep HG.out
          rw [← HQ.out] at HOF
          obtain ⟨A7, c7, he7, hf7⟩ := HOF.form
          injection he7 with he71 he72 he73
          subst he71
          obtain ⟨g9, rfl, _, hl9, hc9, _⟩ := hf7 (by omega)
          have c0' := hc9 k hk2
          obtain ⟨x, hx⟩ : ∃ x, ns[k] = x := ⟨_, rfl⟩
          rw [hx] at c0' d4'
          clear hx hc9 hf7 he72 he73 HOF hnk hkd d1' d2' d3' d5'
          have k1 : IntKind.i64.wrap ((a : Int) + (k : Int)) = (a : Int) + (k : Int) := IntWalk.i64_in _ (by omega)
          have k2 : (0 : Int) ≤ (a : Int) + (k : Int) := by omega
          have k3 : ((a : Int) + (k : Int)).toNat = a + k := by omega
          have k4 : (a : Int) + (k : Int) < (m : Int) := by omega
          go_wp2_with fail
          go_quiet (fail)
          clear k1 k2 k3 k4
          go_wp2
          go_roundw
          case rel => exact ⟨k + 1, by omega, by go_num, HG.out.drewN _⟩
          case measure => simp [intOf]; omega
        · obtain rfl : k = q := by omega
          rcases Nat.eq_zero_or_pos a with ha0 | ha0
          · subst ha0
            go_wp2
            go_ret
            exact ⟨rfl, (HG1.out.trans (GJ.out.trans HG.out)).below⟩
          · obtain ⟨b, rfl⟩ : ∃ b, a = b + 1 := ⟨a - 1, by omega⟩
            have hbK : b < K.length := by rw [HM.out]; omega
            have hkd := HAB2.out b rfl
            rw [get_bang hbK] at hkd
            obtain ⟨d0', d1', d2', d3', d4', d5'⟩ := ((HCC.out b hbK).keep hbb (GJ.out.trans HG.out))
            obtain ⟨kd, hkdd⟩ : ∃ kd, K[b].k = kd := ⟨_, rfl⟩
            rw [hkdd] at d0' hkd
            have hkb : (kd == 1) = false := by rw [beq_eq_false_iff_ne]; exact hkd
            have hkb2 : (kd != 1) = true := by rw [bne, hkb]; rfl
            have hab : (((b + 1 : Nat) : Int) == 0) = false := by rw [beq_eq_false_iff_ne]; omega
            clear hkd hkdd d1' d2' d3' d4' d5'
            go_wp2
            go_ret
            exact ⟨rfl, (HG1.out.trans (GJ.out.trans HG.out)).below⟩
end Go.Proofs.Yteifcogfnpeahaa
