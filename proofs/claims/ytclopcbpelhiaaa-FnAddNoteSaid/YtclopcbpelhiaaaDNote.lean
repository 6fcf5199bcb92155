/-
  The drawn law of AddNote: whatever its bytes, it returns true. Condition: no more bytes than a slice may have.
-/
import Derived.Test.YtclopcbpelhiaaaDrwA
import Derived.Test.YtclopcbpelhiaaaSetX
import Derived.Test.YtclopcbpelhiaaaNoteS
import Derived.Test.YtclopcbpelhiaaaMean
import Derived.Test.YtclopcbpelhiaaaNotes
namespace Go.Proofs.Ytclopcbpelhiaaa
open Go.RowKit

set_option maxRecDepth 100000 in
set_option maxHeartbeats 4000000 in
theorem dNote_any (A : Option Addr) (n c : Nat) (w : World) (hn : n ≤ maxLen) (hc : n ≤ c) (h : BytesAt w A n) :
    Calls Try.prog 6 #[.slice A n c] w fun e w' => e = .returned (.bool true) ∧ Below w.heap.size w w' := by
  by_cases hbig : 1048576 < n
  · clear h
    unfold maxLen at hn
    go_enter Try.func6, Try.ntmps6
    go_wp2
    go_ret
    exact ⟨rfl, (Grows.refl _).below⟩
  · have HD := Lib.hid (DrawAddNote_any A n c w hn hc h)
    clear h
    unfold maxLen at hn
    go_enter Try.func6, Try.ntmps6
    go_wp2_with fail
    refine (HD.out).mono ?_
    rintro e w1 ⟨v, K, s, key, tt, rfl, ⟨hS, hK⟩, hO, ⟨hs, hk, ht⟩, g1⟩
    obtain ⟨A0, c0, rfl, hA, hcap, _, hA00⟩ := hO.form4
    have hf := hS.fit hK
    have HA := Lib.hid hA
    have HAI := Lib.hid (fun w2 (g : Grows w1 w2) => implAddNoteC_any A0 c0 K s key tt w2 hf (by omega) hcap hA00 (hA.keep g))
    have HAS := Lib.hid (fun w2 (g : Grows w1 w2) => specAddNoteC_any A0 c0 K s key tt w2 hf (by omega) hcap (hA.keep g))
    have HNI := Lib.hid (fun w2 (g : Grows w1 w2) => implNotes_any A0 c0 K s key w2 hf (hA.keep g))
    have HG1 := Lib.hid g1
    have HT0 := Lib.hid (fun hb : addNB K s key tt = true => noteT_of hf (show tt.size ≤ 1048576 by omega) hb)
    have hrl : (addNL K s key tt).length ≤ 1048576 := addNL_le K s key tt
    have hnl : (notesOf' K s key).length ≤ 100 := Nat.le_trans (notesOf_le K s key) hK
    have hO' := Lib.hid hO
    have HFK := Lib.hid hf
    unfold ResLB at HAI HAS
    unfold StrsRet at HNI
    obtain ⟨i0, hi, hz0, hz1, hz2⟩ := info_parts infoStr
    have HI : Hid (Try.prog.info? 9 = some i0) := hi
    have HZ0 : Hid (i0.zero = some (.string ⟨#[]⟩)) := hz0
    have HZ1 : Hid (i0.size = 1) := hz1
    have HZ2 : Hid (i0.bytes = 16) := hz2
    clear hi hz0 hz1 hz2
    clear hS hO g1 hA hf HD hcap hA00
    obtain ⟨m, hm⟩ : ∃ m, K.length = m := ⟨_, rfl⟩
    rw [hm] at HAI HAS HNI hK hO' ⊢
    have HM := Lib.hid hm
    clear hm
    obtain ⟨R, hR⟩ : ∃ R, addNL K s key tt = R := ⟨_, rfl⟩
    obtain ⟨rb, hrb⟩ : ∃ rb, addNB K s key tt = rb := ⟨_, rfl⟩
    have HT : Hid (rb = true → NoteT K s key tt R) := fun h => by rw [← hR]; exact HT0.out (hrb.trans h)
    rw [hR, hrb] at HAI HAS
    rw [hR] at hrl
    clear hR hrb HT0 hs hk ht
    have GW : Hid (Grows w1 w1) := Grows.refl _
    have X0 : Hid (Box (w1.alloc (.cells #[.slice A0 m c0] 25)) w1.heap.size (.slice A0 m c0) 25) := heap_alloc_new w1 _
    have hO'' := Lib.hid (hO'.out.keep ((Grows.refl w1).alloc (.cells #[.slice A0 m c0] 25)))
    clear hO'
    have hO' := hO''
    clear hO''
    have GA : Hid (Grows w1 (w1.alloc (.cells #[.slice A0 m c0] 25))) := GW.out.alloc _
    clear GW
    have GW := GA
    clear GA
    have cX0 := X0.out.cell
    go_wp2_with fail
    refine (HAI.out _ GW.out).mono ?_
    rintro e w2 ⟨u2, rfl, hu2, g2⟩
    clear cX0
    have X0' := Lib.hid (X0.out.keep g2)
    clear X0
    have X0 := X0'
    clear X0'
    have hO'' := Lib.hid (hO'.out.keep g2)
    clear hO'
    have hO' := hO''
    clear hO''
    have GA : Hid (Grows w1 w2) := GW.out.trans g2
    clear GW
    have GW := GA
    clear GA
    clear g2
    have U2 := Lib.hid hu2
    clear hu2
    obtain ⟨A2, c2, hu2, _⟩ := U2.out.form
    subst hu2
    have X2 : Hid (Box (w2.alloc (.cells #[.slice A2 R.length c2] 25)) w2.heap.size (.slice A2 R.length c2) 25) := heap_alloc_new w2 _
    have X0' := Lib.hid (X0.out.keep ((Grows.refl w2).alloc (.cells #[.slice A2 R.length c2] 25)))
    clear X0
    have X0 := X0'
    clear X0'
    have hO'' := Lib.hid (hO'.out.keep ((Grows.refl w2).alloc (.cells #[.slice A2 R.length c2] 25)))
    clear hO'
    have hO' := hO''
    clear hO''
    have U2' := Lib.hid (U2.out.keep ((Grows.refl w2).alloc (.cells #[.slice A2 R.length c2] 25)))
    clear U2
    have U2 := U2'
    clear U2'
    have GA : Hid (Grows w1 (w2.alloc (.cells #[.slice A2 R.length c2] 25))) := GW.out.alloc _
    clear GW
    have GW := GA
    clear GA
    have cX0 := X0.out.cell
    have cX2 := X2.out.cell
    go_wp2_with fail
    refine (HAS.out _ GW.out).mono ?_
    rintro e w3 ⟨u3, rfl, hu3, g3⟩
    clear cX0 cX2
    have X0' := Lib.hid (X0.out.keep g3)
    clear X0
    have X0 := X0'
    clear X0'
    have X2' := Lib.hid (X2.out.keep g3)
    clear X2
    have X2 := X2'
    clear X2'
    have hO'' := Lib.hid (hO'.out.keep g3)
    clear hO'
    have hO' := hO''
    clear hO''
    have U2' := Lib.hid (U2.out.keep g3)
    clear U2
    have U2 := U2'
    clear U2'
    have GA : Hid (Grows w1 w3) := GW.out.trans g3
    clear GW
    have GW := GA
    clear GA
    clear g3
    have U3 := Lib.hid hu3
    clear hu3
    obtain ⟨A3, c3, hu3, _⟩ := U3.out.form
    subst hu3
    have X3 : Hid (Box (w3.alloc (.cells #[.slice A3 R.length c3] 25)) w3.heap.size (.slice A3 R.length c3) 25) := heap_alloc_new w3 _
    have X0' := Lib.hid (X0.out.keep ((Grows.refl w3).alloc (.cells #[.slice A3 R.length c3] 25)))
    clear X0
    have X0 := X0'
    clear X0'
    have X2' := Lib.hid (X2.out.keep ((Grows.refl w3).alloc (.cells #[.slice A3 R.length c3] 25)))
    clear X2
    have X2 := X2'
    clear X2'
    have hO'' := Lib.hid (hO'.out.keep ((Grows.refl w3).alloc (.cells #[.slice A3 R.length c3] 25)))
    clear hO'
    have hO' := hO''
    clear hO''
    have U2' := Lib.hid (U2.out.keep ((Grows.refl w3).alloc (.cells #[.slice A3 R.length c3] 25)))
    clear U2
    have U2 := U2'
    clear U2'
    have U3' := Lib.hid (U3.out.keep ((Grows.refl w3).alloc (.cells #[.slice A3 R.length c3] 25)))
    clear U3
    have U3 := U3'
    clear U3'
    have GA : Hid (Grows w1 (w3.alloc (.cells #[.slice A3 R.length c3] 25))) := GW.out.alloc _
    clear GW
    have GW := GA
    clear GA
    have cX0 := X0.out.cell
    have cX2 := X2.out.cell
    have cX3 := X3.out.cell
    go_wp2_with fail
    refine (equalFile_own _ _ _ _ R _ hrl U2.out U3.out).mono ?_
    rintro e w4 ⟨rfl, g4⟩
    clear cX0 cX2 cX3
    have X0' := Lib.hid (X0.out.keep g4)
    clear X0
    have X0 := X0'
    clear X0'
    have X2' := Lib.hid (X2.out.keep g4)
    clear X2
    have X2 := X2'
    clear X2'
    have X3' := Lib.hid (X3.out.keep g4)
    clear X3
    have X3 := X3'
    clear X3'
    have hO'' := Lib.hid (hO'.out.keep g4)
    clear hO'
    have hO' := hO''
    clear hO''
    have U2' := Lib.hid (U2.out.keep g4)
    clear U2
    have U2 := U2'
    clear U2'
    have U3' := Lib.hid (U3.out.keep g4)
    clear U3
    have U3 := U3'
    clear U3'
    have GA : Hid (Grows w1 w4) := GW.out.trans g4
    clear GW
    have GW := GA
    clear GA
    clear g4
    rcases rb with _ | _
    · have cX0 := X0.out.cell
      have cX2 := X2.out.cell
      have cX3 := X3.out.cell
      go_wp2_with fail
      refine (equalFile_own _ _ _ _ R _ hrl U2.out U3.out).mono ?_
      rintro e w5 ⟨rfl, g5⟩
      clear cX0 cX2 cX3
      have X0' := Lib.hid (X0.out.keep g5)
      clear X0
      have X0 := X0'
      clear X0'
      have X2' := Lib.hid (X2.out.keep g5)
      clear X2
      have X2 := X2'
      clear X2'
      have X3' := Lib.hid (X3.out.keep g5)
      clear X3
      have X3 := X3'
      clear X3'
      have hO'' := Lib.hid (hO'.out.keep g5)
      clear hO'
      have hO' := hO''
      clear hO''
      have U2' := Lib.hid (U2.out.keep g5)
      clear U2
      have U2 := U2'
      clear U2'
      have U3' := Lib.hid (U3.out.keep g5)
      clear U3
      have U3 := U3'
      clear U3'
      have GA : Hid (Grows w1 w5) := GW.out.trans g5
      clear GW
      have GW := GA
      clear GA
      clear g5
      have cX0 := X0.out.cell
      have cX2 := X2.out.cell
      have cX3 := X3.out.cell
      go_wp2
      go_ret
      exact ⟨rfl, (HG1.out.trans GW.out).below⟩
    · have HK := Lib.hid (HT.out rfl)
      have HN2 := Lib.hid (fun w2 (h : LnsAt w2 A2 R) => implNotes_any A2 c2 R s key w2 HK.out.fits h)
      unfold StrsRet at HN2
      rw [HK.out.notes] at HN2
      have HMN := Lib.hid (fun w2' (h : LnsAt w2' A2 R) (g : LnsAt w2' A0 K) => implMean_any A2 c2 R A0 c0 K w2' HK.out.fits HFK.out h g)
      rw [HK.out.mean, HM.out] at HMN
      have hrm := HK.out.len
      rw [HM.out] at hrm
      have HRM := Lib.hid hrm
      clear hrm HT HK
      obtain ⟨ns, hns⟩ : ∃ ns, notesOf' K s key = ns := ⟨_, rfl⟩
      rw [hns] at HNI HN2 hnl
      clear hns
      have hnl2 : (ns ++ [tt]).length ≤ 1048576 := by rw [List.length_append]; simp; omega
      have cX0 := (X0.out.keep ((Grows.refl w4).alloc (.cells #[] 9))).cell
      have cX2 := (X2.out.keep ((Grows.refl w4).alloc (.cells #[] 9))).cell
      have cX3 := (X3.out.keep ((Grows.refl w4).alloc (.cells #[] 9))).cell
      go_wp2_with fail
      refine (HNI.out _ (GW.out.alloc _)).mono ?_
      rintro e w9 ⟨nv, rfl, hnv, g9⟩
      clear cX0 cX2 cX3
      have GZ9 : Hid (Grows w4 w9) := ((Grows.refl w4).alloc _).trans g9
      have NV := Lib.hid hnv
      have HE : Hid (OwnS w9 w4.heap.size (.slice (some ⟨w4.heap.size, 0, none⟩) 0 0) []) := (OwnS.empty w4 w4.heap.size (Nat.le_refl _)).keep g9
      clear g9 hnv
      obtain ⟨A9, c9, hv9, hA9⟩ := NV.out.vals
      subst hv9
      rcases A9 with _ | A9
      · have hn0 : ns = [] := by
          rcases Nat.eq_zero_or_pos ns.length with h0 | h0
          · exact List.eq_nil_of_length_eq_zero h0
          · obtain ⟨b9, o9, e9, _⟩ := hA9 (by rw [strs_length]; exact h0)
            cases e9
        have hl0 : ns.length = 0 := by rw [hn0]; rfl
        have HE2 : Hid (OwnS w9 w4.heap.size (.slice (some ⟨w4.heap.size, 0, none⟩) 0 0) ns) := by rw [hn0]; exact HE.out
        rw [hl0]
        clear hA9 hn0 hl0 HE
        have HOW : Hid (w9.ownsRow w4.heap.size 9 1 (.slice (some ⟨w4.heap.size, 0, none⟩) 0 0) ns.length (strs' ns)) := HE2.out
        go_wp2_with (at_builtin; refine wpList_append_own _ rfl _ _ 42 rfl w4.heap.size 9 i0 (.string ⟨#[]⟩) 1 16 Try.underlying42 HI.out HZ0.out HZ1.out HZ2.out rfl (by decide) _ _ _ rfl (HOW.out.alloc _) ⟨w9.heap.size, 0, none⟩ 1 1 [.string tt] rfl rfl ?c1A ?c2A ?c3A ?c4A ?c5A ?_)
        case c1A =>
          intro j u hj
          match j, hj with
          | 0, hj => simp at hj; subst hj; simp [Addr.add]
        case c2A => intro u hu; simp at hu; subst hu; rfl
        case c3A => unfold maxLen; omega
        case c4A => omega
        case c5A => have := GZ9.out.size; simp; omega
        · intro v11 w11 hown hgrow _
          have GZ11 : Hid (Grows w4 w11) := (GZ9.out.alloc _).grown (HOW.out.alloc _) hgrow
          have HO11 : Hid (OwnS w11 w4.heap.size v11 (ns ++ [tt])) := by unfold Hid OwnS; rw [strs_snoc, List.length_append]; exact hown
          clear hown hgrow
          have X0' := Lib.hid (X0.out.keep GZ11.out)
          clear X0
          have X0 := X0'
          clear X0'
          have X2' := Lib.hid (X2.out.keep GZ11.out)
          clear X2
          have X2 := X2'
          clear X2'
          have X3' := Lib.hid (X3.out.keep GZ11.out)
          clear X3
          have X3 := X3'
          clear X3'
          have hO'' := Lib.hid (hO'.out.keep GZ11.out)
          clear hO'
          have hO' := hO''
          clear hO''
          have U2' := Lib.hid (U2.out.keep GZ11.out)
          clear U2
          have U2 := U2'
          clear U2'
          have U3' := Lib.hid (U3.out.keep GZ11.out)
          clear U3
          have U3 := U3'
          clear U3'
          have GA : Hid (Grows w1 w11) := GW.out.trans GZ11.out
          clear GW
          have GW := GA
          clear GA
          have cX0 := X0.out.cell
          have cX2 := X2.out.cell
          have cX3 := X3.out.cell
          go_wp2_with fail
          refine (HN2.out _ U2.out.at).mono ?_
          rintro e w12 ⟨nw, rfl, hnw, g12⟩
          clear cX0 cX2 cX3
          have X0' := Lib.hid (X0.out.keep g12)
          clear X0
          have X0 := X0'
          clear X0'
          have X2' := Lib.hid (X2.out.keep g12)
          clear X2
          have X2 := X2'
          clear X2'
          have X3' := Lib.hid (X3.out.keep g12)
          clear X3
          have X3 := X3'
          clear X3'
          have hO'' := Lib.hid (hO'.out.keep g12)
          clear hO'
          have hO' := hO''
          clear hO''
          have U2' := Lib.hid (U2.out.keep g12)
          clear U2
          have U2 := U2'
          clear U2'
          have U3' := Lib.hid (U3.out.keep g12)
          clear U3
          have U3 := U3'
          clear U3'
          have HO11' := Lib.hid (HO11.out.keep g12)
          clear HO11
          have HO11 := HO11'
          clear HO11'
          have GA : Hid (Grows w1 w12) := GW.out.trans g12
          clear GW
          have GW := GA
          clear GA
          clear g12
          have NW := Lib.hid hnw
          clear hnw
          have cX0 := X0.out.cell
          have cX2 := X2.out.cell
          have cX3 := X3.out.cell
          go_wp2_with fail
          refine (equalTexts_any _ _ _ _ (ns ++ [tt]) _ hnl2 NW.out HO11.out).mono ?_
          rintro e w13 ⟨rfl, g13⟩
          clear cX0 cX2 cX3
          have X0' := Lib.hid (X0.out.keep g13)
          clear X0
          have X0 := X0'
          clear X0'
          have X2' := Lib.hid (X2.out.keep g13)
          clear X2
          have X2 := X2'
          clear X2'
          have X3' := Lib.hid (X3.out.keep g13)
          clear X3
          have X3 := X3'
          clear X3'
          have hO'' := Lib.hid (hO'.out.keep g13)
          clear hO'
          have hO' := hO''
          clear hO''
          have U2' := Lib.hid (U2.out.keep g13)
          clear U2
          have U2 := U2'
          clear U2'
          have U3' := Lib.hid (U3.out.keep g13)
          clear U3
          have U3 := U3'
          clear U3'
          have HO11' := Lib.hid (HO11.out.keep g13)
          clear HO11
          have HO11 := HO11'
          clear HO11'
          have GA : Hid (Grows w1 w13) := GW.out.trans g13
          clear GW
          have GW := GA
          clear GA
          clear g13
          have cX0 := X0.out.cell
          have cX2 := X2.out.cell
          have cX3 := X3.out.cell
          go_wp2_with fail
          refine (HMN.out _ U2.out.at (HA.out.keep GW.out)).mono ?_
          rintro e w14 ⟨rfl, g14⟩
          clear cX0 cX2 cX3
          have X0' := Lib.hid (X0.out.keep g14)
          clear X0
          have X0 := X0'
          clear X0'
          have X2' := Lib.hid (X2.out.keep g14)
          clear X2
          have X2 := X2'
          clear X2'
          have X3' := Lib.hid (X3.out.keep g14)
          clear X3
          have X3 := X3'
          clear X3'
          have hO'' := Lib.hid (hO'.out.keep g14)
          clear hO'
          have hO' := hO''
          clear hO''
          have U2' := Lib.hid (U2.out.keep g14)
          clear U2
          have U2 := U2'
          clear U2'
          have U3' := Lib.hid (U3.out.keep g14)
          clear U3
          have U3 := U3'
          clear U3'
          have HO11' := Lib.hid (HO11.out.keep g14)
          clear HO11
          have HO11 := HO11'
          clear HO11'
          have GA : Hid (Grows w1 w14) := GW.out.trans g14
          clear GW
          have GW := GA
          clear GA
          clear g14
          rw [HRM.out] at X2
          have hlm : ((m + 1 : Nat) : Int) = (m : Int) + 1 := by omega
          have hwr : IntKind.i64.wrap ((m : Int) + 1) = (m : Int) + 1 := IntWalk.i64_in _ (by omega)
          have cX0 := X0.out.cell
          have cX2 := X2.out.cell
          have cX3 := X3.out.cell
          go_wp2
          go_ret
          exact ⟨rfl, (HG1.out.trans GW.out).below⟩
      · have HN9 := Lib.hid (ValsAt.news hA9)
        clear hA9
        have HOE : Hid (w9.ownsRow w4.heap.size 9 1 (.slice (some ⟨w4.heap.size, 0, none⟩) 0 0) 0 []) := HE.out
        go_wp2_with (at_builtin; refine wpList_append_own _ rfl _ _ 42 rfl w4.heap.size 9 i0 (.string ⟨#[]⟩) 1 16 Try.underlying42 HI.out HZ0.out HZ1.out HZ2.out rfl (by decide) _ _ _ rfl HOE.out A9 ns.length c9 (strs' ns) rfl (by rw [strs_length]; omega) HN9.out ?d2A (by unfold maxLen; omega) (by omega) (by have := GZ9.out.size; omega) ?_)
        case d2A => intro u hu; obtain ⟨x, _, rfl⟩ := List.mem_map.1 hu; rfl
        intro v10 w10 hown hgrow _
        have GZ10 : Hid (Grows w4 w10) := GZ9.out.grown HOE.out hgrow
        have HO10 : Hid (OwnS w10 w4.heap.size v10 ns) := by unfold Hid OwnS; first | exact hown | (have h9 := hown; rw [Nat.zero_add, List.nil_append] at h9; exact h9) | (have h9 := hown; rw [Nat.zero_add] at h9; exact h9)
        clear hown hgrow HN9
        have HOW : Hid (w10.ownsRow w4.heap.size 9 1 v10 ns.length (strs' ns)) := HO10.out
        go_wp2_with (at_builtin; refine wpList_append_own _ rfl _ _ 42 rfl w4.heap.size 9 i0 (.string ⟨#[]⟩) 1 16 Try.underlying42 HI.out HZ0.out HZ1.out HZ2.out rfl (by decide) _ _ _ rfl (HOW.out.alloc _) ⟨w10.heap.size, 0, none⟩ 1 1 [.string tt] rfl rfl ?c1A ?c2A ?c3A ?c4A ?c5A ?_)
        case c1A =>
          intro j u hj
          match j, hj with
          | 0, hj => simp at hj; subst hj; simp [Addr.add]
        case c2A => intro u hu; simp at hu; subst hu; rfl
        case c3A => unfold maxLen; omega
        case c4A => omega
        case c5A => have := GZ10.out.size; simp; omega
        · intro v11 w11 hown hgrow _
          have GZ11 : Hid (Grows w4 w11) := (GZ10.out.alloc _).grown (HOW.out.alloc _) hgrow
          have HO11 : Hid (OwnS w11 w4.heap.size v11 (ns ++ [tt])) := by unfold Hid OwnS; rw [strs_snoc, List.length_append]; exact hown
          clear hown hgrow
          have X0' := Lib.hid (X0.out.keep GZ11.out)
          clear X0
          have X0 := X0'
          clear X0'
          have X2' := Lib.hid (X2.out.keep GZ11.out)
          clear X2
          have X2 := X2'
          clear X2'
          have X3' := Lib.hid (X3.out.keep GZ11.out)
          clear X3
          have X3 := X3'
          clear X3'
          have hO'' := Lib.hid (hO'.out.keep GZ11.out)
          clear hO'
          have hO' := hO''
          clear hO''
          have U2' := Lib.hid (U2.out.keep GZ11.out)
          clear U2
          have U2 := U2'
          clear U2'
          have U3' := Lib.hid (U3.out.keep GZ11.out)
          clear U3
          have U3 := U3'
          clear U3'
          have GA : Hid (Grows w1 w11) := GW.out.trans GZ11.out
          clear GW
          have GW := GA
          clear GA
          have cX0 := X0.out.cell
          have cX2 := X2.out.cell
          have cX3 := X3.out.cell
          go_wp2_with fail
          refine (HN2.out _ U2.out.at).mono ?_
          rintro e w12 ⟨nw, rfl, hnw, g12⟩
          clear cX0 cX2 cX3
          have X0' := Lib.hid (X0.out.keep g12)
          clear X0
          have X0 := X0'
          clear X0'
          have X2' := Lib.hid (X2.out.keep g12)
          clear X2
          have X2 := X2'
          clear X2'
          have X3' := Lib.hid (X3.out.keep g12)
          clear X3
          have X3 := X3'
          clear X3'
          have hO'' := Lib.hid (hO'.out.keep g12)
          clear hO'
          have hO' := hO''
          clear hO''
          have U2' := Lib.hid (U2.out.keep g12)
          clear U2
          have U2 := U2'
          clear U2'
          have U3' := Lib.hid (U3.out.keep g12)
          clear U3
          have U3 := U3'
          clear U3'
          have HO11' := Lib.hid (HO11.out.keep g12)
          clear HO11
          have HO11 := HO11'
          clear HO11'
          have GA : Hid (Grows w1 w12) := GW.out.trans g12
          clear GW
          have GW := GA
          clear GA
          clear g12
          have NW := Lib.hid hnw
          clear hnw
          have cX0 := X0.out.cell
          have cX2 := X2.out.cell
          have cX3 := X3.out.cell
          go_wp2_with fail
          refine (equalTexts_any _ _ _ _ (ns ++ [tt]) _ hnl2 NW.out HO11.out).mono ?_
          rintro e w13 ⟨rfl, g13⟩
          clear cX0 cX2 cX3
          have X0' := Lib.hid (X0.out.keep g13)
          clear X0
          have X0 := X0'
          clear X0'
          have X2' := Lib.hid (X2.out.keep g13)
          clear X2
          have X2 := X2'
          clear X2'
          have X3' := Lib.hid (X3.out.keep g13)
          clear X3
          have X3 := X3'
          clear X3'
          have hO'' := Lib.hid (hO'.out.keep g13)
          clear hO'
          have hO' := hO''
          clear hO''
          have U2' := Lib.hid (U2.out.keep g13)
          clear U2
          have U2 := U2'
          clear U2'
          have U3' := Lib.hid (U3.out.keep g13)
          clear U3
          have U3 := U3'
          clear U3'
          have HO11' := Lib.hid (HO11.out.keep g13)
          clear HO11
          have HO11 := HO11'
          clear HO11'
          have GA : Hid (Grows w1 w13) := GW.out.trans g13
          clear GW
          have GW := GA
          clear GA
          clear g13
          have cX0 := X0.out.cell
          have cX2 := X2.out.cell
          have cX3 := X3.out.cell
          go_wp2_with fail
          refine (HMN.out _ U2.out.at (HA.out.keep GW.out)).mono ?_
          rintro e w14 ⟨rfl, g14⟩
          clear cX0 cX2 cX3
          have X0' := Lib.hid (X0.out.keep g14)
          clear X0
          have X0 := X0'
          clear X0'
          have X2' := Lib.hid (X2.out.keep g14)
          clear X2
          have X2 := X2'
          clear X2'
          have X3' := Lib.hid (X3.out.keep g14)
          clear X3
          have X3 := X3'
          clear X3'
          have hO'' := Lib.hid (hO'.out.keep g14)
          clear hO'
          have hO' := hO''
          clear hO''
          have U2' := Lib.hid (U2.out.keep g14)
          clear U2
          have U2 := U2'
          clear U2'
          have U3' := Lib.hid (U3.out.keep g14)
          clear U3
          have U3 := U3'
          clear U3'
          have HO11' := Lib.hid (HO11.out.keep g14)
          clear HO11
          have HO11 := HO11'
          clear HO11'
          have GA : Hid (Grows w1 w14) := GW.out.trans g14
          clear GW
          have GW := GA
          clear GA
          clear g14
          rw [HRM.out] at X2
          have hlm : ((m + 1 : Nat) : Int) = (m : Int) + 1 := by omega
          have hwr : IntKind.i64.wrap ((m : Int) + 1) = (m : Int) + 1 := IntWalk.i64_in _ (by omega)
          have cX0 := X0.out.cell
          have cX2 := X2.out.cell
          have cX3 := X3.out.cell
          go_wp2
          go_ret
          exact ⟨rfl, (HG1.out.trans GW.out).below⟩
end Go.Proofs.Ytclopcbpelhiaaa
