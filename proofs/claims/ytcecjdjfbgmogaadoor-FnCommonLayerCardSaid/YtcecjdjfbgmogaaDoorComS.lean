/-
  What two layers have in common: CommonLayer of the specification. Conditions: parts of at most 1048576 bytes.
-/
import Derived.Test.YtcecjdjfbgmogaaDoorComE
namespace Go.Proofs.YtcecjdjfbgmogaaDoor
open Go.RowKit

set_option maxRecDepth 100000 in
set_option maxHeartbeats 8000000 in
theorem specCom_any (A : Option Addr) (c : Nat) (es : List Ent) (B : Option Addr) (d : Nat) (bs : List Ent) (w : World) (hc0 : es.length ≤ c) (hd0 : bs.length ≤ d) (hf : EFit es) (hA : EntsAt w A es) (hg : EFit bs) (hB : EntsAt w B bs) :
    Calls Tryd.prog 16 #[.agg #[.slice A es.length c], .agg #[.slice B bs.length d]] w (ResE (comE es bs) w) := by
  have hn := hf.1
  have hm := hg.1
  have HI := Lib.hid (fun w1 (g : Grows w w1) => specLayer_any A c es w1 hc0 hf (hA.keep g))
  have HJ := Lib.hid (fun w1 (g : Grows w w1) => specLayer_any B d bs w1 hd0 hg (hB.keep g))
  have HF := Lib.hid (fun s k w1 (g : Grows w w1) => entryAt_any B d bs s k w1 hm (hB.keep g))
  have HA := Lib.hid hA
  have HBB := Lib.hid hB
  by_cases hv : vlayer es = true
  · by_cases hu : vlayer bs = true
    · have HT : Hid (comE es bs = es.filter (inE bs)) := comE_yes hv hu
      have h20 := vlayer_20 hv
      rw [hv] at HI
      rw [hu] at HJ
      clear hA hf hv hu hB hg hc0 hd0
      obtain ⟨n, hnn⟩ : ∃ n, es.length = n := ⟨_, rfl⟩
      rw [hnn] at hn HI h20 ⊢
      have HN := Lib.hid hnn
      obtain ⟨m, hmm⟩ : ∃ m, bs.length = m := ⟨_, rfl⟩
      rw [hmm] at hm HJ HF ⊢
      have HM := Lib.hid hmm
      clear hnn hmm
      go_enter Tryd.func16, Tryd.ntmps16
      go_wp2_with fail
      refine (HI.out _ ((((Grows.refl _).alloc _).alloc _).alloc _)).mono ?_
      rintro e w0 ⟨rfl, g0⟩
      have hb9 : Box w0 (w.heap.size + 1) (.slice B m d) 25 := by
        have h := (Box.new (w.alloc (lbox A n c)) (.slice B m d) 25).keep (((Grows.refl _).alloc _).trans g0)
        simp only [World.size_alloc] at h
        exact h
      have c9 := hb9.cell
      clear hb9
      go_wp2_with fail
      refine (HJ.out _ (((((Grows.refl _).alloc _).alloc _).alloc _).trans g0)).mono ?_
      rintro e w1 ⟨rfl, g1⟩
      have HG0 : Hid (Grows (((w.alloc (lbox A n c)).alloc (lbox B m d)).alloc (.cells #[.slice none 0 0] 25)) w0) := g0
      have HG1 : Hid (Grows w w1) := ((((Grows.refl _).alloc _).alloc _).alloc _).trans (g0.trans g1)
      have hba : Box w1 w.heap.size (.slice A n c) 25 := ((Box.new w (.slice A n c) 25).keep ((((Grows.refl _).alloc _).alloc _).trans g0)).keep g1
      have hbb : Box w1 (w.heap.size + 1) (.slice B m d) 25 := by
        have h := ((Box.new (w.alloc (lbox A n c)) (.slice B m d) 25).keep (((Grows.refl _).alloc _).trans g0)).keep g1
        simp only [World.size_alloc] at h
        exact h
      have hbr : Box w1 (w.heap.size + 1 + 1) (.slice none 0 0) 25 := by
        have h := ((Box.new ((w.alloc (lbox A n c)).alloc (lbox B m d)) (.slice none 0 0) 25).keep g0).keep g1
        simp only [World.size_alloc] at h
        exact h
      have HBA := Lib.hid hba
      have HBB2 := Lib.hid hbb
      have HBR := Lib.hid hbr
      have hs1 : w.heap.size + 1 + 1 < w1.heap.size := hbr.lt
      have HO2 : Hid (OwnE ((w1.alloc (.cells #[] 66)).alloc (.cells #[.slice (some ⟨w1.heap.size, 0, none⟩) 0 0] 25)) w1.heap.size (.slice (some ⟨w1.heap.size, 0, none⟩) 0 0) []) := (OwnE.empty w1 _ (Nat.le_refl _)).keep ((Grows.refl _).alloc _)
      have HX2 : Hid (Box ((w1.alloc (.cells #[] 66)).alloc (.cells #[.slice (some ⟨w1.heap.size, 0, none⟩) 0 0] 25)) (w1.heap.size + 1) (.slice (some ⟨w1.heap.size, 0, none⟩) 0 0) 25) := by
        have h := Box.new (w1.alloc (.cells #[] 66)) (.slice (some ⟨w1.heap.size, 0, none⟩) 0 0) 25
        simp only [World.size_alloc] at h
        exact h
      clear g0 g1 hba hbb hbr
      go_wp2_with fail
      go_loopw [6] (fun i wr => ∃ (k : Nat) (K : List Ent) (v : Value), k ≤ n ∧ i = .int .i64 k ∧ Hid (K = (es.take k).filter (inE bs)) ∧ K.length ≤ k ∧ Hid (OwnE wr w1.heap.size v K) ∧ Hid (Box wr (w1.heap.size + 1) v 25) ∧ Hid (v.ownBlock ≠ some (w1.heap.size + 1)) ∧ Hid (Grows w1 wr)) (fun i _ => n - (intOf i).toNat)
      case atStart => exact ⟨0, [], _, Nat.zero_le _, rfl, by unfold Hid; rfl, Nat.zero_le _, HO2.out, HX2.out, (fun h => by have h' : some w1.heap.size = some (w1.heap.size + 1) := h; injection h' with h'; omega), ((Grows.refl _).alloc _).alloc _⟩
      case round =>
        obtain ⟨k, K, v, hk, rfl, HK, hKk, HO, HX, HNB, HG⟩ := hrel
        have hb0 := (HBA.out.keep HG.out).cell
        have hb1 := (HBB2.out.keep HG.out).cell
        have hbo := HX.out.cell
        have HGW : Hid (Grows w wr) := HG1.out.trans HG.out
        obtain ⟨A9, n9, c9, hv9⟩ := HO.out.form3
        by_cases hlt : k < n
        · obtain ⟨b, o, rfl, hb, hc⟩ := HA.out (by rw [HN.out]; omega)
          have hk2 : k < es.length := by rw [HN.out]; exact hlt
          obtain ⟨x, hx⟩ : ∃ x, es[k] = x := ⟨_, rfl⟩
          have hat := (hc k hk2).keep hb HGW.out
          have hfs := filter_step (p := inE bs) hk2
          rw [hx] at hat hfs
          obtain ⟨c0, c1, c2, c3⟩ := hat
          have HFS := Lib.hid hfs
          have HS := Lib.hid (fun w1 (g : Grows w w1) => HF.out x.s x.k w1 g)
          clear hx hc hfs hv9
          rcases entIdx_cases bs x.s x.k with h0 | ⟨q, hq, h0⟩
          · have HV : Hid (K = (es.take (k + 1)).filter (inE bs)) := by unfold Hid; rw [HFS.out, HK.out, show inE bs x = false from by unfold inE; rw [h0]; split <;> rfl]; simp
            rw [h0] at HS
            clear h0
            go_wp2_with fail
            refine wp_region_M 14 (CellsAre [(⟨w.heap.size + 1, 0, none⟩, .slice B m d), (⟨w.heap.size, 0, none⟩, .slice (some ⟨b, o, none⟩) n c), (⟨b, o + k * 4, none⟩, .string x.s), (⟨b, o + k * 4 + 1, none⟩, .string x.k)]) (by kernel_rfl) (by kernel_rfl) ⟨hb1, hb0, c0, c1, trivial⟩ (fun hB hS => ?_)
            refine wpAnyM_take (i := 0) (v := ?vga0) hB rfl (by kernel_rfl) (fun _ _ _ h => h) (by rfl) ?yga0 hS ?nga0
            case yga0 => (intro w9 hSw; obtain ⟨s1, s2, s3, s4, _⟩ := hSw; go_simp; try with_reducible rfl)
            refine wpAnyM_take (i := 1) (v := ?vga1) hB rfl (by kernel_rfl) (fun _ _ _ h => h) (by rfl) ?yga1 hS ?nga1
            case yga1 => (intro w9 hSw; obtain ⟨s1, s2, s3, s4, _⟩ := hSw; go_simp; try with_reducible rfl)
            refine wpAnyM_take (i := 2) (v := ?vga2) hB rfl (by kernel_rfl) (fun _ _ _ h => h) (by rfl) ?yga2 hS ?nga2
            case yga2 => (intro w9 hSw; obtain ⟨s1, s2, s3, s4, _⟩ := hSw; go_simp; try with_reducible rfl)
            refine wpAnyM_take (i := 3) (v := ?vga3) hB rfl (by kernel_rfl) (fun _ _ _ h => h) (by rfl) ?yga3 hS ?nga3
            case yga3 => (intro w9 hSw; obtain ⟨s1, s2, s3, s4, _⟩ := hSw; go_simp; try with_reducible rfl)
            refine wpAnyM_take (i := 4) (v := ?vga4) hB rfl (by kernel_rfl) (fun _ _ _ h => h) (by rfl) ?yga4 hS ?nga4
            case yga4 => (intro w9 hSw; obtain ⟨s1, s2, s3, s4, _⟩ := hSw; go_simp; try with_reducible rfl)
            refine wpAnyM_take (i := 5) (v := ?vga5) hB rfl (by kernel_rfl) (fun _ _ _ h => h) (by rfl) ?yga5 hS ?nga5
            case yga5 => (intro w9 hSw; obtain ⟨s1, s2, s3, s4, _⟩ := hSw; go_simp; try with_reducible rfl)
            refine wpAnyM_take (i := 6) (v := ?vga6) hB rfl (by kernel_rfl) (fun _ _ _ h => h) (by rfl) ?yga6 hS ?nga6
            case yga6 => (intro w9 hSw; obtain ⟨s1, s2, s3, s4, _⟩ := hSw; go_simp; try with_reducible rfl)
            refine wpAnyM_take (i := 7) (v := ?vga7) hB rfl (by kernel_rfl) (fun _ _ _ h => h) (by rfl) ?yga7 hS ?nga7
            case yga7 => (intro w9 hSw; obtain ⟨s1, s2, s3, s4, _⟩ := hSw; go_simp; try with_reducible rfl)
            refine wpAnyM_take (i := 8) (v := ?vga8) hB rfl (by kernel_rfl) (fun _ _ _ h => h) (by rfl) ?yga8 hS ?nga8
            case yga8 => (intro w9 hSw; obtain ⟨s1, s2, s3, s4, _⟩ := hSw; go_simp; try with_reducible rfl)
            refine wpAnyM_take (i := 9) (v := ?vga9) hB rfl (by kernel_rfl) (fun _ _ _ h => h) (by rfl) ?yga9 hS ?nga9
            case yga9 => (intro w9 hSw; obtain ⟨s1, s2, s3, s4, _⟩ := hSw; go_simp; try with_reducible rfl)
            refine wpAnyM_take (i := 10) (v := ?vga10) hB rfl (by kernel_rfl) (fun _ _ _ h => h) (by rfl) ?yga10 hS ?nga10
            case yga10 => (intro w9 hSw; obtain ⟨s1, s2, s3, s4, _⟩ := hSw; go_simp; try with_reducible rfl)
            refine wpAnyM_take (i := 11) (v := ?vga11) hB rfl (by kernel_rfl) (fun _ _ _ h => h) (by rfl) ?yga11 hS ?nga11
            case yga11 => (intro w9 hSw; obtain ⟨s1, s2, s3, s4, _⟩ := hSw; go_simp; try with_reducible rfl)
            refine wpAnyM_take (i := 12) (v := ?vga12) hB rfl (by kernel_rfl) (fun _ _ _ h => h) (by rfl) ?yga12 hS ?nga12
            case yga12 => (intro w9 hSw; obtain ⟨s1, s2, s3, s4, _⟩ := hSw; go_simp; try with_reducible rfl)
            refine wpAnyM_take (i := 13) (v := ?vga13) hB rfl (by kernel_rfl) (fun _ _ _ h => h) (by rfl) ?yga13 hS ?nga13
            case yga13 => (intro w9 hSw; obtain ⟨s1, s2, s3, s4, _⟩ := hSw; go_simp; try with_reducible rfl)
            refine wpAnyM_tail (by kernel_rfl) ?_
            clear hB hS
            go_wp2_with fail
            refine (HS.out _ HGW.out.drew).mono ?_
            rintro e w2 ⟨rfl, rfl⟩
            go_wp2_with fail
            go_quiet (fail)
            go_wp2_with fail
            go_wp2
            go_roundw
            case rel => exact ⟨k + 1, K, v, by omega, by go_num, HV, by omega, HO.out.keep (by repeat (first | exact Grows.refl _ | refine Grows.alloc ?_ _ | refine Grows.drew ?_ | refine Grows.drewN ?_ _)), HX.out.keep (by repeat (first | exact Grows.refl _ | refine Grows.alloc ?_ _ | refine Grows.drew ?_ | refine Grows.drewN ?_ _)), HNB.out, HG.out.trans (by repeat (first | exact Grows.refl _ | refine Grows.alloc ?_ _ | refine Grows.drew ?_ | refine Grows.drewN ?_ _))⟩
            case measure => simp [intOf]; omega
          · obtain ⟨b2, o2, rfl, hb2, hc2⟩ := HBB.out (by omega)
            obtain ⟨y, hy⟩ : ∃ y, bs[q] = y := ⟨_, rfl⟩
            have hat2 := (hc2 q hq).keep hb2 HGW.out
            rw [hy] at hat2
            obtain ⟨d0, d1, d2, d3⟩ := hat2
            have HIE : Hid (inE bs x = y.same x) := by
              unfold Hid inE
              rw [h0, Int.toNat_natCast, List.getElem?_eq_getElem hq, hy]
              simp
            rw [h0] at HS
            have hqn : q < m := by rw [← HM.out]; exact hq
            have hne := fun w => eqEnt y x w
            unfold Ent.agg at hne
            clear h0 hc2 hy
            by_cases hs : y.same x = true
            · have HV : Hid (K ++ [x] = (es.take (k + 1)).filter (inE bs)) := by unfold Hid; rw [HFS.out, HK.out, HIE.out, hs]; rfl
              rw [hs] at hne
              clear hs
              go_wp2_with fail
              refine wp_region_M 14 (CellsAre [(⟨w.heap.size + 1, 0, none⟩, .slice (some ⟨b2, o2, none⟩) m d), (⟨w.heap.size, 0, none⟩, .slice (some ⟨b, o, none⟩) n c), (⟨b, o + k * 4, none⟩, .string x.s), (⟨b, o + k * 4 + 1, none⟩, .string x.k)]) (by kernel_rfl) (by kernel_rfl) ⟨hb1, hb0, c0, c1, trivial⟩ (fun hB hS => ?_)
              refine wpAnyM_take (i := 0) (v := ?vgb0) hB rfl (by kernel_rfl) (fun _ _ _ h => h) (by rfl) ?ygb0 hS ?ngb0
              case ygb0 => (intro w9 hSw; obtain ⟨s1, s2, s3, s4, _⟩ := hSw; go_simp; try with_reducible rfl)
              refine wpAnyM_take (i := 1) (v := ?vgb1) hB rfl (by kernel_rfl) (fun _ _ _ h => h) (by rfl) ?ygb1 hS ?ngb1
              case ygb1 => (intro w9 hSw; obtain ⟨s1, s2, s3, s4, _⟩ := hSw; go_simp; try with_reducible rfl)
              refine wpAnyM_take (i := 2) (v := ?vgb2) hB rfl (by kernel_rfl) (fun _ _ _ h => h) (by rfl) ?ygb2 hS ?ngb2
              case ygb2 => (intro w9 hSw; obtain ⟨s1, s2, s3, s4, _⟩ := hSw; go_simp; try with_reducible rfl)
              refine wpAnyM_take (i := 3) (v := ?vgb3) hB rfl (by kernel_rfl) (fun _ _ _ h => h) (by rfl) ?ygb3 hS ?ngb3
              case ygb3 => (intro w9 hSw; obtain ⟨s1, s2, s3, s4, _⟩ := hSw; go_simp; try with_reducible rfl)
              refine wpAnyM_take (i := 4) (v := ?vgb4) hB rfl (by kernel_rfl) (fun _ _ _ h => h) (by rfl) ?ygb4 hS ?ngb4
              case ygb4 => (intro w9 hSw; obtain ⟨s1, s2, s3, s4, _⟩ := hSw; go_simp; try with_reducible rfl)
              refine wpAnyM_take (i := 5) (v := ?vgb5) hB rfl (by kernel_rfl) (fun _ _ _ h => h) (by rfl) ?ygb5 hS ?ngb5
              case ygb5 => (intro w9 hSw; obtain ⟨s1, s2, s3, s4, _⟩ := hSw; go_simp; try with_reducible rfl)
              refine wpAnyM_take (i := 6) (v := ?vgb6) hB rfl (by kernel_rfl) (fun _ _ _ h => h) (by rfl) ?ygb6 hS ?ngb6
              case ygb6 => (intro w9 hSw; obtain ⟨s1, s2, s3, s4, _⟩ := hSw; go_simp; try with_reducible rfl)
              refine wpAnyM_take (i := 7) (v := ?vgb7) hB rfl (by kernel_rfl) (fun _ _ _ h => h) (by rfl) ?ygb7 hS ?ngb7
              case ygb7 => (intro w9 hSw; obtain ⟨s1, s2, s3, s4, _⟩ := hSw; go_simp; try with_reducible rfl)
              refine wpAnyM_take (i := 8) (v := ?vgb8) hB rfl (by kernel_rfl) (fun _ _ _ h => h) (by rfl) ?ygb8 hS ?ngb8
              case ygb8 => (intro w9 hSw; obtain ⟨s1, s2, s3, s4, _⟩ := hSw; go_simp; try with_reducible rfl)
              refine wpAnyM_take (i := 9) (v := ?vgb9) hB rfl (by kernel_rfl) (fun _ _ _ h => h) (by rfl) ?ygb9 hS ?ngb9
              case ygb9 => (intro w9 hSw; obtain ⟨s1, s2, s3, s4, _⟩ := hSw; go_simp; try with_reducible rfl)
              refine wpAnyM_take (i := 10) (v := ?vgb10) hB rfl (by kernel_rfl) (fun _ _ _ h => h) (by rfl) ?ygb10 hS ?ngb10
              case ygb10 => (intro w9 hSw; obtain ⟨s1, s2, s3, s4, _⟩ := hSw; go_simp; try with_reducible rfl)
              refine wpAnyM_take (i := 11) (v := ?vgb11) hB rfl (by kernel_rfl) (fun _ _ _ h => h) (by rfl) ?ygb11 hS ?ngb11
              case ygb11 => (intro w9 hSw; obtain ⟨s1, s2, s3, s4, _⟩ := hSw; go_simp; try with_reducible rfl)
              refine wpAnyM_take (i := 12) (v := ?vgb12) hB rfl (by kernel_rfl) (fun _ _ _ h => h) (by rfl) ?ygb12 hS ?ngb12
              case ygb12 => (intro w9 hSw; obtain ⟨s1, s2, s3, s4, _⟩ := hSw; go_simp; try with_reducible rfl)
              refine wpAnyM_take (i := 13) (v := ?vgb13) hB rfl (by kernel_rfl) (fun _ _ _ h => h) (by rfl) ?ygb13 hS ?ngb13
              case ygb13 => (intro w9 hSw; obtain ⟨s1, s2, s3, s4, _⟩ := hSw; go_simp; try with_reducible rfl)
              refine wpAnyM_tail (by kernel_rfl) ?_
              clear hB hS
              go_wp2_with fail
              refine (HS.out _ HGW.out.drew).mono ?_
              rintro e w2 ⟨rfl, rfl⟩
              go_wp2_with fail
              go_quiet (fail)
              go_wp2_with fail
              refine wp_region_M 8 (CellsAre [(⟨w1.heap.size + 1, 0, none⟩, v), (⟨w.heap.size, 0, none⟩, .slice (some ⟨b, o, none⟩) n c), (⟨b, o + k * 4, none⟩, .string x.s), (⟨b, o + k * 4 + 1, none⟩, .string x.k), (⟨b, o + k * 4 + 2, none⟩, .int .i64 x.op), (⟨b, o + k * 4 + 3, none⟩, .string x.v)]) (by kernel_rfl) (by kernel_rfl) ⟨hbo, hb0, c0, c1, c2, c3, trivial⟩ (fun hB hS => ?_)
              refine wpAnyM_take (i := 0) (v := ?vb0) hB rfl (by kernel_rfl) (fun _ _ _ h => h) (by rfl) ?yb0 hS ?nb0
              case yb0 => (intro w9 hSw; obtain ⟨s1, s2, s3, s4, s5, s6, _⟩ := hSw; go_simp; try with_reducible rfl)
              refine wpAnyM_take (i := 1) (v := ?vb1) hB rfl (by kernel_rfl) (fun _ _ _ h => h) (by rfl) ?yb1 hS ?nb1
              case yb1 => (intro w9 hSw; obtain ⟨s1, s2, s3, s4, s5, s6, _⟩ := hSw; go_simp; try with_reducible rfl)
              refine wpAnyM_take (i := 2) (v := ?vb2) hB rfl (by kernel_rfl) (fun _ _ _ h => h) (by rfl) ?yb2 hS ?nb2
              case yb2 => (intro w9 hSw; obtain ⟨s1, s2, s3, s4, s5, s6, _⟩ := hSw; go_simp; try with_reducible rfl)
              refine wpAnyM_take (i := 3) (v := ?vb3) hB rfl (by kernel_rfl) (fun _ _ _ h => h) (by rfl) ?yb3 hS ?nb3
              case yb3 => (intro w9 hSw; obtain ⟨s1, s2, s3, s4, s5, s6, _⟩ := hSw; go_simp; try with_reducible rfl)
              refine wpAnyM_take (i := 4) (v := ?vb4) hB rfl (by kernel_rfl) (fun _ _ _ h => h) (by rfl) ?yb4 hS ?nb4
              case yb4 => (intro w9 hSw; obtain ⟨s1, s2, s3, s4, s5, s6, _⟩ := hSw; go_simp; try with_reducible rfl)
              refine wpAnyM_take (i := 5) (v := ?vb5) hB rfl (by kernel_rfl) (fun _ _ _ h => h) (by rfl) ?yb5 hS ?nb5
              case yb5 => (intro w9 hSw; obtain ⟨s1, s2, s3, s4, s5, s6, _⟩ := hSw; go_simp; try with_reducible rfl)
              refine wpAnyM_take (i := 6) (v := ?vb6) hB rfl (by kernel_rfl) (fun _ _ _ h => h) (by rfl) ?yb6 hS ?nb6
              case yb6 => (intro w9 hSw; obtain ⟨s1, s2, s3, s4, s5, s6, _⟩ := hSw; go_simp; try with_reducible rfl)
              refine wpAnyM_one (i := 7) rfl (by kernel_rfl) rfl ?_
              have HS9 := Lib.hid hS
              clear hS
              go_wp2_with fail
              refine ⟨CellsAre.keep (show CellsAre _ wr from HS9.out) (by repeat (first | exact Grows.refl _ | refine Grows.alloc ?_ _ | refine Grows.drew ?_ | refine Grows.drewN ?_ _)), ?_⟩
              refine wpAnyM_tail (by kernel_rfl) ?_
              clear HS9 hB hbo c0 c1 c2 c3 hb0 hb1 d0 d1 d2 d3 hne
              go_wp2_with (at_builtin; refine appEs rfl _ _ rfl w1.heap.size v K rfl (HO.out.keep (by repeat (first | exact Grows.refl _ | refine Grows.alloc ?_ _ | refine Grows.drew ?_ | refine Grows.drewN ?_ _))) ⟨wr.heap.size, 0, none⟩ 1 1 [x] rfl rfl (by omega) (one_newsE _ _ _ rfl) (by omega) (by omega) (Nat.le_trans HG.out.size (by simp)) ?_)
              intro v' w6 HO6 HGB HNE
              have G6 : Hid (wr.grownBy w6 v.ownBlock) := (gb_of2 (by repeat (first | exact Grows.refl _ | refine Grows.alloc ?_ _ | refine Grows.drew ?_ | refine Grows.drewN ?_ _)) _).trans HGB.out
              obtain ⟨A8, n8, c8, rfl⟩ := HO6.out.form3
              have HX6 := Lib.hid (HX.out.far G6.out HNB.out)
              have hx6 := HX6.out.cell
              have hf6 := HX6.out.free
              have HN6 : Hid ((Value.slice A8 n8 c8).ownBlock ≠ some (w1.heap.size + 1)) := fun e => by
                rcases HNE.out _ e with h | h
                · exact HNB.out h
                · have h1 := HX.out.lt
                  simp at h
                  omega
              have HG6 : Hid (Grows w1 w6) := HG.out.mark G6.out (fun k hk => (HO.out.lt k hk).1)
              clear HGB HNE
              go_wp2
              go_roundw
              case rel => exact ⟨k + 1, K ++ [x], _, by omega, by go_num, HV, by simp; omega, HO6.out.setFar HN6.out _, HX6.out.set_ _, HN6.out, HG6.out.setCell (by simp) _⟩
              case measure => simp [intOf]; omega
            · have hs' : y.same x = false := by simpa using hs
              have HV : Hid (K = (es.take (k + 1)).filter (inE bs)) := by unfold Hid; rw [HFS.out, HK.out, HIE.out, hs']; simp
              rw [hs'] at hne
              clear hs hs'
              go_wp2_with fail
              refine wp_region_M 14 (CellsAre [(⟨w.heap.size + 1, 0, none⟩, .slice (some ⟨b2, o2, none⟩) m d), (⟨w.heap.size, 0, none⟩, .slice (some ⟨b, o, none⟩) n c), (⟨b, o + k * 4, none⟩, .string x.s), (⟨b, o + k * 4 + 1, none⟩, .string x.k)]) (by kernel_rfl) (by kernel_rfl) ⟨hb1, hb0, c0, c1, trivial⟩ (fun hB hS => ?_)
              refine wpAnyM_take (i := 0) (v := ?vgc0) hB rfl (by kernel_rfl) (fun _ _ _ h => h) (by rfl) ?ygc0 hS ?ngc0
              case ygc0 => (intro w9 hSw; obtain ⟨s1, s2, s3, s4, _⟩ := hSw; go_simp; try with_reducible rfl)
              refine wpAnyM_take (i := 1) (v := ?vgc1) hB rfl (by kernel_rfl) (fun _ _ _ h => h) (by rfl) ?ygc1 hS ?ngc1
              case ygc1 => (intro w9 hSw; obtain ⟨s1, s2, s3, s4, _⟩ := hSw; go_simp; try with_reducible rfl)
              refine wpAnyM_take (i := 2) (v := ?vgc2) hB rfl (by kernel_rfl) (fun _ _ _ h => h) (by rfl) ?ygc2 hS ?ngc2
              case ygc2 => (intro w9 hSw; obtain ⟨s1, s2, s3, s4, _⟩ := hSw; go_simp; try with_reducible rfl)
              refine wpAnyM_take (i := 3) (v := ?vgc3) hB rfl (by kernel_rfl) (fun _ _ _ h => h) (by rfl) ?ygc3 hS ?ngc3
              case ygc3 => (intro w9 hSw; obtain ⟨s1, s2, s3, s4, _⟩ := hSw; go_simp; try with_reducible rfl)
              refine wpAnyM_take (i := 4) (v := ?vgc4) hB rfl (by kernel_rfl) (fun _ _ _ h => h) (by rfl) ?ygc4 hS ?ngc4
              case ygc4 => (intro w9 hSw; obtain ⟨s1, s2, s3, s4, _⟩ := hSw; go_simp; try with_reducible rfl)
              refine wpAnyM_take (i := 5) (v := ?vgc5) hB rfl (by kernel_rfl) (fun _ _ _ h => h) (by rfl) ?ygc5 hS ?ngc5
              case ygc5 => (intro w9 hSw; obtain ⟨s1, s2, s3, s4, _⟩ := hSw; go_simp; try with_reducible rfl)
              refine wpAnyM_take (i := 6) (v := ?vgc6) hB rfl (by kernel_rfl) (fun _ _ _ h => h) (by rfl) ?ygc6 hS ?ngc6
              case ygc6 => (intro w9 hSw; obtain ⟨s1, s2, s3, s4, _⟩ := hSw; go_simp; try with_reducible rfl)
              refine wpAnyM_take (i := 7) (v := ?vgc7) hB rfl (by kernel_rfl) (fun _ _ _ h => h) (by rfl) ?ygc7 hS ?ngc7
              case ygc7 => (intro w9 hSw; obtain ⟨s1, s2, s3, s4, _⟩ := hSw; go_simp; try with_reducible rfl)
              refine wpAnyM_take (i := 8) (v := ?vgc8) hB rfl (by kernel_rfl) (fun _ _ _ h => h) (by rfl) ?ygc8 hS ?ngc8
              case ygc8 => (intro w9 hSw; obtain ⟨s1, s2, s3, s4, _⟩ := hSw; go_simp; try with_reducible rfl)
              refine wpAnyM_take (i := 9) (v := ?vgc9) hB rfl (by kernel_rfl) (fun _ _ _ h => h) (by rfl) ?ygc9 hS ?ngc9
              case ygc9 => (intro w9 hSw; obtain ⟨s1, s2, s3, s4, _⟩ := hSw; go_simp; try with_reducible rfl)
              refine wpAnyM_take (i := 10) (v := ?vgc10) hB rfl (by kernel_rfl) (fun _ _ _ h => h) (by rfl) ?ygc10 hS ?ngc10
              case ygc10 => (intro w9 hSw; obtain ⟨s1, s2, s3, s4, _⟩ := hSw; go_simp; try with_reducible rfl)
              refine wpAnyM_take (i := 11) (v := ?vgc11) hB rfl (by kernel_rfl) (fun _ _ _ h => h) (by rfl) ?ygc11 hS ?ngc11
              case ygc11 => (intro w9 hSw; obtain ⟨s1, s2, s3, s4, _⟩ := hSw; go_simp; try with_reducible rfl)
              refine wpAnyM_take (i := 12) (v := ?vgc12) hB rfl (by kernel_rfl) (fun _ _ _ h => h) (by rfl) ?ygc12 hS ?ngc12
              case ygc12 => (intro w9 hSw; obtain ⟨s1, s2, s3, s4, _⟩ := hSw; go_simp; try with_reducible rfl)
              refine wpAnyM_take (i := 13) (v := ?vgc13) hB rfl (by kernel_rfl) (fun _ _ _ h => h) (by rfl) ?ygc13 hS ?ngc13
              case ygc13 => (intro w9 hSw; obtain ⟨s1, s2, s3, s4, _⟩ := hSw; go_simp; try with_reducible rfl)
              refine wpAnyM_tail (by kernel_rfl) ?_
              clear hB hS
              go_wp2_with fail
              refine (HS.out _ HGW.out.drew).mono ?_
              rintro e w2 ⟨rfl, rfl⟩
              go_wp2_with fail
              go_quiet (fail)
              go_wp2_with fail
              go_wp2
              go_roundw
              case rel => exact ⟨k + 1, K, v, by omega, by go_num, HV, by omega, HO.out.keep (by repeat (first | exact Grows.refl _ | refine Grows.alloc ?_ _ | refine Grows.drew ?_ | refine Grows.drewN ?_ _)), HX.out.keep (by repeat (first | exact Grows.refl _ | refine Grows.alloc ?_ _ | refine Grows.drew ?_ | refine Grows.drewN ?_ _)), HNB.out, HG.out.trans (by repeat (first | exact Grows.refl _ | refine Grows.alloc ?_ _ | refine Grows.drew ?_ | refine Grows.drewN ?_ _))⟩
              case measure => simp [intOf]; omega
        · obtain rfl : k = n := by omega
          have h1 := (HBR.out.keep HG.out).cell
          have h2 := (HBR.out.keep HG.out).free
          have HR : Hid (K = comE es bs) := by unfold Hid; rw [HT.out, HK.out, ← HN.out, List.take_length]
          have HN9 : Hid (v.ownBlock ≠ some (w.heap.size + 1 + 1)) := fun e => by have := (HO.out.lt _ e).1; omega
          subst hv9
          go_wp2
          refine bodyPost_ret (v := .agg #[.slice A9 n9 c9]) (by simp [results, Tryd.results16, go_sem, h1]) rfl ?_
          rw [← HR.out]
          exact ⟨_, rfl, (HO.out.setFar HN9.out _).less HG1.out.size, HGW.out.setCell (by simp; omega) _⟩
    · have hu' : vlayer bs = false := by simpa using hu
      have HT : Hid (comE es bs = []) := comE_no2 hu'
      rw [hv] at HI
      rw [hu'] at HJ
      clear hA hf hv hu hu' hB hg hc0 hd0 hn hm
      go_enter Tryd.func16, Tryd.ntmps16
      go_wp2_with fail
      refine (HI.out _ ((((Grows.refl _).alloc _).alloc _).alloc _)).mono ?_
      rintro e w0 ⟨rfl, g0⟩
      have hb9 : Box w0 (w.heap.size + 1) (.slice B bs.length d) 25 := by
        have h := (Box.new (w.alloc (lbox A es.length c)) (.slice B bs.length d) 25).keep (((Grows.refl _).alloc _).trans g0)
        simp only [World.size_alloc] at h
        exact h
      have c9 := hb9.cell
      clear hb9
      go_wp2_with fail
      refine (HJ.out _ (((((Grows.refl _).alloc _).alloc _).alloc _).trans g0)).mono ?_
      rintro e w1 ⟨rfl, g1⟩
      have HG1 : Hid (Grows w w1) := ((((Grows.refl _).alloc _).alloc _).alloc _).trans (g0.trans g1)
      have hbr : Box w1 (w.heap.size + 1 + 1) (.slice none 0 0) 25 := by
        have h := ((Box.new ((w.alloc (lbox A es.length c)).alloc (lbox B bs.length d)) (.slice none 0 0) 25).keep g0).keep g1
        simp only [World.size_alloc] at h
        exact h
      have h1 := hbr.cell
      have h2 := hbr.free
      clear g0 g1 hbr
      go_wp2
      refine bodyPost_ret (v := .agg #[.slice none 0 0]) (by simp [results, Tryd.results16, go_sem, h1]) rfl ?_
      rw [HT.out]
      exact ⟨_, rfl, OwnE.nil _ _, HG1.out.setCell (by simp; omega) _⟩
  · have hv' : vlayer es = false := by simpa using hv
    have HT : Hid (comE es bs = []) := comE_no1 hv'
    rw [hv'] at HI
    clear hA hf hv hv' hB hg hc0 hd0 hn hm
    go_enter Tryd.func16, Tryd.ntmps16
    go_wp2_with fail
    refine (HI.out _ ((((Grows.refl _).alloc _).alloc _).alloc _)).mono ?_
    rintro e w1 ⟨rfl, g1⟩
    have HG1 : Hid (Grows w w1) := ((((Grows.refl _).alloc _).alloc _).alloc _).trans g1
    have hbr : Box w1 (w.heap.size + 1 + 1) (.slice none 0 0) 25 := by
      have h := (Box.new ((w.alloc (lbox A es.length c)).alloc (lbox B bs.length d)) (.slice none 0 0) 25).keep g1
      simp only [World.size_alloc] at h
      exact h
    have h1 := hbr.cell
    have h2 := hbr.free
    clear g1 hbr
    go_wp2
    refine bodyPost_ret (v := .agg #[.slice none 0 0]) (by simp [results, Tryd.results16, go_sem, h1]) rfl ?_
    rw [HT.out]
    exact ⟨_, rfl, OwnE.nil _ _, HG1.out.setCell (by simp; omega) _⟩
end Go.Proofs.YtcecjdjfbgmogaaDoor
