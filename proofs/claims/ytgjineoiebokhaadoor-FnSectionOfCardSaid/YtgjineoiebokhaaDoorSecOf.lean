/-
  SectionOf of the specification. Conditions: parts of at most 1048576 bytes.
-/
import Derived.Test.YtgjineoiebokhaaDoorTidyQ
import Derived.Test.YtgjineoiebokhaaDoorLawVL
namespace Go.Proofs.YtgjineoiebokhaaDoor
open Go.RowKit

set_option maxRecDepth 100000 in
set_option maxHeartbeats 4000000 in
theorem specSecOf_any (A : Option Addr) (c : Nat) (es : List Ent) (s : ByteArray) (w : World) (hc0 : es.length ≤ c) (hf : EFit es) (hA : EntsAt w A es) :
    Calls Tryd.prog 22 #[.agg #[.slice A es.length c], .string s] w (ResE (keepE es (ofSec s)) w) := by
  have hn := hf.1
  have HI := Lib.hid (fun w1 (g : Grows w w1) => specLayer_any A c es w1 hc0 hf (hA.keep g))
  have HA := Lib.hid hA
  by_cases hv : vlayer es = true
  · have HT : Hid (keepE es (ofSec s) = es.filter (ofSec s)) := keepE_yes hv
    rw [hv] at HI
    have h20 := vlayer_20 hv
    clear hA hf hv hc0
    obtain ⟨n, hnn⟩ : ∃ n, es.length = n := ⟨_, rfl⟩
    rw [hnn] at hn HI h20
    rw [hnn]
    have HN := Lib.hid hnn
    clear hnn
    go_enter Tryd.func22, Tryd.ntmps22
    go_wp2_with fail
    refine (HI.out _ (((Grows.refl _).alloc _).alloc _)).mono ?_
    rintro e w1 ⟨rfl, g1⟩
    have HG0 : Hid (Grows ((w.alloc (lbox A n c)).alloc (.cells #[.slice none 0 0] 25)) w1) := g1
    have HG1 : Hid (Grows w w1) := (((Grows.refl _).alloc _).alloc _).trans g1
    have hs1 : w.heap.size + 1 < w1.heap.size := Nat.lt_of_lt_of_le (by simp) g1.size
    have HO2 : Hid (OwnE ((w1.alloc (.cells #[] 31)).alloc (.cells #[.slice (some ⟨w1.heap.size, 0, none⟩) 0 0] 25)) w1.heap.size (.slice (some ⟨w1.heap.size, 0, none⟩) 0 0) []) := (OwnE.empty w1 _ (Nat.le_refl _)).keep ((Grows.refl _).alloc _)
    have HX2 : Hid (Box ((w1.alloc (.cells #[] 31)).alloc (.cells #[.slice (some ⟨w1.heap.size, 0, none⟩) 0 0] 25)) (w1.heap.size + 1) (.slice (some ⟨w1.heap.size, 0, none⟩) 0 0) 25) := by
      have h := Box.new (w1.alloc (.cells #[] 31)) (.slice (some ⟨w1.heap.size, 0, none⟩) 0 0) 25
      simp only [World.size_alloc] at h
      exact h
    clear g1
    go_wp2_with fail
    go_loopw [6] (fun i wr => ∃ (k : Nat) (K : List Ent) (v : Value), k ≤ n ∧ i = .int .i64 k ∧ Hid (K = (es.take k).filter (ofSec s)) ∧ K.length ≤ k ∧ Hid (OwnE wr w1.heap.size v K) ∧ Hid (Box wr (w1.heap.size + 1) v 25) ∧ Hid (v.ownBlock ≠ some (w1.heap.size + 1)) ∧ Hid (Grows w1 wr)) (fun i _ => n - (intOf i).toNat)
    case atStart => exact ⟨0, [], _, Nat.zero_le _, rfl, by unfold Hid; rfl, Nat.zero_le _, HO2.out, HX2.out, (fun h => by have h' : some w1.heap.size = some (w1.heap.size + 1) := h; injection h' with h'; omega), ((Grows.refl _).alloc _).alloc _⟩
    case round =>
      obtain ⟨k, K, v, hk, rfl, HK, hKk, HO, HX, HNB, HG⟩ := hrel
      have hb0 : wr.cell? ⟨w.heap.size, 0, none⟩ = some (.slice A n c) := ((HG0.out.trans HG.out).cell (p := ⟨w.heap.size, 0, none⟩) (by simp; omega)).trans (by simp [lbox])
      have hbo := HX.out.cell
      obtain ⟨A9, n9, c9, hv9⟩ := HO.out.form3
      by_cases hlt : k < n
      · obtain ⟨b, o, rfl, hb, hc⟩ := HA.out (by rw [HN.out]; omega)
        have hk2 : k < es.length := by rw [HN.out]; exact hlt
        obtain ⟨x, hx⟩ : ∃ x, es[k] = x := ⟨_, rfl⟩
        have hat := (hc k hk2).keep hb (HG1.out.trans HG.out)
        have hfs := filter_step (p := ofSec s) hk2
        rw [hx] at hat hfs
        obtain ⟨c0, c1, c2, c3⟩ := hat
        have HF := Lib.hid hfs
        clear hx hc hfs
        by_cases hpx : (x.s.toList == s.toList) = true
        · have HS : Hid (K ++ [x] = (es.take (k + 1)).filter (ofSec s)) := by unfold Hid; rw [HF.out, HK.out]; unfold ofSec; rw [hpx]; rfl
          clear hv9
          go_wp2_with fail
          refine wp_region_M 8 (CellsAre [(⟨w1.heap.size + 1, 0, none⟩, v), (⟨w.heap.size, 0, none⟩, .slice (some ⟨b, o, none⟩) n c), (⟨b, o + k * 4, none⟩, .string x.s), (⟨b, o + k * 4 + 1, none⟩, .string x.k), (⟨b, o + k * 4 + 2, none⟩, .int .i64 x.op), (⟨b, o + k * 4 + 3, none⟩, .string x.v)]) (by kernel_rfl) (by kernel_rfl) ⟨hbo, hb0, c0, c1, c2, c3, trivial⟩ (fun hB hS => ?_)
          refine wpAnyM_take (i := 0) (v := ?vb0) hB rfl (by kernel_rfl) (fun _ _ _ h => h) (by rfl) ?yb0 hS ?nb0
          case yb0 => (intro w9 hSw; obtain ⟨s1, s2, s3, s4, s5, s6, _⟩ := hSw; go_simp; try with_reducible rfl)
          refine wpAnyM_take (i := 1) (v := ?vb1) hB rfl (by kernel_rfl) (fun _ _ _ h => h) (by rfl) ?yb1 hS ?nb1
          case yb1 => (intro w9 hSw; obtain ⟨s1, s2, s3, s4, s5, s6, _⟩ := hSw; go_simp; try with_reducible rfl)
          refine wpAnyM_take (i := 2) (v := ?vb2) hB rfl (by kernel_rfl) (fun _ _ _ h => h) (by rfl) ?yb2 hS ?nb2
          case yb2 => (intro w9 hSw; obtain ⟨s1, s2, s3, s4, s5, s6, _⟩ := hSw; go_simp; try with_reducible rfl)
          refine wpAnyM_take (i := 3) (v := ?vb3) hB rfl (by kernel_rfl) (fun _ _ _ h => h) (by rfl) ?yb3 hS ?nb3
          case yb3 => (intro w9 hSw; obtain ⟨s1, s2, s3, s4, s5, s6, _⟩ := hSw; go_simp; try with_reducible rfl)
          refine wpAnyM_take (i := 4) (v := ?vb4) hB rfl (by kernel_rfl) (fun _ _ _ h => h) (by rfl) ?yb4 hS ?nb4
          case yb4 => (intro w9 hSw; obtain ⟨s1, s2, s3, s4, s5, s6, _⟩ := hSw; go_simp; try with_reducible rfl)
          refine wpAnyM_take (i := 5) (v := ?vb5) hB rfl (by kernel_rfl) (fun _ _ _ h => h) (by rfl) ?yb5 hS ?nb5
          case yb5 => (intro w9 hSw; obtain ⟨s1, s2, s3, s4, s5, s6, _⟩ := hSw; go_simp; try with_reducible rfl)
          refine wpAnyM_take (i := 6) (v := ?vb6) hB rfl (by kernel_rfl) (fun _ _ _ h => h) (by rfl) ?yb6 hS ?nb6
          case yb6 => (intro w9 hSw; obtain ⟨s1, s2, s3, s4, s5, s6, _⟩ := hSw; go_simp; try with_reducible rfl)
          refine wpAnyM_one (i := 7) rfl (by kernel_rfl) rfl ?_
          have HS9 := Lib.hid hS
          clear hS
          go_wp2_with fail
          refine ⟨CellsAre.keep HS9.out ((Grows.refl _).alloc _), ?_⟩
          refine wpAnyM_tail (by kernel_rfl) ?_
          clear HS9 hB hbo c0 c1 c2 c3 hb0 hpx
          have HO5 : Hid (OwnE wr.drew w1.heap.size v K) := HO.out.keep ((Grows.refl _).drew)
          go_wp2_with (at_builtin; refine appEs rfl _ _ rfl w1.heap.size v K rfl (HO5.out.keep ((Grows.refl _).alloc _)) ⟨wr.heap.size, 0, none⟩ 1 1 [x] rfl rfl (by omega) (one_newsE _ _ _ rfl) (by omega) (by omega) (Nat.le_trans HG.out.size (by simp)) ?_)
          intro v' w6 HO6 HGB HNE
          have G6 : Hid (wr.grownBy w6 v.ownBlock) := (gb_of2 (((Grows.refl wr).drew).alloc _) _).trans HGB.out
          obtain ⟨A8, n8, c8, rfl⟩ := HO6.out.form3
          have HX6 := Lib.hid (HX.out.far G6.out HNB.out)
          have hx6 := HX6.out.cell
          have hf6 := HX6.out.free
          have HN6 : Hid ((Value.slice A8 n8 c8).ownBlock ≠ some (w1.heap.size + 1)) := fun e => by
            rcases HNE.out _ e with h | h
            · exact HNB.out h
            · have h1 := HX.out.lt
              simp at h
              omega
          have HG6 : Hid (Grows w1 w6) := HG.out.mark G6.out (fun k hk => (HO.out.lt k hk).1)
          clear HGB HNE
          go_wp2
          go_roundw
          case rel => exact ⟨k + 1, K ++ [x], _, by omega, by go_num, HS, by simp; omega, HO6.out.setFar HN6.out _, HX6.out.set_ _, HN6.out, HG6.out.setCell (by simp) _⟩
          case measure => simp [intOf]; omega
        · have hpx' : (x.s.toList == s.toList) = false := by simpa using hpx
          have HS : Hid (K = (es.take (k + 1)).filter (ofSec s)) := by unfold Hid; rw [HF.out, HK.out]; unfold ofSec; rw [hpx']; simp
          clear hpx hv9 hbo
          go_wp2
          go_roundw
          case rel => exact ⟨k + 1, K, v, by omega, by go_num, HS, by omega, HO.out, HX.out, HNB.out, HG.out⟩
          case measure => simp [intOf]; omega
      · obtain rfl : k = n := by omega
        have h1 : wr.cell? ⟨w.heap.size + 1, 0, none⟩ = some (.slice none 0 0) := ((HG0.out.trans HG.out).cell (p := ⟨w.heap.size + 1, 0, none⟩) (by simp)).trans (by simp)
        have h2 : wr.frozen? ⟨w.heap.size + 1, 0, none⟩ = false := ((HG0.out.trans HG.out).frozen (p := ⟨w.heap.size + 1, 0, none⟩) (by simp)).trans (by simp)
        have HR : Hid (K = keepE es (ofSec s)) := by unfold Hid; rw [HT.out, HK.out, ← HN.out, List.take_length]
        have HN9 : Hid (v.ownBlock ≠ some (w.heap.size + 1)) := fun e => by have := (HO.out.lt _ e).1; omega
        subst hv9
        go_wp2
        refine bodyPost_ret (v := .agg #[.slice A9 n9 c9]) (by simp [results, Tryd.results22, go_sem, h1]) rfl ?_
        rw [← HR.out]
        exact ⟨_, rfl, (HO.out.setFar HN9.out _).less HG1.out.size, (HG1.out.trans HG.out).setCell (by simp) _⟩
  · have hv' : vlayer es = false := by simpa using hv
    have HV : Hid (keepE es (ofSec s) = []) := keepE_no hv'
    rw [hv'] at HI
    clear hv hv' hA hf hc0
    go_enter Tryd.func22, Tryd.ntmps22
    go_wp2_with fail
    refine (HI.out _ (((Grows.refl _).alloc _).alloc _)).mono ?_
    rintro e w1 ⟨rfl, g1⟩
    have HG1 : Hid (Grows w w1) := (((Grows.refl _).alloc _).alloc _).trans g1
    have h1 : w1.cell? ⟨w.heap.size + 1, 0, none⟩ = some (.slice none 0 0) := (g1.cell (p := ⟨w.heap.size + 1, 0, none⟩) (by simp)).trans (by simp)
    have h2 : w1.frozen? ⟨w.heap.size + 1, 0, none⟩ = false := (g1.frozen (p := ⟨w.heap.size + 1, 0, none⟩) (by simp)).trans (by simp)
    clear g1
    go_wp2
    refine bodyPost_ret (v := .agg #[.slice none 0 0]) (by simp [results, Tryd.results22, go_sem, h1]) rfl ?_
    rw [HV.out]
    exact ⟨_, rfl, OwnE.nil _ _, HG1.out.setCell (by simp) _⟩
end Go.Proofs.YtgjineoiebokhaaDoor
