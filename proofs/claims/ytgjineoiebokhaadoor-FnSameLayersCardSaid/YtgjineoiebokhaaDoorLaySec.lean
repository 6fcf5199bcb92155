/-
  The sections of a layer: LayerSections of both sides. Conditions: parts of at most 1048576 bytes.
-/
import Derived.Test.YtgjineoiebokhaaDoorOnceG
import Derived.Test.YtgjineoiebokhaaDoorGrow
import Derived.Test.YtgjineoiebokhaaDoorLawVL
import Derived.Test.YtgjineoiebokhaaDoorTidyQ
namespace Go.Proofs.YtgjineoiebokhaaDoor
open Go.RowKit

/-- the sections of entries, each once -/
def secF (es : List Ent) : List ByteArray := es.foldl (fun a e => addT a e.s) []
def secL (es : List Ent) : List ByteArray := if vlayer es = true then secF es else []
theorem secF_step {es : List Ent} {k : Nat} (hk : k < es.length) : secF (es.take (k + 1)) = addT (secF (es.take k)) es[k].s := by
  unfold secF
  rw [List.take_succ_eq_append_getElem hk, List.foldl_append]
  rfl
theorem secF_le (es : List Ent) : (secF es).length ≤ es.length := by
  refine snocInd (P := fun es => (secF es).length ≤ es.length) (Nat.le_refl _) ?_ es
  intro l a ih
  have h : secF (l ++ [a]) = addT (secF l) a.s := by unfold secF; rw [List.foldl_append]; rfl
  have h2 := addT_le (secF l) a.s
  rw [h]
  simp
  omega
theorem secL_le (es : List Ent) : (secL es).length ≤ es.length := by
  unfold secL
  split
  · exact secF_le es
  · simp
theorem Grows.trans2 {a b c : World} (h : Grows a b) (g : Below a.heap.size b c) : Grows a c := Below.trans h g

set_option maxRecDepth 100000 in
set_option maxHeartbeats 4000000 in
theorem specLSec_any (A : Option Addr) (c : Nat) (es : List Ent) (w : World) (hc0 : es.length ≤ c) (hf : EFit es) (hA : EntsAt w A es) :
    Calls Tryd.prog 17 #[.agg #[.slice A es.length c]] w (StrsRet (secL es) w) := by
  have hn := hf.1
  have HI := Lib.hid (fun w1 (g : Grows w w1) => specLayer_any A c es w1 hc0 hf (hA.keep g))
  have HA := Lib.hid hA
  by_cases hv : vlayer es = true
  · have HT : Hid (secL es = secF es) := by unfold Hid secL; rw [if_pos hv]
    rw [hv] at HI
    have h20 := vlayer_20 hv
    clear hA hf hv hc0
    obtain ⟨n, hnn⟩ : ∃ n, es.length = n := ⟨_, rfl⟩
    rw [hnn] at hn HI h20
    rw [hnn]
    have HN := Lib.hid hnn
    clear hnn
    go_enter Tryd.func17, Tryd.ntmps17
    go_wp2_with fail
    refine (HI.out _ ((Grows.refl _).alloc _)).mono ?_
    rintro e w1 ⟨rfl, g1⟩
    have HG0 : Hid (Grows (w.alloc (lbox A n c)) w1) := g1
    have HG1 : Hid (Grows w w1) := ((Grows.refl _).alloc _).trans g1
    have hb1 := lbox_cell HG0.out
    clear g1
    go_wp2_with fail
    go_loopw [3, 4] (fun v i wr => ∃ (k : Nat) (K : List ByteArray), k ≤ n ∧ i = .int .i64 k ∧ Hid (K = secF (es.take k)) ∧ K.length ≤ k ∧ Hid (OwnS wr w1.heap.size v K) ∧ Hid (Grows w1 wr)) (fun _ i _ => n - (intOf i).toNat)
    case atStart => exact ⟨0, [], Nat.zero_le _, rfl, by unfold Hid; rfl, Nat.zero_le _, (OwnS.empty w1 _ (Nat.le_refl _)), (Grows.refl _).alloc _⟩
    case round =>
      obtain ⟨k, K, hk, rfl, HK, hKk, HO, HG⟩ := hrel
      have hb0 := lbox_cell (HG0.out.trans HG.out)
      have hwr : w.heap.size < wr.heap.size := by have := (HG0.out.trans HG.out).size; simp at this; omega
      by_cases hlt : k < n
      · obtain ⟨b, o, rfl, hb, hc⟩ := HA.out (by rw [HN.out]; omega)
        have hk2 : k < es.length := by rw [HN.out]; exact hlt
        obtain ⟨x, hx⟩ : ∃ x, es[k] = x := ⟨_, rfl⟩
        have hat := (hc k hk2).keep hb (HG1.out.trans HG.out)
        have hfs := secF_step hk2
        rw [hx] at hat hfs
        obtain ⟨c0, c1, c2, c3⟩ := hat
        have HS : Hid (addT K x.s = secF (es.take (k + 1))) := by unfold Hid; rw [hfs, HK.out]
        have hal := addT_le K x.s
        have HC := Lib.hid (fun v w2 (hb2 : w1.heap.size ≤ w2.heap.size) (h : OwnS w2 w1.heap.size v K) => addText_any v w1.heap.size K x.s w2 (by omega) hb2 h)
        unfold AddRet at HC
        clear hx hc hfs
        go_wp2_with fail
        refine (HC.out _ _ (Nat.le_trans HG.out.size (by simp)) (HO.out.keep (by repeat (first | exact Grows.refl _ | refine Grows.alloc ?_ _ | refine Grows.drew ?_ | refine Grows.drewN ?_ _)))).mono ?_
        rintro e w2 ⟨v', rfl, hv, g2⟩
        have HG2 : Hid (Grows w1 w2) := by
          refine Grows.trans2 (HG.out.trans ?_) g2
          repeat (first | exact Grows.refl _ | refine Grows.alloc ?_ _ | refine Grows.drew ?_ | refine Grows.drewN ?_ _)
        have HO2 := Lib.hid hv
        obtain ⟨A8, c8, rfl, _⟩ := hv.form
        clear g2 hv
        go_wp2
        go_roundw
        case rel => exact ⟨k + 1, addT K x.s, by omega, by go_num, HS, by omega, HO2, HG2⟩
        case measure => simp [intOf]; omega
      · obtain rfl : k = n := by omega
        have HR : Hid (K = secL es) := by unfold Hid; rw [HT.out, HK.out, ← HN.out, List.take_length]
        go_wp2
        go_ret
        rw [← HR.out]
        exact ⟨_, rfl, HO.out.less HG1.out.size, HG1.out.trans HG.out⟩
  · have hv' : vlayer es = false := by simpa using hv
    have HV : Hid (secL es = []) := by unfold Hid secL; rw [hv']; simp
    rw [hv'] at HI
    clear hv hv' hA hf hc0
    go_enter Tryd.func17, Tryd.ntmps17
    go_wp2_with fail
    refine (HI.out _ ((Grows.refl _).alloc _)).mono ?_
    rintro e w1 ⟨rfl, g1⟩
    go_wp2
    go_ret
    rw [HV.out]
    exact ⟨_, rfl, OwnS.nil _ _, ((Grows.refl _).alloc _).trans g1⟩

set_option maxRecDepth 100000 in
set_option maxHeartbeats 4000000 in
theorem implLSec_any (A : Option Addr) (c : Nat) (es : List Ent) (w : World) (hf : EFit es) (hA : EntsAt w A es) :
    Calls Tryd.prog 15 #[.agg #[.slice A es.length c]] w (StrsRet (secL es) w) := by
  have hn := hf.1
  have HI := Lib.hid (fun w1 (g : Grows w w1) => implLayer_any A c es w1 hf (hA.keep g))
  have HA := Lib.hid hA
  by_cases hv : vlayer es = true
  · have HT : Hid (secL es = secF es) := by unfold Hid secL; rw [if_pos hv]
    rw [hv] at HI
    have h20 := vlayer_20 hv
    clear hA hf hv 
    obtain ⟨n, hnn⟩ : ∃ n, es.length = n := ⟨_, rfl⟩
    rw [hnn] at hn HI h20
    rw [hnn]
    have HN := Lib.hid hnn
    clear hnn
    go_enter Tryd.func15, Tryd.ntmps15
    go_wp2_with fail
    refine (HI.out _ ((Grows.refl _).alloc _)).mono ?_
    rintro e w1 ⟨rfl, g1⟩
    have HG0 : Hid (Grows (w.alloc (lbox A n c)) w1) := g1
    have HG1 : Hid (Grows w w1) := ((Grows.refl _).alloc _).trans g1
    have hb1 := lbox_cell HG0.out
    clear g1
    go_wp2_with fail
    go_loopw [3, 12] (fun v i wr => ∃ (k : Nat) (K : List ByteArray), k ≤ n ∧ i = .int .i64 k ∧ Hid (K = secF (es.take k)) ∧ K.length ≤ k ∧ Hid (OwnS wr w1.heap.size v K) ∧ Hid (Grows w1 wr)) (fun _ i _ => n - (intOf i).toNat)
    case atStart => exact ⟨0, [], Nat.zero_le _, rfl, by unfold Hid; rfl, Nat.zero_le _, OwnS.nil _ _, Grows.refl _⟩
    case round =>
      obtain ⟨k, K, hk, rfl, HK, hKk, HO, HG⟩ := hrel
      have hb0 := lbox_cell (HG0.out.trans HG.out)
      have hwr : w.heap.size < wr.heap.size := by have := (HG0.out.trans HG.out).size; simp at this; omega
      by_cases hlt : k < n
      · obtain ⟨b, o, rfl, hb, hc⟩ := HA.out (by rw [HN.out]; omega)
        have hk2 : k < es.length := by rw [HN.out]; exact hlt
        obtain ⟨x, hx⟩ : ∃ x, es[k] = x := ⟨_, rfl⟩
        have hat := (hc k hk2).keep hb (HG1.out.trans HG.out)
        have hfs := secF_step hk2
        rw [hx] at hat hfs
        obtain ⟨c0, c1, c2, c3⟩ := hat
        have HS : Hid (addT K x.s = secF (es.take (k + 1))) := by unfold Hid; rw [hfs, HK.out]
        have hal := addT_le K x.s
        have HC := Lib.hid (fun v w2 (hb2 : w1.heap.size ≤ w2.heap.size) (h : OwnS w2 w1.heap.size v K) => addOnceG_any v w1.heap.size K x.s w2 (by omega) hb2 h)
        unfold AddRet at HC
        clear hx hc hfs
        go_wp2_with fail
        refine (HC.out _ _ (Nat.le_trans HG.out.size (by simp)) (HO.out.keep (by repeat (first | exact Grows.refl _ | refine Grows.alloc ?_ _ | refine Grows.drew ?_ | refine Grows.drewN ?_ _)))).mono ?_
        rintro e w2 ⟨v', rfl, hv, g2⟩
        have HG2 : Hid (Grows w1 w2) := by
          refine Grows.trans2 (HG.out.trans ?_) g2
          repeat (first | exact Grows.refl _ | refine Grows.alloc ?_ _ | refine Grows.drew ?_ | refine Grows.drewN ?_ _)
        have HO2 := Lib.hid hv
        obtain ⟨A8, c8, rfl, _⟩ := hv.form
        clear g2 hv
        go_wp2
        go_roundw
        case rel => exact ⟨k + 1, addT K x.s, by omega, by go_num, HS, by omega, HO2, HG2⟩
        case measure => simp [intOf]; omega
      · obtain rfl : k = n := by omega
        have HR : Hid (K = secL es) := by unfold Hid; rw [HT.out, HK.out, ← HN.out, List.take_length]
        go_wp2
        go_ret
        rw [← HR.out]
        exact ⟨_, rfl, HO.out.less HG1.out.size, HG1.out.trans HG.out⟩
  · have hv' : vlayer es = false := by simpa using hv
    have HV : Hid (secL es = []) := by unfold Hid secL; rw [hv']; simp
    rw [hv'] at HI
    clear hv hv' hA hf 
    go_enter Tryd.func15, Tryd.ntmps15
    go_wp2_with fail
    refine (HI.out _ ((Grows.refl _).alloc _)).mono ?_
    rintro e w1 ⟨rfl, g1⟩
    go_wp2
    go_ret
    rw [HV.out]
    exact ⟨_, rfl, OwnS.nil _ _, ((Grows.refl _).alloc _).trans g1⟩
end Go.Proofs.YtgjineoiebokhaaDoor
