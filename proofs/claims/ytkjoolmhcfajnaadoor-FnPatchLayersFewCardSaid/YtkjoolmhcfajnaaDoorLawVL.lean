/-
  The laws of ValidLayer and IsFlat: whatever the layer, they return true. Conditions: parts no longer than a text may be.
-/
import Derived.Test.YtkjoolmhcfajnaaDoorLayY
namespace Go.Proofs.YtkjoolmhcfajnaaDoor
open Go.RowKit

theorem OwnE.formC {w : World} {base : Nat} {v : Value} {es : List Ent} (h : OwnE w base v es) : ∃ A c, v = .slice A es.length c ∧ es.length ≤ c ∧ EntsAt w A es := by
  obtain ⟨A, c, hv, hA⟩ := h.form
  refine ⟨A, c, hv, ?_, hA⟩
  rcases h.2 with ⟨h1, h0⟩ | ⟨g, cap, cur, h1, _, _, hc, _⟩
  · omega
  · rw [hv] at h1
    injection h1 with _ _ h3
    omega

/-- all entries set -/
def flatE (es : List Ent) : Bool := es.all fun e => decide (e.op = 0)
def vflat (es : List Ent) : Bool := flatE es && vlayer es
theorem vflat_no {es : List Ent} {k : Nat} (hk : k < es.length) (h : ¬ es[k].op = 0) : vflat es = false := by
  unfold vflat flatE
  rw [all_take_not (k := k + 1) (by rw [all_step hk]; simp [h])]; rfl

set_option maxRecDepth 100000 in
set_option maxHeartbeats 2000000 in
theorem specFlat0_any (A : Option Addr) (c : Nat) (es : List Ent) (w : World) (hc0 : es.length ≤ c) (hf : EFit es) (hA : EntsAt w A es) :
    Calls Tryd.prog 17 #[.agg #[.slice A es.length c]] w fun e w' => e = .returned (.bool (vflat es)) ∧ Grows w w' := by
  have hn := hf.1
  have HI := Lib.hid (fun w1 (g : Grows w w1) => specLayer_any A c es w1 hc0 hf (hA.keep g))
  have HA := Lib.hid hA
  clear hA hf hc0
  obtain ⟨n, hnn⟩ : ∃ n, es.length = n := ⟨_, rfl⟩
  rw [hnn] at hn HI
  rw [hnn]
  have HN := Lib.hid hnn
  clear hnn
  go_enter Tryd.func17, Tryd.ntmps17
  go_wp2
  go_loopw [3] (fun i wr => ∃ k : Nat, k ≤ n ∧ i = .int .i64 k ∧ Hid (flatE (es.take k) = true) ∧ Hid (Grows (w.alloc (lbox A n c)) wr)) (fun i _ => n - (intOf i).toNat)
  case atStart => exact ⟨0, Nat.zero_le _, rfl, by unfold Hid; rfl, Grows.refl _⟩
  case round =>
    obtain ⟨k, hk, rfl, HL, HG⟩ := hrel
    have hb0 := lbox_cell HG.out
    have hwr : w.heap.size < wr.heap.size := by have := HG.out.size; simp at this; omega
    by_cases hlt : k < n
    · obtain ⟨b, o, rfl, hb, hc⟩ := HA.out (by rw [HN.out]; omega)
      have hk2 : k < es.length := by rw [HN.out]; exact hlt
      obtain ⟨x, hx⟩ : ∃ x, es[k] = x := ⟨_, rfl⟩
      have hgr : Grows w wr := ((Grows.refl _).alloc _).trans HG.out
      have hat := (hc k hk2).keep hb hgr
      rw [hx] at hat
      obtain ⟨c0, c1, c2, c3⟩ := hat
      have HGR := Lib.hid hgr
      by_cases h0 : x.op = 0
      · have HS : Hid (flatE (es.take (k + 1)) = true) := by
          have h := HL.out
          unfold flatE at h
          unfold Hid flatE; rw [all_step hk2, h, hx]; simp [h0]
        obtain ⟨xs, xk, xo, xv⟩ := x
        simp only [] at *
        subst h0
        clear hx hc hgr
        go_wp2
        go_roundw
        case rel => exact ⟨k + 1, by omega, by go_num, HS, by first | exact HG | exact HG.out.alloc _⟩
        case measure => simp [intOf]; omega
      · have HZ : Hid (vflat es = false) := vflat_no hk2 (by rw [hx]; exact h0)
        have f0 : (x.op == 0) = false := by simp [h0]
        have f1 : (x.op != 0) = true := by simp [h0]
        clear hx hc hgr
        go_wp2
        go_ret
        exact ⟨ret_bool HZ.out.symm, by first | exact HGR.out | exact HGR.out.alloc _⟩
    · obtain rfl : k = n := by omega
      have HV : Hid (vflat es = vlayer es) := by
        have h := HL.out
        rw [List.take_of_length_le (by rw [HN.out]; exact Nat.le_refl _)] at h
        unfold Hid vflat
        rw [h]; rfl
      have hgr : Grows w wr := ((Grows.refl _).alloc _).trans HG.out
      go_wp2_with fail
      refine (HI.out _ hgr).mono ?_
      rintro e w1 ⟨rfl, g1⟩
      go_wp2
      go_ret
      exact ⟨ret_bool HV.out.symm, hgr.trans g1⟩

set_option maxRecDepth 100000 in
set_option maxHeartbeats 2000000 in
theorem implFlat_any (A : Option Addr) (c : Nat) (es : List Ent) (w : World) (hf : EFit es) (hA : EntsAt w A es) :
    Calls Tryd.prog 14 #[.agg #[.slice A es.length c]] w fun e w' => e = .returned (.bool (vflat es)) ∧ Grows w w' := by
  have hn := hf.1
  have HI := Lib.hid (fun w1 (g : Grows w w1) => implLayer_any A c es w1 hf (hA.keep g))
  have HA := Lib.hid hA
  clear hA hf 
  obtain ⟨n, hnn⟩ : ∃ n, es.length = n := ⟨_, rfl⟩
  rw [hnn] at hn HI
  rw [hnn]
  have HN := Lib.hid hnn
  clear hnn
  go_enter Tryd.func14, Tryd.ntmps14
  go_wp2
  go_loopw [8] (fun i wr => ∃ k : Nat, k ≤ n ∧ i = .int .i64 k ∧ Hid (flatE (es.take k) = true) ∧ Hid (Grows (w.alloc (lbox A n c)) wr)) (fun i _ => n - (intOf i).toNat)
  case atStart => exact ⟨0, Nat.zero_le _, rfl, by unfold Hid; rfl, Grows.refl _⟩
  case round =>
    obtain ⟨k, hk, rfl, HL, HG⟩ := hrel
    have hb0 := lbox_cell HG.out
    have hwr : w.heap.size < wr.heap.size := by have := HG.out.size; simp at this; omega
    by_cases hlt : k < n
    · obtain ⟨b, o, rfl, hb, hc⟩ := HA.out (by rw [HN.out]; omega)
      have hk2 : k < es.length := by rw [HN.out]; exact hlt
      obtain ⟨x, hx⟩ : ∃ x, es[k] = x := ⟨_, rfl⟩
      have hgr : Grows w wr := ((Grows.refl _).alloc _).trans HG.out
      have hat := (hc k hk2).keep hb hgr
      rw [hx] at hat
      obtain ⟨c0, c1, c2, c3⟩ := hat
      have HGR := Lib.hid hgr
      by_cases h0 : x.op = 0
      · have HS : Hid (flatE (es.take (k + 1)) = true) := by
          have h := HL.out
          unfold flatE at h
          unfold Hid flatE; rw [all_step hk2, h, hx]; simp [h0]
        obtain ⟨xs, xk, xo, xv⟩ := x
        simp only [] at *
        subst h0
        clear hx hc hgr
        go_wp2
        go_roundw
        case rel => exact ⟨k + 1, by omega, by go_num, HS, by first | exact HG | exact HG.out.alloc _⟩
        case measure => simp [intOf]; omega
      · have HZ : Hid (vflat es = false) := vflat_no hk2 (by rw [hx]; exact h0)
        have f0 : (x.op == 0) = false := by simp [h0]
        have f1 : (x.op != 0) = true := by simp [h0]
        clear hx hc hgr
        go_wp2
        go_ret
        exact ⟨ret_bool HZ.out.symm, by first | exact HGR.out | exact HGR.out.alloc _⟩
    · obtain rfl : k = n := by omega
      have HV : Hid (vflat es = vlayer es) := by
        have h := HL.out
        rw [List.take_of_length_le (by rw [HN.out]; exact Nat.le_refl _)] at h
        unfold Hid vflat
        rw [h]; rfl
      have hgr : Grows w wr := ((Grows.refl _).alloc _).trans HG.out
      go_wp2_with fail
      refine (HI.out _ hgr).mono ?_
      rintro e w1 ⟨rfl, g1⟩
      go_wp2
      go_ret
      exact ⟨ret_bool HV.out.symm, hgr.trans g1⟩

end Go.Proofs.YtkjoolmhcfajnaaDoor
